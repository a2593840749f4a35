/-
  ICMPFlows, by a run of each path over rows of bytes that are not looked into. Conditions: none.
-/
import Derived.Test.YtekanilgeigddaaEvRl
import Derived.Test.YtekanilgeigddaaEvP9
import Derived.Test.YtekanilgeigddaaHlp9
import Derived.Test.YtekanilgeigddaaEvV
import Derived.Test.YtekanilgeigddaaEvBd
import Derived.Test.YtekanilgeigddaaEvR9fa
import Derived.Test.YtekanilgeigddaaEvR9fb
import Derived.Test.YtekanilgeigddaaEvR9fc
import Derived.KernelRfl
import Derived.DeepKeys
namespace Go.Proofs.Ytekanilgeigddaa.ev
set_option maxRecDepth 1000000
set_option linter.unusedVariables false
set_option linter.unusedSimpArgs false
open Go.ChangeShapes Go.WideShapes Go.ChangeAt Go.RowKit Go.IntWalk Go.Lib
theorem ICMPFlowsRow (w : World) (R : Nat → Int) (hR : ∀ j, 0 ≤ R j ∧ R j ≤ 255) (A0 : Addr) (n0 cp0 : Nat) (w0 : RowIn R 1048576 w A0 n0 cp0) (hn : n0 ≤ 70000) (hm : 1 ≤ n0) : Calls Try.prog 8 #[.slice (some A0) n0 cp0] w (fun e w' => e = .returned (.bool true) ∧ Only [] w w') := by
  have rb1048576 := hR 1048576
  have rb1048582 := hR 1048582
  have rb1048583 := hR 1048583
  have rb1048585 := hR 1048585
  by_cases h1 : (n0 : Int) > 4000
  ·
    exact qfRow0 w R hR A0 n0 cp0 w0 hn hm h1
  ·
    by_cases h2 : 5 > ((n0 : Int) - 1)
    ·
      by_cases h3 : (n0 : Int) < 20
      ·
        exact qfRow1 w R hR A0 n0 cp0 w0 hn hm h1 h2 h3
      ·
        exfalso; omega
    ·
      by_cases h3 : 2 > ((n0 : Int) - 6)
      ·
        by_cases h4 : (n0 : Int) < 20
        ·
          exact qfRow2 w R hR A0 n0 cp0 w0 hn hm h1 h2 h3 h4
        ·
          exfalso; omega
      ·
        by_cases h4 : 1 > ((n0 : Int) - 8)
        ·
          by_cases h5 : (n0 : Int) < 20
          ·
            exact qfRow3 w R hR A0 n0 cp0 w0 hn hm h1 h2 h3 h4 h5
          ·
            exfalso; omega
        ·
          by_cases h5 : 1 > ((n0 : Int) - 9)
          ·
            by_cases h6 : (n0 : Int) < 20
            ·
              exact qfRow4 w R hR A0 n0 cp0 w0 hn hm h1 h2 h3 h4 h5 h6
            ·
              exfalso; omega
          ·
            by_cases h6 : 2 > ((n0 : Int) - 10)
            ·
              by_cases h7 : (n0 : Int) < 20
              ·
                exact qfRow5 w R hR A0 n0 cp0 w0 hn hm h1 h2 h3 h4 h5 h6 h7
              ·
                exfalso; omega
            ·
              by_cases h7 : 4 > ((n0 : Int) - 12)
              ·
                by_cases h8 : (n0 : Int) < 20
                ·
                  exact qfRow6 w R hR A0 n0 cp0 w0 hn hm h1 h2 h3 h4 h5 h6 h7 h8
                ·
                  exfalso; omega
              ·
                by_cases h8 : 4 > ((n0 : Int) - 16)
                ·
                  by_cases h9 : (n0 : Int) < 20
                  ·
                    exact qfRow7 w R hR A0 n0 cp0 w0 hn hm h1 h2 h3 h4 h5 h6 h7 h8 h9
                  ·
                    exfalso; omega
                ·
                  by_cases h9 : 0 > ((n0 : Int) - 20)
                  ·
                    exfalso; omega
                  ·
                    by_cases h10 : ((R 1048576) % 16) = 0
                    ·
                      by_cases h11 : ((R 1048576) / 16) = 4
                      ·
                        by_cases h12 : (n0 : Int) < 20
                        ·
                          exfalso; omega
                        ·
                          exact qfRow9 w R hR A0 n0 cp0 w0 hn hm h1 h2 h3 h4 h5 h6 h7 h8 h9 h10 h11 h12
                      ·
                        by_cases h12 : (n0 : Int) < 20
                        ·
                          exfalso; omega
                        ·
                          exact qfRow101 w R hR A0 n0 cp0 w0 hn hm h1 h2 h3 h4 h5 h6 h7 h8 h9 h10 h11 h12
                    ·
                      by_cases h11 : ((R 1048576) % 16) = 1
                      ·
                        by_cases h12 : ((R 1048576) / 16) = 4
                        ·
                          by_cases h13 : (n0 : Int) < 20
                          ·
                            exfalso; omega
                          ·
                            exact qfRow10 w R hR A0 n0 cp0 w0 hn hm h1 h2 h3 h4 h5 h6 h7 h8 h9 h10 h11 h12 h13
                        ·
                          by_cases h13 : (n0 : Int) < 20
                          ·
                            exfalso; omega
                          ·
                            exact qfRow102 w R hR A0 n0 cp0 w0 hn hm h1 h2 h3 h4 h5 h6 h7 h8 h9 h10 h11 h12 h13
                      ·
                        by_cases h12 : ((R 1048576) % 16) = 2
                        ·
                          by_cases h13 : ((R 1048576) / 16) = 4
                          ·
                            by_cases h14 : (n0 : Int) < 20
                            ·
                              exfalso; omega
                            ·
                              exact qfRow11 w R hR A0 n0 cp0 w0 hn hm h1 h2 h3 h4 h5 h6 h7 h8 h9 h10 h11 h12 h13 h14
                          ·
                            by_cases h14 : (n0 : Int) < 20
                            ·
                              exfalso; omega
                            ·
                              exact qfRow103 w R hR A0 n0 cp0 w0 hn hm h1 h2 h3 h4 h5 h6 h7 h8 h9 h10 h11 h12 h13 h14
                        ·
                          by_cases h13 : ((R 1048576) % 16) = 3
                          ·
                            by_cases h14 : ((R 1048576) / 16) = 4
                            ·
                              by_cases h15 : (n0 : Int) < 20
                              ·
                                exfalso; omega
                              ·
                                exact qfRow12 w R hR A0 n0 cp0 w0 hn hm h1 h2 h3 h4 h5 h6 h7 h8 h9 h10 h11 h12 h13 h14 h15
                            ·
                              by_cases h15 : (n0 : Int) < 20
                              ·
                                exfalso; omega
                              ·
                                exact qfRow104 w R hR A0 n0 cp0 w0 hn hm h1 h2 h3 h4 h5 h6 h7 h8 h9 h10 h11 h12 h13 h14 h15
                          ·
                            by_cases h14 : ((R 1048576) % 16) = 4
                            ·
                              by_cases h15 : ((R 1048576) / 16) = 4
                              ·
                                by_cases h16 : (n0 : Int) < 20
                                ·
                                  exfalso; omega
                                ·
                                  exact qfRow13 w R hR A0 n0 cp0 w0 hn hm h1 h2 h3 h4 h5 h6 h7 h8 h9 h10 h11 h12 h13 h14 h15 h16
                              ·
                                by_cases h16 : (n0 : Int) < 20
                                ·
                                  exfalso; omega
                                ·
                                  exact qfRow105 w R hR A0 n0 cp0 w0 hn hm h1 h2 h3 h4 h5 h6 h7 h8 h9 h10 h11 h12 h13 h14 h15 h16
                            ·
                              by_cases h15 : ((R 1048576) % 16) = 5
                              ·
                                by_cases h16 : ((R 1048576) / 16) = 4
                                ·
                                  by_cases h17 : (R 1048585) = 17
                                  ·
                                    by_cases h18 : ((((R 1048582) * 256) + (R 1048583)) % 8192) = 0
                                    ·
                                      by_cases h19 : ((n0 : Int) - 20) ≥ 4
                                      ·
                                        by_cases h20 : 2 > ((n0 : Int) - 22)
                                        ·
                                          exfalso; omega
                                        ·
                                          by_cases h21 : (n0 : Int) < 20
                                          ·
                                            exfalso; omega
                                          ·
                                            by_cases h22 : (n0 : Int) ≥ 24
                                            ·
                                              exact qfRow15 w R hR A0 n0 cp0 w0 hn hm h1 h2 h3 h4 h5 h6 h7 h8 h9 h10 h11 h12 h13 h14 h15 h16 h17 h18 h19 h20 h21 h22
                                            ·
                                              exfalso; omega
                                      ·
                                        by_cases h20 : (n0 : Int) < 20
                                        ·
                                          exfalso; omega
                                        ·
                                          by_cases h21 : (n0 : Int) ≥ 24
                                          ·
                                            exfalso; omega
                                          ·
                                            exact qfRow14 w R hR A0 n0 cp0 w0 hn hm h1 h2 h3 h4 h5 h6 h7 h8 h9 h10 h11 h12 h13 h14 h15 h16 h17 h18 h19 h20 h21
                                    ·
                                      by_cases h19 : (n0 : Int) < 20
                                      ·
                                        exfalso; omega
                                      ·
                                        by_cases h20 : (n0 : Int) ≥ 24
                                        ·
                                          exact qfRow16 w R hR A0 n0 cp0 w0 hn hm h1 h2 h3 h4 h5 h6 h7 h8 h9 h10 h11 h12 h13 h14 h15 h16 h17 h18 h19 h20
                                        ·
                                          exact qfRow116 w R hR A0 n0 cp0 w0 hn hm h1 h2 h3 h4 h5 h6 h7 h8 h9 h10 h11 h12 h13 h14 h15 h16 h17 h18 h19 h20
                                  ·
                                    by_cases h18 : (R 1048585) = 6
                                    ·
                                      by_cases h19 : ((((R 1048582) * 256) + (R 1048583)) % 8192) = 0
                                      ·
                                        by_cases h20 : ((n0 : Int) - 20) ≥ 4
                                        ·
                                          by_cases h21 : 2 > ((n0 : Int) - 22)
                                          ·
                                            exfalso; omega
                                          ·
                                            by_cases h22 : (n0 : Int) < 20
                                            ·
                                              exfalso; omega
                                            ·
                                              by_cases h23 : (n0 : Int) ≥ 24
                                              ·
                                                exact qfRow18 w R hR A0 n0 cp0 w0 hn hm h1 h2 h3 h4 h5 h6 h7 h8 h9 h10 h11 h12 h13 h14 h15 h16 h17 h18 h19 h20 h21 h22 h23
                                              ·
                                                exfalso; omega
                                        ·
                                          by_cases h21 : (n0 : Int) < 20
                                          ·
                                            exfalso; omega
                                          ·
                                            by_cases h22 : (n0 : Int) ≥ 24
                                            ·
                                              exfalso; omega
                                            ·
                                              exact qfRow17 w R hR A0 n0 cp0 w0 hn hm h1 h2 h3 h4 h5 h6 h7 h8 h9 h10 h11 h12 h13 h14 h15 h16 h17 h18 h19 h20 h21 h22
                                      ·
                                        by_cases h20 : (n0 : Int) < 20
                                        ·
                                          exfalso; omega
                                        ·
                                          by_cases h21 : (n0 : Int) ≥ 24
                                          ·
                                            exact qfRow19 w R hR A0 n0 cp0 w0 hn hm h1 h2 h3 h4 h5 h6 h7 h8 h9 h10 h11 h12 h13 h14 h15 h16 h17 h18 h19 h20 h21
                                          ·
                                            exact qfRow117 w R hR A0 n0 cp0 w0 hn hm h1 h2 h3 h4 h5 h6 h7 h8 h9 h10 h11 h12 h13 h14 h15 h16 h17 h18 h19 h20 h21
                                    ·
                                      by_cases h19 : (n0 : Int) < 20
                                      ·
                                        exfalso; omega
                                      ·
                                        exact qfRow20 w R hR A0 n0 cp0 w0 hn hm h1 h2 h3 h4 h5 h6 h7 h8 h9 h10 h11 h12 h13 h14 h15 h16 h17 h18 h19
                                ·
                                  by_cases h17 : (n0 : Int) < 20
                                  ·
                                    exfalso; omega
                                  ·
                                    exact qfRow8 w R hR A0 n0 cp0 w0 hn hm h1 h2 h3 h4 h5 h6 h7 h8 h9 h10 h11 h12 h13 h14 h15 h16 h17
                              ·
                                by_cases h16 : ((R 1048576) % 16) = 6
                                ·
                                  by_cases h17 : ((R 1048576) / 16) = 4
                                  ·
                                    by_cases h18 : 4 > ((n0 : Int) - 20)
                                    ·
                                      by_cases h19 : (n0 : Int) < 20
                                      ·
                                        exfalso; omega
                                      ·
                                        by_cases h20 : 24 > (n0 : Int)
                                        ·
                                          exact qfRow21 w R hR A0 n0 cp0 w0 hn hm h1 h2 h3 h4 h5 h6 h7 h8 h9 h10 h11 h12 h13 h14 h15 h16 h17 h18 h19 h20
                                        ·
                                          exfalso; omega
                                    ·
                                      by_cases h19 : 0 > ((n0 : Int) - 24)
                                      ·
                                        exfalso; omega
                                      ·
                                        by_cases h20 : (R 1048585) = 17
                                        ·
                                          by_cases h21 : ((((R 1048582) * 256) + (R 1048583)) % 8192) = 0
                                          ·
                                            by_cases h22 : ((n0 : Int) - 24) ≥ 4
                                            ·
                                              by_cases h23 : 2 > ((n0 : Int) - 26)
                                              ·
                                                exfalso; omega
                                              ·
                                                by_cases h24 : (n0 : Int) < 20
                                                ·
                                                  exfalso; omega
                                                ·
                                                  by_cases h25 : 24 > (n0 : Int)
                                                  ·
                                                    exfalso; omega
                                                  ·
                                                    by_cases h26 : (n0 : Int) ≥ 28
                                                    ·
                                                      exact qfRow23 w R hR A0 n0 cp0 w0 hn hm h1 h2 h3 h4 h5 h6 h7 h8 h9 h10 h11 h12 h13 h14 h15 h16 h17 h18 h19 h20 h21 h22 h23 h24 h25 h26
                                                    ·
                                                      exfalso; omega
                                            ·
                                              by_cases h23 : (n0 : Int) < 20
                                              ·
                                                exfalso; omega
                                              ·
                                                by_cases h24 : 24 > (n0 : Int)
                                                ·
                                                  exfalso; omega
                                                ·
                                                  by_cases h25 : (n0 : Int) ≥ 28
                                                  ·
                                                    exfalso; omega
                                                  ·
                                                    exact qfRow22 w R hR A0 n0 cp0 w0 hn hm h1 h2 h3 h4 h5 h6 h7 h8 h9 h10 h11 h12 h13 h14 h15 h16 h17 h18 h19 h20 h21 h22 h23 h24 h25
                                          ·
                                            by_cases h22 : (n0 : Int) < 20
                                            ·
                                              exfalso; omega
                                            ·
                                              by_cases h23 : 24 > (n0 : Int)
                                              ·
                                                exfalso; omega
                                              ·
                                                by_cases h24 : (n0 : Int) ≥ 28
                                                ·
                                                  exact qfRow24 w R hR A0 n0 cp0 w0 hn hm h1 h2 h3 h4 h5 h6 h7 h8 h9 h10 h11 h12 h13 h14 h15 h16 h17 h18 h19 h20 h21 h22 h23 h24
                                                ·
                                                  exact qfRow118 w R hR A0 n0 cp0 w0 hn hm h1 h2 h3 h4 h5 h6 h7 h8 h9 h10 h11 h12 h13 h14 h15 h16 h17 h18 h19 h20 h21 h22 h23 h24
                                        ·
                                          by_cases h21 : (R 1048585) = 6
                                          ·
                                            by_cases h22 : ((((R 1048582) * 256) + (R 1048583)) % 8192) = 0
                                            ·
                                              by_cases h23 : ((n0 : Int) - 24) ≥ 4
                                              ·
                                                by_cases h24 : 2 > ((n0 : Int) - 26)
                                                ·
                                                  exfalso; omega
                                                ·
                                                  by_cases h25 : (n0 : Int) < 20
                                                  ·
                                                    exfalso; omega
                                                  ·
                                                    by_cases h26 : 24 > (n0 : Int)
                                                    ·
                                                      exfalso; omega
                                                    ·
                                                      by_cases h27 : (n0 : Int) ≥ 28
                                                      ·
                                                        exact qfRow26 w R hR A0 n0 cp0 w0 hn hm h1 h2 h3 h4 h5 h6 h7 h8 h9 h10 h11 h12 h13 h14 h15 h16 h17 h18 h19 h20 h21 h22 h23 h24 h25 h26 h27
                                                      ·
                                                        exfalso; omega
                                              ·
                                                by_cases h24 : (n0 : Int) < 20
                                                ·
                                                  exfalso; omega
                                                ·
                                                  by_cases h25 : 24 > (n0 : Int)
                                                  ·
                                                    exfalso; omega
                                                  ·
                                                    by_cases h26 : (n0 : Int) ≥ 28
                                                    ·
                                                      exfalso; omega
                                                    ·
                                                      exact qfRow25 w R hR A0 n0 cp0 w0 hn hm h1 h2 h3 h4 h5 h6 h7 h8 h9 h10 h11 h12 h13 h14 h15 h16 h17 h18 h19 h20 h21 h22 h23 h24 h25 h26
                                            ·
                                              by_cases h23 : (n0 : Int) < 20
                                              ·
                                                exfalso; omega
                                              ·
                                                by_cases h24 : 24 > (n0 : Int)
                                                ·
                                                  exfalso; omega
                                                ·
                                                  by_cases h25 : (n0 : Int) ≥ 28
                                                  ·
                                                    exact qfRow27 w R hR A0 n0 cp0 w0 hn hm h1 h2 h3 h4 h5 h6 h7 h8 h9 h10 h11 h12 h13 h14 h15 h16 h17 h18 h19 h20 h21 h22 h23 h24 h25
                                                  ·
                                                    exact qfRow119 w R hR A0 n0 cp0 w0 hn hm h1 h2 h3 h4 h5 h6 h7 h8 h9 h10 h11 h12 h13 h14 h15 h16 h17 h18 h19 h20 h21 h22 h23 h24 h25
                                          ·
                                            by_cases h22 : (n0 : Int) < 20
                                            ·
                                              exfalso; omega
                                            ·
                                              by_cases h23 : 24 > (n0 : Int)
                                              ·
                                                exfalso; omega
                                              ·
                                                exact qfRow28 w R hR A0 n0 cp0 w0 hn hm h1 h2 h3 h4 h5 h6 h7 h8 h9 h10 h11 h12 h13 h14 h15 h16 h17 h18 h19 h20 h21 h22 h23
                                  ·
                                    by_cases h18 : (n0 : Int) < 20
                                    ·
                                      exfalso; omega
                                    ·
                                      exact qfRow106 w R hR A0 n0 cp0 w0 hn hm h1 h2 h3 h4 h5 h6 h7 h8 h9 h10 h11 h12 h13 h14 h15 h16 h17 h18
                                ·
                                  by_cases h17 : ((R 1048576) % 16) = 7
                                  ·
                                    by_cases h18 : ((R 1048576) / 16) = 4
                                    ·
                                      by_cases h19 : 8 > ((n0 : Int) - 20)
                                      ·
                                        by_cases h20 : (n0 : Int) < 20
                                        ·
                                          exfalso; omega
                                        ·
                                          by_cases h21 : 28 > (n0 : Int)
                                          ·
                                            exact qfRow29 w R hR A0 n0 cp0 w0 hn hm h1 h2 h3 h4 h5 h6 h7 h8 h9 h10 h11 h12 h13 h14 h15 h16 h17 h18 h19 h20 h21
                                          ·
                                            exfalso; omega
                                      ·
                                        by_cases h20 : 0 > ((n0 : Int) - 28)
                                        ·
                                          exfalso; omega
                                        ·
                                          by_cases h21 : (R 1048585) = 17
                                          ·
                                            by_cases h22 : ((((R 1048582) * 256) + (R 1048583)) % 8192) = 0
                                            ·
                                              by_cases h23 : ((n0 : Int) - 28) ≥ 4
                                              ·
                                                by_cases h24 : 2 > ((n0 : Int) - 30)
                                                ·
                                                  exfalso; omega
                                                ·
                                                  by_cases h25 : (n0 : Int) < 20
                                                  ·
                                                    exfalso; omega
                                                  ·
                                                    by_cases h26 : 28 > (n0 : Int)
                                                    ·
                                                      exfalso; omega
                                                    ·
                                                      by_cases h27 : (n0 : Int) ≥ 32
                                                      ·
                                                        exact qfRow31 w R hR A0 n0 cp0 w0 hn hm h1 h2 h3 h4 h5 h6 h7 h8 h9 h10 h11 h12 h13 h14 h15 h16 h17 h18 h19 h20 h21 h22 h23 h24 h25 h26 h27
                                                      ·
                                                        exfalso; omega
                                              ·
                                                by_cases h24 : (n0 : Int) < 20
                                                ·
                                                  exfalso; omega
                                                ·
                                                  by_cases h25 : 28 > (n0 : Int)
                                                  ·
                                                    exfalso; omega
                                                  ·
                                                    by_cases h26 : (n0 : Int) ≥ 32
                                                    ·
                                                      exfalso; omega
                                                    ·
                                                      exact qfRow30 w R hR A0 n0 cp0 w0 hn hm h1 h2 h3 h4 h5 h6 h7 h8 h9 h10 h11 h12 h13 h14 h15 h16 h17 h18 h19 h20 h21 h22 h23 h24 h25 h26
                                            ·
                                              by_cases h23 : (n0 : Int) < 20
                                              ·
                                                exfalso; omega
                                              ·
                                                by_cases h24 : 28 > (n0 : Int)
                                                ·
                                                  exfalso; omega
                                                ·
                                                  by_cases h25 : (n0 : Int) ≥ 32
                                                  ·
                                                    exact qfRow32 w R hR A0 n0 cp0 w0 hn hm h1 h2 h3 h4 h5 h6 h7 h8 h9 h10 h11 h12 h13 h14 h15 h16 h17 h18 h19 h20 h21 h22 h23 h24 h25
                                                  ·
                                                    exact qfRow120 w R hR A0 n0 cp0 w0 hn hm h1 h2 h3 h4 h5 h6 h7 h8 h9 h10 h11 h12 h13 h14 h15 h16 h17 h18 h19 h20 h21 h22 h23 h24 h25
                                          ·
                                            by_cases h22 : (R 1048585) = 6
                                            ·
                                              by_cases h23 : ((((R 1048582) * 256) + (R 1048583)) % 8192) = 0
                                              ·
                                                by_cases h24 : ((n0 : Int) - 28) ≥ 4
                                                ·
                                                  by_cases h25 : 2 > ((n0 : Int) - 30)
                                                  ·
                                                    exfalso; omega
                                                  ·
                                                    by_cases h26 : (n0 : Int) < 20
                                                    ·
                                                      exfalso; omega
                                                    ·
                                                      by_cases h27 : 28 > (n0 : Int)
                                                      ·
                                                        exfalso; omega
                                                      ·
                                                        by_cases h28 : (n0 : Int) ≥ 32
                                                        ·
                                                          exact qfRow34 w R hR A0 n0 cp0 w0 hn hm h1 h2 h3 h4 h5 h6 h7 h8 h9 h10 h11 h12 h13 h14 h15 h16 h17 h18 h19 h20 h21 h22 h23 h24 h25 h26 h27 h28
                                                        ·
                                                          exfalso; omega
                                                ·
                                                  by_cases h25 : (n0 : Int) < 20
                                                  ·
                                                    exfalso; omega
                                                  ·
                                                    by_cases h26 : 28 > (n0 : Int)
                                                    ·
                                                      exfalso; omega
                                                    ·
                                                      by_cases h27 : (n0 : Int) ≥ 32
                                                      ·
                                                        exfalso; omega
                                                      ·
                                                        exact qfRow33 w R hR A0 n0 cp0 w0 hn hm h1 h2 h3 h4 h5 h6 h7 h8 h9 h10 h11 h12 h13 h14 h15 h16 h17 h18 h19 h20 h21 h22 h23 h24 h25 h26 h27
                                              ·
                                                by_cases h24 : (n0 : Int) < 20
                                                ·
                                                  exfalso; omega
                                                ·
                                                  by_cases h25 : 28 > (n0 : Int)
                                                  ·
                                                    exfalso; omega
                                                  ·
                                                    by_cases h26 : (n0 : Int) ≥ 32
                                                    ·
                                                      exact qfRow35 w R hR A0 n0 cp0 w0 hn hm h1 h2 h3 h4 h5 h6 h7 h8 h9 h10 h11 h12 h13 h14 h15 h16 h17 h18 h19 h20 h21 h22 h23 h24 h25 h26
                                                    ·
                                                      exact qfRow121 w R hR A0 n0 cp0 w0 hn hm h1 h2 h3 h4 h5 h6 h7 h8 h9 h10 h11 h12 h13 h14 h15 h16 h17 h18 h19 h20 h21 h22 h23 h24 h25 h26
                                            ·
                                              by_cases h23 : (n0 : Int) < 20
                                              ·
                                                exfalso; omega
                                              ·
                                                by_cases h24 : 28 > (n0 : Int)
                                                ·
                                                  exfalso; omega
                                                ·
                                                  exact qfRow36 w R hR A0 n0 cp0 w0 hn hm h1 h2 h3 h4 h5 h6 h7 h8 h9 h10 h11 h12 h13 h14 h15 h16 h17 h18 h19 h20 h21 h22 h23 h24
                                    ·
                                      by_cases h19 : (n0 : Int) < 20
                                      ·
                                        exfalso; omega
                                      ·
                                        exact qfRow107 w R hR A0 n0 cp0 w0 hn hm h1 h2 h3 h4 h5 h6 h7 h8 h9 h10 h11 h12 h13 h14 h15 h16 h17 h18 h19
                                  ·
                                    by_cases h18 : ((R 1048576) % 16) = 8
                                    ·
                                      by_cases h19 : ((R 1048576) / 16) = 4
                                      ·
                                        by_cases h20 : 12 > ((n0 : Int) - 20)
                                        ·
                                          by_cases h21 : (n0 : Int) < 20
                                          ·
                                            exfalso; omega
                                          ·
                                            by_cases h22 : 32 > (n0 : Int)
                                            ·
                                              exact qfRow37 w R hR A0 n0 cp0 w0 hn hm h1 h2 h3 h4 h5 h6 h7 h8 h9 h10 h11 h12 h13 h14 h15 h16 h17 h18 h19 h20 h21 h22
                                            ·
                                              exfalso; omega
                                        ·
                                          by_cases h21 : 0 > ((n0 : Int) - 32)
                                          ·
                                            exfalso; omega
                                          ·
                                            by_cases h22 : (R 1048585) = 17
                                            ·
                                              by_cases h23 : ((((R 1048582) * 256) + (R 1048583)) % 8192) = 0
                                              ·
                                                by_cases h24 : ((n0 : Int) - 32) ≥ 4
                                                ·
                                                  by_cases h25 : 2 > ((n0 : Int) - 34)
                                                  ·
                                                    exfalso; omega
                                                  ·
                                                    by_cases h26 : (n0 : Int) < 20
                                                    ·
                                                      exfalso; omega
                                                    ·
                                                      by_cases h27 : 32 > (n0 : Int)
                                                      ·
                                                        exfalso; omega
                                                      ·
                                                        by_cases h28 : (n0 : Int) ≥ 36
                                                        ·
                                                          exact qfRow39 w R hR A0 n0 cp0 w0 hn hm h1 h2 h3 h4 h5 h6 h7 h8 h9 h10 h11 h12 h13 h14 h15 h16 h17 h18 h19 h20 h21 h22 h23 h24 h25 h26 h27 h28
                                                        ·
                                                          exfalso; omega
                                                ·
                                                  by_cases h25 : (n0 : Int) < 20
                                                  ·
                                                    exfalso; omega
                                                  ·
                                                    by_cases h26 : 32 > (n0 : Int)
                                                    ·
                                                      exfalso; omega
                                                    ·
                                                      by_cases h27 : (n0 : Int) ≥ 36
                                                      ·
                                                        exfalso; omega
                                                      ·
                                                        exact qfRow38 w R hR A0 n0 cp0 w0 hn hm h1 h2 h3 h4 h5 h6 h7 h8 h9 h10 h11 h12 h13 h14 h15 h16 h17 h18 h19 h20 h21 h22 h23 h24 h25 h26 h27
                                              ·
                                                by_cases h24 : (n0 : Int) < 20
                                                ·
                                                  exfalso; omega
                                                ·
                                                  by_cases h25 : 32 > (n0 : Int)
                                                  ·
                                                    exfalso; omega
                                                  ·
                                                    by_cases h26 : (n0 : Int) ≥ 36
                                                    ·
                                                      exact qfRow40 w R hR A0 n0 cp0 w0 hn hm h1 h2 h3 h4 h5 h6 h7 h8 h9 h10 h11 h12 h13 h14 h15 h16 h17 h18 h19 h20 h21 h22 h23 h24 h25 h26
                                                    ·
                                                      exact qfRow122 w R hR A0 n0 cp0 w0 hn hm h1 h2 h3 h4 h5 h6 h7 h8 h9 h10 h11 h12 h13 h14 h15 h16 h17 h18 h19 h20 h21 h22 h23 h24 h25 h26
                                            ·
                                              by_cases h23 : (R 1048585) = 6
                                              ·
                                                by_cases h24 : ((((R 1048582) * 256) + (R 1048583)) % 8192) = 0
                                                ·
                                                  by_cases h25 : ((n0 : Int) - 32) ≥ 4
                                                  ·
                                                    by_cases h26 : 2 > ((n0 : Int) - 34)
                                                    ·
                                                      exfalso; omega
                                                    ·
                                                      by_cases h27 : (n0 : Int) < 20
                                                      ·
                                                        exfalso; omega
                                                      ·
                                                        by_cases h28 : 32 > (n0 : Int)
                                                        ·
                                                          exfalso; omega
                                                        ·
                                                          by_cases h29 : (n0 : Int) ≥ 36
                                                          ·
                                                            exact qfRow42 w R hR A0 n0 cp0 w0 hn hm h1 h2 h3 h4 h5 h6 h7 h8 h9 h10 h11 h12 h13 h14 h15 h16 h17 h18 h19 h20 h21 h22 h23 h24 h25 h26 h27 h28 h29
                                                          ·
                                                            exfalso; omega
                                                  ·
                                                    by_cases h26 : (n0 : Int) < 20
                                                    ·
                                                      exfalso; omega
                                                    ·
                                                      by_cases h27 : 32 > (n0 : Int)
                                                      ·
                                                        exfalso; omega
                                                      ·
                                                        by_cases h28 : (n0 : Int) ≥ 36
                                                        ·
                                                          exfalso; omega
                                                        ·
                                                          exact qfRow41 w R hR A0 n0 cp0 w0 hn hm h1 h2 h3 h4 h5 h6 h7 h8 h9 h10 h11 h12 h13 h14 h15 h16 h17 h18 h19 h20 h21 h22 h23 h24 h25 h26 h27 h28
                                                ·
                                                  by_cases h25 : (n0 : Int) < 20
                                                  ·
                                                    exfalso; omega
                                                  ·
                                                    by_cases h26 : 32 > (n0 : Int)
                                                    ·
                                                      exfalso; omega
                                                    ·
                                                      by_cases h27 : (n0 : Int) ≥ 36
                                                      ·
                                                        exact qfRow43 w R hR A0 n0 cp0 w0 hn hm h1 h2 h3 h4 h5 h6 h7 h8 h9 h10 h11 h12 h13 h14 h15 h16 h17 h18 h19 h20 h21 h22 h23 h24 h25 h26 h27
                                                      ·
                                                        exact qfRow123 w R hR A0 n0 cp0 w0 hn hm h1 h2 h3 h4 h5 h6 h7 h8 h9 h10 h11 h12 h13 h14 h15 h16 h17 h18 h19 h20 h21 h22 h23 h24 h25 h26 h27
                                              ·
                                                by_cases h24 : (n0 : Int) < 20
                                                ·
                                                  exfalso; omega
                                                ·
                                                  by_cases h25 : 32 > (n0 : Int)
                                                  ·
                                                    exfalso; omega
                                                  ·
                                                    exact qfRow44 w R hR A0 n0 cp0 w0 hn hm h1 h2 h3 h4 h5 h6 h7 h8 h9 h10 h11 h12 h13 h14 h15 h16 h17 h18 h19 h20 h21 h22 h23 h24 h25
                                      ·
                                        by_cases h20 : (n0 : Int) < 20
                                        ·
                                          exfalso; omega
                                        ·
                                          exact qfRow108 w R hR A0 n0 cp0 w0 hn hm h1 h2 h3 h4 h5 h6 h7 h8 h9 h10 h11 h12 h13 h14 h15 h16 h17 h18 h19 h20
                                    ·
                                      by_cases h19 : ((R 1048576) % 16) = 9
                                      ·
                                        by_cases h20 : ((R 1048576) / 16) = 4
                                        ·
                                          by_cases h21 : 16 > ((n0 : Int) - 20)
                                          ·
                                            by_cases h22 : (n0 : Int) < 20
                                            ·
                                              exfalso; omega
                                            ·
                                              by_cases h23 : 36 > (n0 : Int)
                                              ·
                                                exact qfRow45 w R hR A0 n0 cp0 w0 hn hm h1 h2 h3 h4 h5 h6 h7 h8 h9 h10 h11 h12 h13 h14 h15 h16 h17 h18 h19 h20 h21 h22 h23
                                              ·
                                                exfalso; omega
                                          ·
                                            by_cases h22 : 0 > ((n0 : Int) - 36)
                                            ·
                                              exfalso; omega
                                            ·
                                              by_cases h23 : (R 1048585) = 17
                                              ·
                                                by_cases h24 : ((((R 1048582) * 256) + (R 1048583)) % 8192) = 0
                                                ·
                                                  by_cases h25 : ((n0 : Int) - 36) ≥ 4
                                                  ·
                                                    by_cases h26 : 2 > ((n0 : Int) - 38)
                                                    ·
                                                      exfalso; omega
                                                    ·
                                                      by_cases h27 : (n0 : Int) < 20
                                                      ·
                                                        exfalso; omega
                                                      ·
                                                        by_cases h28 : 36 > (n0 : Int)
                                                        ·
                                                          exfalso; omega
                                                        ·
                                                          by_cases h29 : (n0 : Int) ≥ 40
                                                          ·
                                                            exact qfRow47 w R hR A0 n0 cp0 w0 hn hm h1 h2 h3 h4 h5 h6 h7 h8 h9 h10 h11 h12 h13 h14 h15 h16 h17 h18 h19 h20 h21 h22 h23 h24 h25 h26 h27 h28 h29
                                                          ·
                                                            exfalso; omega
                                                  ·
                                                    by_cases h26 : (n0 : Int) < 20
                                                    ·
                                                      exfalso; omega
                                                    ·
                                                      by_cases h27 : 36 > (n0 : Int)
                                                      ·
                                                        exfalso; omega
                                                      ·
                                                        by_cases h28 : (n0 : Int) ≥ 40
                                                        ·
                                                          exfalso; omega
                                                        ·
                                                          exact qfRow46 w R hR A0 n0 cp0 w0 hn hm h1 h2 h3 h4 h5 h6 h7 h8 h9 h10 h11 h12 h13 h14 h15 h16 h17 h18 h19 h20 h21 h22 h23 h24 h25 h26 h27 h28
                                                ·
                                                  by_cases h25 : (n0 : Int) < 20
                                                  ·
                                                    exfalso; omega
                                                  ·
                                                    by_cases h26 : 36 > (n0 : Int)
                                                    ·
                                                      exfalso; omega
                                                    ·
                                                      by_cases h27 : (n0 : Int) ≥ 40
                                                      ·
                                                        exact qfRow48 w R hR A0 n0 cp0 w0 hn hm h1 h2 h3 h4 h5 h6 h7 h8 h9 h10 h11 h12 h13 h14 h15 h16 h17 h18 h19 h20 h21 h22 h23 h24 h25 h26 h27
                                                      ·
                                                        exact qfRow124 w R hR A0 n0 cp0 w0 hn hm h1 h2 h3 h4 h5 h6 h7 h8 h9 h10 h11 h12 h13 h14 h15 h16 h17 h18 h19 h20 h21 h22 h23 h24 h25 h26 h27
                                              ·
                                                by_cases h24 : (R 1048585) = 6
                                                ·
                                                  by_cases h25 : ((((R 1048582) * 256) + (R 1048583)) % 8192) = 0
                                                  ·
                                                    by_cases h26 : ((n0 : Int) - 36) ≥ 4
                                                    ·
                                                      by_cases h27 : 2 > ((n0 : Int) - 38)
                                                      ·
                                                        exfalso; omega
                                                      ·
                                                        by_cases h28 : (n0 : Int) < 20
                                                        ·
                                                          exfalso; omega
                                                        ·
                                                          by_cases h29 : 36 > (n0 : Int)
                                                          ·
                                                            exfalso; omega
                                                          ·
                                                            by_cases h30 : (n0 : Int) ≥ 40
                                                            ·
                                                              exact qfRow50 w R hR A0 n0 cp0 w0 hn hm h1 h2 h3 h4 h5 h6 h7 h8 h9 h10 h11 h12 h13 h14 h15 h16 h17 h18 h19 h20 h21 h22 h23 h24 h25 h26 h27 h28 h29 h30
                                                            ·
                                                              exfalso; omega
                                                    ·
                                                      by_cases h27 : (n0 : Int) < 20
                                                      ·
                                                        exfalso; omega
                                                      ·
                                                        by_cases h28 : 36 > (n0 : Int)
                                                        ·
                                                          exfalso; omega
                                                        ·
                                                          by_cases h29 : (n0 : Int) ≥ 40
                                                          ·
                                                            exfalso; omega
                                                          ·
                                                            exact qfRow49 w R hR A0 n0 cp0 w0 hn hm h1 h2 h3 h4 h5 h6 h7 h8 h9 h10 h11 h12 h13 h14 h15 h16 h17 h18 h19 h20 h21 h22 h23 h24 h25 h26 h27 h28 h29
                                                  ·
                                                    by_cases h26 : (n0 : Int) < 20
                                                    ·
                                                      exfalso; omega
                                                    ·
                                                      by_cases h27 : 36 > (n0 : Int)
                                                      ·
                                                        exfalso; omega
                                                      ·
                                                        by_cases h28 : (n0 : Int) ≥ 40
                                                        ·
                                                          exact qfRow51 w R hR A0 n0 cp0 w0 hn hm h1 h2 h3 h4 h5 h6 h7 h8 h9 h10 h11 h12 h13 h14 h15 h16 h17 h18 h19 h20 h21 h22 h23 h24 h25 h26 h27 h28
                                                        ·
                                                          exact qfRow125 w R hR A0 n0 cp0 w0 hn hm h1 h2 h3 h4 h5 h6 h7 h8 h9 h10 h11 h12 h13 h14 h15 h16 h17 h18 h19 h20 h21 h22 h23 h24 h25 h26 h27 h28
                                                ·
                                                  by_cases h25 : (n0 : Int) < 20
                                                  ·
                                                    exfalso; omega
                                                  ·
                                                    by_cases h26 : 36 > (n0 : Int)
                                                    ·
                                                      exfalso; omega
                                                    ·
                                                      exact qfRow52 w R hR A0 n0 cp0 w0 hn hm h1 h2 h3 h4 h5 h6 h7 h8 h9 h10 h11 h12 h13 h14 h15 h16 h17 h18 h19 h20 h21 h22 h23 h24 h25 h26
                                        ·
                                          by_cases h21 : (n0 : Int) < 20
                                          ·
                                            exfalso; omega
                                          ·
                                            exact qfRow109 w R hR A0 n0 cp0 w0 hn hm h1 h2 h3 h4 h5 h6 h7 h8 h9 h10 h11 h12 h13 h14 h15 h16 h17 h18 h19 h20 h21
                                      ·
                                        by_cases h20 : ((R 1048576) % 16) = 10
                                        ·
                                          by_cases h21 : ((R 1048576) / 16) = 4
                                          ·
                                            by_cases h22 : 20 > ((n0 : Int) - 20)
                                            ·
                                              by_cases h23 : (n0 : Int) < 20
                                              ·
                                                exfalso; omega
                                              ·
                                                by_cases h24 : 40 > (n0 : Int)
                                                ·
                                                  exact qfRow53 w R hR A0 n0 cp0 w0 hn hm h1 h2 h3 h4 h5 h6 h7 h8 h9 h10 h11 h12 h13 h14 h15 h16 h17 h18 h19 h20 h21 h22 h23 h24
                                                ·
                                                  exfalso; omega
                                            ·
                                              by_cases h23 : 0 > ((n0 : Int) - 40)
                                              ·
                                                exfalso; omega
                                              ·
                                                by_cases h24 : (R 1048585) = 17
                                                ·
                                                  by_cases h25 : ((((R 1048582) * 256) + (R 1048583)) % 8192) = 0
                                                  ·
                                                    by_cases h26 : ((n0 : Int) - 40) ≥ 4
                                                    ·
                                                      by_cases h27 : 2 > ((n0 : Int) - 42)
                                                      ·
                                                        exfalso; omega
                                                      ·
                                                        by_cases h28 : (n0 : Int) < 20
                                                        ·
                                                          exfalso; omega
                                                        ·
                                                          by_cases h29 : 40 > (n0 : Int)
                                                          ·
                                                            exfalso; omega
                                                          ·
                                                            by_cases h30 : (n0 : Int) ≥ 44
                                                            ·
                                                              exact qfRow55 w R hR A0 n0 cp0 w0 hn hm h1 h2 h3 h4 h5 h6 h7 h8 h9 h10 h11 h12 h13 h14 h15 h16 h17 h18 h19 h20 h21 h22 h23 h24 h25 h26 h27 h28 h29 h30
                                                            ·
                                                              exfalso; omega
                                                    ·
                                                      by_cases h27 : (n0 : Int) < 20
                                                      ·
                                                        exfalso; omega
                                                      ·
                                                        by_cases h28 : 40 > (n0 : Int)
                                                        ·
                                                          exfalso; omega
                                                        ·
                                                          by_cases h29 : (n0 : Int) ≥ 44
                                                          ·
                                                            exfalso; omega
                                                          ·
                                                            exact qfRow54 w R hR A0 n0 cp0 w0 hn hm h1 h2 h3 h4 h5 h6 h7 h8 h9 h10 h11 h12 h13 h14 h15 h16 h17 h18 h19 h20 h21 h22 h23 h24 h25 h26 h27 h28 h29
                                                  ·
                                                    by_cases h26 : (n0 : Int) < 20
                                                    ·
                                                      exfalso; omega
                                                    ·
                                                      by_cases h27 : 40 > (n0 : Int)
                                                      ·
                                                        exfalso; omega
                                                      ·
                                                        by_cases h28 : (n0 : Int) ≥ 44
                                                        ·
                                                          exact qfRow56 w R hR A0 n0 cp0 w0 hn hm h1 h2 h3 h4 h5 h6 h7 h8 h9 h10 h11 h12 h13 h14 h15 h16 h17 h18 h19 h20 h21 h22 h23 h24 h25 h26 h27 h28
                                                        ·
                                                          exact qfRow126 w R hR A0 n0 cp0 w0 hn hm h1 h2 h3 h4 h5 h6 h7 h8 h9 h10 h11 h12 h13 h14 h15 h16 h17 h18 h19 h20 h21 h22 h23 h24 h25 h26 h27 h28
                                                ·
                                                  by_cases h25 : (R 1048585) = 6
                                                  ·
                                                    by_cases h26 : ((((R 1048582) * 256) + (R 1048583)) % 8192) = 0
                                                    ·
                                                      by_cases h27 : ((n0 : Int) - 40) ≥ 4
                                                      ·
                                                        by_cases h28 : 2 > ((n0 : Int) - 42)
                                                        ·
                                                          exfalso; omega
                                                        ·
                                                          by_cases h29 : (n0 : Int) < 20
                                                          ·
                                                            exfalso; omega
                                                          ·
                                                            by_cases h30 : 40 > (n0 : Int)
                                                            ·
                                                              exfalso; omega
                                                            ·
                                                              by_cases h31 : (n0 : Int) ≥ 44
                                                              ·
                                                                exact qfRow58 w R hR A0 n0 cp0 w0 hn hm h1 h2 h3 h4 h5 h6 h7 h8 h9 h10 h11 h12 h13 h14 h15 h16 h17 h18 h19 h20 h21 h22 h23 h24 h25 h26 h27 h28 h29 h30 h31
                                                              ·
                                                                exfalso; omega
                                                      ·
                                                        by_cases h28 : (n0 : Int) < 20
                                                        ·
                                                          exfalso; omega
                                                        ·
                                                          by_cases h29 : 40 > (n0 : Int)
                                                          ·
                                                            exfalso; omega
                                                          ·
                                                            by_cases h30 : (n0 : Int) ≥ 44
                                                            ·
                                                              exfalso; omega
                                                            ·
                                                              exact qfRow57 w R hR A0 n0 cp0 w0 hn hm h1 h2 h3 h4 h5 h6 h7 h8 h9 h10 h11 h12 h13 h14 h15 h16 h17 h18 h19 h20 h21 h22 h23 h24 h25 h26 h27 h28 h29 h30
                                                    ·
                                                      by_cases h27 : (n0 : Int) < 20
                                                      ·
                                                        exfalso; omega
                                                      ·
                                                        by_cases h28 : 40 > (n0 : Int)
                                                        ·
                                                          exfalso; omega
                                                        ·
                                                          by_cases h29 : (n0 : Int) ≥ 44
                                                          ·
                                                            exact qfRow59 w R hR A0 n0 cp0 w0 hn hm h1 h2 h3 h4 h5 h6 h7 h8 h9 h10 h11 h12 h13 h14 h15 h16 h17 h18 h19 h20 h21 h22 h23 h24 h25 h26 h27 h28 h29
                                                          ·
                                                            exact qfRow127 w R hR A0 n0 cp0 w0 hn hm h1 h2 h3 h4 h5 h6 h7 h8 h9 h10 h11 h12 h13 h14 h15 h16 h17 h18 h19 h20 h21 h22 h23 h24 h25 h26 h27 h28 h29
                                                  ·
                                                    by_cases h26 : (n0 : Int) < 20
                                                    ·
                                                      exfalso; omega
                                                    ·
                                                      by_cases h27 : 40 > (n0 : Int)
                                                      ·
                                                        exfalso; omega
                                                      ·
                                                        exact qfRow60 w R hR A0 n0 cp0 w0 hn hm h1 h2 h3 h4 h5 h6 h7 h8 h9 h10 h11 h12 h13 h14 h15 h16 h17 h18 h19 h20 h21 h22 h23 h24 h25 h26 h27
                                          ·
                                            by_cases h22 : (n0 : Int) < 20
                                            ·
                                              exfalso; omega
                                            ·
                                              exact qfRow110 w R hR A0 n0 cp0 w0 hn hm h1 h2 h3 h4 h5 h6 h7 h8 h9 h10 h11 h12 h13 h14 h15 h16 h17 h18 h19 h20 h21 h22
                                        ·
                                          by_cases h21 : ((R 1048576) % 16) = 11
                                          ·
                                            by_cases h22 : ((R 1048576) / 16) = 4
                                            ·
                                              by_cases h23 : 24 > ((n0 : Int) - 20)
                                              ·
                                                by_cases h24 : (n0 : Int) < 20
                                                ·
                                                  exfalso; omega
                                                ·
                                                  by_cases h25 : 44 > (n0 : Int)
                                                  ·
                                                    exact qfRow61 w R hR A0 n0 cp0 w0 hn hm h1 h2 h3 h4 h5 h6 h7 h8 h9 h10 h11 h12 h13 h14 h15 h16 h17 h18 h19 h20 h21 h22 h23 h24 h25
                                                  ·
                                                    exfalso; omega
                                              ·
                                                by_cases h24 : 0 > ((n0 : Int) - 44)
                                                ·
                                                  exfalso; omega
                                                ·
                                                  by_cases h25 : (R 1048585) = 17
                                                  ·
                                                    by_cases h26 : ((((R 1048582) * 256) + (R 1048583)) % 8192) = 0
                                                    ·
                                                      by_cases h27 : ((n0 : Int) - 44) ≥ 4
                                                      ·
                                                        by_cases h28 : 2 > ((n0 : Int) - 46)
                                                        ·
                                                          exfalso; omega
                                                        ·
                                                          by_cases h29 : (n0 : Int) < 20
                                                          ·
                                                            exfalso; omega
                                                          ·
                                                            by_cases h30 : 44 > (n0 : Int)
                                                            ·
                                                              exfalso; omega
                                                            ·
                                                              by_cases h31 : (n0 : Int) ≥ 48
                                                              ·
                                                                exact qfRow63 w R hR A0 n0 cp0 w0 hn hm h1 h2 h3 h4 h5 h6 h7 h8 h9 h10 h11 h12 h13 h14 h15 h16 h17 h18 h19 h20 h21 h22 h23 h24 h25 h26 h27 h28 h29 h30 h31
                                                              ·
                                                                exfalso; omega
                                                      ·
                                                        by_cases h28 : (n0 : Int) < 20
                                                        ·
                                                          exfalso; omega
                                                        ·
                                                          by_cases h29 : 44 > (n0 : Int)
                                                          ·
                                                            exfalso; omega
                                                          ·
                                                            by_cases h30 : (n0 : Int) ≥ 48
                                                            ·
                                                              exfalso; omega
                                                            ·
                                                              exact qfRow62 w R hR A0 n0 cp0 w0 hn hm h1 h2 h3 h4 h5 h6 h7 h8 h9 h10 h11 h12 h13 h14 h15 h16 h17 h18 h19 h20 h21 h22 h23 h24 h25 h26 h27 h28 h29 h30
                                                    ·
                                                      by_cases h27 : (n0 : Int) < 20
                                                      ·
                                                        exfalso; omega
                                                      ·
                                                        by_cases h28 : 44 > (n0 : Int)
                                                        ·
                                                          exfalso; omega
                                                        ·
                                                          by_cases h29 : (n0 : Int) ≥ 48
                                                          ·
                                                            exact qfRow64 w R hR A0 n0 cp0 w0 hn hm h1 h2 h3 h4 h5 h6 h7 h8 h9 h10 h11 h12 h13 h14 h15 h16 h17 h18 h19 h20 h21 h22 h23 h24 h25 h26 h27 h28 h29
                                                          ·
                                                            exact qfRow128 w R hR A0 n0 cp0 w0 hn hm h1 h2 h3 h4 h5 h6 h7 h8 h9 h10 h11 h12 h13 h14 h15 h16 h17 h18 h19 h20 h21 h22 h23 h24 h25 h26 h27 h28 h29
                                                  ·
                                                    by_cases h26 : (R 1048585) = 6
                                                    ·
                                                      by_cases h27 : ((((R 1048582) * 256) + (R 1048583)) % 8192) = 0
                                                      ·
                                                        by_cases h28 : ((n0 : Int) - 44) ≥ 4
                                                        ·
                                                          by_cases h29 : 2 > ((n0 : Int) - 46)
                                                          ·
                                                            exfalso; omega
                                                          ·
                                                            by_cases h30 : (n0 : Int) < 20
                                                            ·
                                                              exfalso; omega
                                                            ·
                                                              by_cases h31 : 44 > (n0 : Int)
                                                              ·
                                                                exfalso; omega
                                                              ·
                                                                by_cases h32 : (n0 : Int) ≥ 48
                                                                ·
                                                                  exact qfRow66 w R hR A0 n0 cp0 w0 hn hm h1 h2 h3 h4 h5 h6 h7 h8 h9 h10 h11 h12 h13 h14 h15 h16 h17 h18 h19 h20 h21 h22 h23 h24 h25 h26 h27 h28 h29 h30 h31 h32
                                                                ·
                                                                  exfalso; omega
                                                        ·
                                                          by_cases h29 : (n0 : Int) < 20
                                                          ·
                                                            exfalso; omega
                                                          ·
                                                            by_cases h30 : 44 > (n0 : Int)
                                                            ·
                                                              exfalso; omega
                                                            ·
                                                              by_cases h31 : (n0 : Int) ≥ 48
                                                              ·
                                                                exfalso; omega
                                                              ·
                                                                exact qfRow65 w R hR A0 n0 cp0 w0 hn hm h1 h2 h3 h4 h5 h6 h7 h8 h9 h10 h11 h12 h13 h14 h15 h16 h17 h18 h19 h20 h21 h22 h23 h24 h25 h26 h27 h28 h29 h30 h31
                                                      ·
                                                        by_cases h28 : (n0 : Int) < 20
                                                        ·
                                                          exfalso; omega
                                                        ·
                                                          by_cases h29 : 44 > (n0 : Int)
                                                          ·
                                                            exfalso; omega
                                                          ·
                                                            by_cases h30 : (n0 : Int) ≥ 48
                                                            ·
                                                              exact qfRow67 w R hR A0 n0 cp0 w0 hn hm h1 h2 h3 h4 h5 h6 h7 h8 h9 h10 h11 h12 h13 h14 h15 h16 h17 h18 h19 h20 h21 h22 h23 h24 h25 h26 h27 h28 h29 h30
                                                            ·
                                                              exact qfRow129 w R hR A0 n0 cp0 w0 hn hm h1 h2 h3 h4 h5 h6 h7 h8 h9 h10 h11 h12 h13 h14 h15 h16 h17 h18 h19 h20 h21 h22 h23 h24 h25 h26 h27 h28 h29 h30
                                                    ·
                                                      by_cases h27 : (n0 : Int) < 20
                                                      ·
                                                        exfalso; omega
                                                      ·
                                                        by_cases h28 : 44 > (n0 : Int)
                                                        ·
                                                          exfalso; omega
                                                        ·
                                                          exact qfRow68 w R hR A0 n0 cp0 w0 hn hm h1 h2 h3 h4 h5 h6 h7 h8 h9 h10 h11 h12 h13 h14 h15 h16 h17 h18 h19 h20 h21 h22 h23 h24 h25 h26 h27 h28
                                            ·
                                              by_cases h23 : (n0 : Int) < 20
                                              ·
                                                exfalso; omega
                                              ·
                                                exact qfRow111 w R hR A0 n0 cp0 w0 hn hm h1 h2 h3 h4 h5 h6 h7 h8 h9 h10 h11 h12 h13 h14 h15 h16 h17 h18 h19 h20 h21 h22 h23
                                          ·
                                            by_cases h22 : ((R 1048576) % 16) = 12
                                            ·
                                              by_cases h23 : ((R 1048576) / 16) = 4
                                              ·
                                                by_cases h24 : 28 > ((n0 : Int) - 20)
                                                ·
                                                  by_cases h25 : (n0 : Int) < 20
                                                  ·
                                                    exfalso; omega
                                                  ·
                                                    by_cases h26 : 48 > (n0 : Int)
                                                    ·
                                                      exact qfRow69 w R hR A0 n0 cp0 w0 hn hm h1 h2 h3 h4 h5 h6 h7 h8 h9 h10 h11 h12 h13 h14 h15 h16 h17 h18 h19 h20 h21 h22 h23 h24 h25 h26
                                                    ·
                                                      exfalso; omega
                                                ·
                                                  by_cases h25 : 0 > ((n0 : Int) - 48)
                                                  ·
                                                    exfalso; omega
                                                  ·
                                                    by_cases h26 : (R 1048585) = 17
                                                    ·
                                                      by_cases h27 : ((((R 1048582) * 256) + (R 1048583)) % 8192) = 0
                                                      ·
                                                        by_cases h28 : ((n0 : Int) - 48) ≥ 4
                                                        ·
                                                          by_cases h29 : 2 > ((n0 : Int) - 50)
                                                          ·
                                                            exfalso; omega
                                                          ·
                                                            by_cases h30 : (n0 : Int) < 20
                                                            ·
                                                              exfalso; omega
                                                            ·
                                                              by_cases h31 : 48 > (n0 : Int)
                                                              ·
                                                                exfalso; omega
                                                              ·
                                                                by_cases h32 : (n0 : Int) ≥ 52
                                                                ·
                                                                  exact qfRow71 w R hR A0 n0 cp0 w0 hn hm h1 h2 h3 h4 h5 h6 h7 h8 h9 h10 h11 h12 h13 h14 h15 h16 h17 h18 h19 h20 h21 h22 h23 h24 h25 h26 h27 h28 h29 h30 h31 h32
                                                                ·
                                                                  exfalso; omega
                                                        ·
                                                          by_cases h29 : (n0 : Int) < 20
                                                          ·
                                                            exfalso; omega
                                                          ·
                                                            by_cases h30 : 48 > (n0 : Int)
                                                            ·
                                                              exfalso; omega
                                                            ·
                                                              by_cases h31 : (n0 : Int) ≥ 52
                                                              ·
                                                                exfalso; omega
                                                              ·
                                                                exact qfRow70 w R hR A0 n0 cp0 w0 hn hm h1 h2 h3 h4 h5 h6 h7 h8 h9 h10 h11 h12 h13 h14 h15 h16 h17 h18 h19 h20 h21 h22 h23 h24 h25 h26 h27 h28 h29 h30 h31
                                                      ·
                                                        by_cases h28 : (n0 : Int) < 20
                                                        ·
                                                          exfalso; omega
                                                        ·
                                                          by_cases h29 : 48 > (n0 : Int)
                                                          ·
                                                            exfalso; omega
                                                          ·
                                                            by_cases h30 : (n0 : Int) ≥ 52
                                                            ·
                                                              exact qfRow72 w R hR A0 n0 cp0 w0 hn hm h1 h2 h3 h4 h5 h6 h7 h8 h9 h10 h11 h12 h13 h14 h15 h16 h17 h18 h19 h20 h21 h22 h23 h24 h25 h26 h27 h28 h29 h30
                                                            ·
                                                              exact qfRow130 w R hR A0 n0 cp0 w0 hn hm h1 h2 h3 h4 h5 h6 h7 h8 h9 h10 h11 h12 h13 h14 h15 h16 h17 h18 h19 h20 h21 h22 h23 h24 h25 h26 h27 h28 h29 h30
                                                    ·
                                                      by_cases h27 : (R 1048585) = 6
                                                      ·
                                                        by_cases h28 : ((((R 1048582) * 256) + (R 1048583)) % 8192) = 0
                                                        ·
                                                          by_cases h29 : ((n0 : Int) - 48) ≥ 4
                                                          ·
                                                            by_cases h30 : 2 > ((n0 : Int) - 50)
                                                            ·
                                                              exfalso; omega
                                                            ·
                                                              by_cases h31 : (n0 : Int) < 20
                                                              ·
                                                                exfalso; omega
                                                              ·
                                                                by_cases h32 : 48 > (n0 : Int)
                                                                ·
                                                                  exfalso; omega
                                                                ·
                                                                  by_cases h33 : (n0 : Int) ≥ 52
                                                                  ·
                                                                    exact qfRow74 w R hR A0 n0 cp0 w0 hn hm h1 h2 h3 h4 h5 h6 h7 h8 h9 h10 h11 h12 h13 h14 h15 h16 h17 h18 h19 h20 h21 h22 h23 h24 h25 h26 h27 h28 h29 h30 h31 h32 h33
                                                                  ·
                                                                    exfalso; omega
                                                          ·
                                                            by_cases h30 : (n0 : Int) < 20
                                                            ·
                                                              exfalso; omega
                                                            ·
                                                              by_cases h31 : 48 > (n0 : Int)
                                                              ·
                                                                exfalso; omega
                                                              ·
                                                                by_cases h32 : (n0 : Int) ≥ 52
                                                                ·
                                                                  exfalso; omega
                                                                ·
                                                                  exact qfRow73 w R hR A0 n0 cp0 w0 hn hm h1 h2 h3 h4 h5 h6 h7 h8 h9 h10 h11 h12 h13 h14 h15 h16 h17 h18 h19 h20 h21 h22 h23 h24 h25 h26 h27 h28 h29 h30 h31 h32
                                                        ·
                                                          by_cases h29 : (n0 : Int) < 20
                                                          ·
                                                            exfalso; omega
                                                          ·
                                                            by_cases h30 : 48 > (n0 : Int)
                                                            ·
                                                              exfalso; omega
                                                            ·
                                                              by_cases h31 : (n0 : Int) ≥ 52
                                                              ·
                                                                exact qfRow75 w R hR A0 n0 cp0 w0 hn hm h1 h2 h3 h4 h5 h6 h7 h8 h9 h10 h11 h12 h13 h14 h15 h16 h17 h18 h19 h20 h21 h22 h23 h24 h25 h26 h27 h28 h29 h30 h31
                                                              ·
                                                                exact qfRow131 w R hR A0 n0 cp0 w0 hn hm h1 h2 h3 h4 h5 h6 h7 h8 h9 h10 h11 h12 h13 h14 h15 h16 h17 h18 h19 h20 h21 h22 h23 h24 h25 h26 h27 h28 h29 h30 h31
                                                      ·
                                                        by_cases h28 : (n0 : Int) < 20
                                                        ·
                                                          exfalso; omega
                                                        ·
                                                          by_cases h29 : 48 > (n0 : Int)
                                                          ·
                                                            exfalso; omega
                                                          ·
                                                            exact qfRow76 w R hR A0 n0 cp0 w0 hn hm h1 h2 h3 h4 h5 h6 h7 h8 h9 h10 h11 h12 h13 h14 h15 h16 h17 h18 h19 h20 h21 h22 h23 h24 h25 h26 h27 h28 h29
                                              ·
                                                by_cases h24 : (n0 : Int) < 20
                                                ·
                                                  exfalso; omega
                                                ·
                                                  exact qfRow112 w R hR A0 n0 cp0 w0 hn hm h1 h2 h3 h4 h5 h6 h7 h8 h9 h10 h11 h12 h13 h14 h15 h16 h17 h18 h19 h20 h21 h22 h23 h24
                                            ·
                                              by_cases h23 : ((R 1048576) % 16) = 13
                                              ·
                                                by_cases h24 : ((R 1048576) / 16) = 4
                                                ·
                                                  by_cases h25 : 32 > ((n0 : Int) - 20)
                                                  ·
                                                    by_cases h26 : (n0 : Int) < 20
                                                    ·
                                                      exfalso; omega
                                                    ·
                                                      by_cases h27 : 52 > (n0 : Int)
                                                      ·
                                                        exact qfRow77 w R hR A0 n0 cp0 w0 hn hm h1 h2 h3 h4 h5 h6 h7 h8 h9 h10 h11 h12 h13 h14 h15 h16 h17 h18 h19 h20 h21 h22 h23 h24 h25 h26 h27
                                                      ·
                                                        exfalso; omega
                                                  ·
                                                    by_cases h26 : 0 > ((n0 : Int) - 52)
                                                    ·
                                                      exfalso; omega
                                                    ·
                                                      by_cases h27 : (R 1048585) = 17
                                                      ·
                                                        by_cases h28 : ((((R 1048582) * 256) + (R 1048583)) % 8192) = 0
                                                        ·
                                                          by_cases h29 : ((n0 : Int) - 52) ≥ 4
                                                          ·
                                                            by_cases h30 : 2 > ((n0 : Int) - 54)
                                                            ·
                                                              exfalso; omega
                                                            ·
                                                              by_cases h31 : (n0 : Int) < 20
                                                              ·
                                                                exfalso; omega
                                                              ·
                                                                by_cases h32 : 52 > (n0 : Int)
                                                                ·
                                                                  exfalso; omega
                                                                ·
                                                                  by_cases h33 : (n0 : Int) ≥ 56
                                                                  ·
                                                                    exact qfRow79 w R hR A0 n0 cp0 w0 hn hm h1 h2 h3 h4 h5 h6 h7 h8 h9 h10 h11 h12 h13 h14 h15 h16 h17 h18 h19 h20 h21 h22 h23 h24 h25 h26 h27 h28 h29 h30 h31 h32 h33
                                                                  ·
                                                                    exfalso; omega
                                                          ·
                                                            by_cases h30 : (n0 : Int) < 20
                                                            ·
                                                              exfalso; omega
                                                            ·
                                                              by_cases h31 : 52 > (n0 : Int)
                                                              ·
                                                                exfalso; omega
                                                              ·
                                                                by_cases h32 : (n0 : Int) ≥ 56
                                                                ·
                                                                  exfalso; omega
                                                                ·
                                                                  exact qfRow78 w R hR A0 n0 cp0 w0 hn hm h1 h2 h3 h4 h5 h6 h7 h8 h9 h10 h11 h12 h13 h14 h15 h16 h17 h18 h19 h20 h21 h22 h23 h24 h25 h26 h27 h28 h29 h30 h31 h32
                                                        ·
                                                          by_cases h29 : (n0 : Int) < 20
                                                          ·
                                                            exfalso; omega
                                                          ·
                                                            by_cases h30 : 52 > (n0 : Int)
                                                            ·
                                                              exfalso; omega
                                                            ·
                                                              by_cases h31 : (n0 : Int) ≥ 56
                                                              ·
                                                                exact qfRow80 w R hR A0 n0 cp0 w0 hn hm h1 h2 h3 h4 h5 h6 h7 h8 h9 h10 h11 h12 h13 h14 h15 h16 h17 h18 h19 h20 h21 h22 h23 h24 h25 h26 h27 h28 h29 h30 h31
                                                              ·
                                                                exact qfRow132 w R hR A0 n0 cp0 w0 hn hm h1 h2 h3 h4 h5 h6 h7 h8 h9 h10 h11 h12 h13 h14 h15 h16 h17 h18 h19 h20 h21 h22 h23 h24 h25 h26 h27 h28 h29 h30 h31
                                                      ·
                                                        by_cases h28 : (R 1048585) = 6
                                                        ·
                                                          by_cases h29 : ((((R 1048582) * 256) + (R 1048583)) % 8192) = 0
                                                          ·
                                                            by_cases h30 : ((n0 : Int) - 52) ≥ 4
                                                            ·
                                                              by_cases h31 : 2 > ((n0 : Int) - 54)
                                                              ·
                                                                exfalso; omega
                                                              ·
                                                                by_cases h32 : (n0 : Int) < 20
                                                                ·
                                                                  exfalso; omega
                                                                ·
                                                                  by_cases h33 : 52 > (n0 : Int)
                                                                  ·
                                                                    exfalso; omega
                                                                  ·
                                                                    by_cases h34 : (n0 : Int) ≥ 56
                                                                    ·
                                                                      exact qfRow82 w R hR A0 n0 cp0 w0 hn hm h1 h2 h3 h4 h5 h6 h7 h8 h9 h10 h11 h12 h13 h14 h15 h16 h17 h18 h19 h20 h21 h22 h23 h24 h25 h26 h27 h28 h29 h30 h31 h32 h33 h34
                                                                    ·
                                                                      exfalso; omega
                                                            ·
                                                              by_cases h31 : (n0 : Int) < 20
                                                              ·
                                                                exfalso; omega
                                                              ·
                                                                by_cases h32 : 52 > (n0 : Int)
                                                                ·
                                                                  exfalso; omega
                                                                ·
                                                                  by_cases h33 : (n0 : Int) ≥ 56
                                                                  ·
                                                                    exfalso; omega
                                                                  ·
                                                                    exact qfRow81 w R hR A0 n0 cp0 w0 hn hm h1 h2 h3 h4 h5 h6 h7 h8 h9 h10 h11 h12 h13 h14 h15 h16 h17 h18 h19 h20 h21 h22 h23 h24 h25 h26 h27 h28 h29 h30 h31 h32 h33
                                                          ·
                                                            by_cases h30 : (n0 : Int) < 20
                                                            ·
                                                              exfalso; omega
                                                            ·
                                                              by_cases h31 : 52 > (n0 : Int)
                                                              ·
                                                                exfalso; omega
                                                              ·
                                                                by_cases h32 : (n0 : Int) ≥ 56
                                                                ·
                                                                  exact qfRow83 w R hR A0 n0 cp0 w0 hn hm h1 h2 h3 h4 h5 h6 h7 h8 h9 h10 h11 h12 h13 h14 h15 h16 h17 h18 h19 h20 h21 h22 h23 h24 h25 h26 h27 h28 h29 h30 h31 h32
                                                                ·
                                                                  exact qfRow133 w R hR A0 n0 cp0 w0 hn hm h1 h2 h3 h4 h5 h6 h7 h8 h9 h10 h11 h12 h13 h14 h15 h16 h17 h18 h19 h20 h21 h22 h23 h24 h25 h26 h27 h28 h29 h30 h31 h32
                                                        ·
                                                          by_cases h29 : (n0 : Int) < 20
                                                          ·
                                                            exfalso; omega
                                                          ·
                                                            by_cases h30 : 52 > (n0 : Int)
                                                            ·
                                                              exfalso; omega
                                                            ·
                                                              exact qfRow84 w R hR A0 n0 cp0 w0 hn hm h1 h2 h3 h4 h5 h6 h7 h8 h9 h10 h11 h12 h13 h14 h15 h16 h17 h18 h19 h20 h21 h22 h23 h24 h25 h26 h27 h28 h29 h30
                                                ·
                                                  by_cases h25 : (n0 : Int) < 20
                                                  ·
                                                    exfalso; omega
                                                  ·
                                                    exact qfRow113 w R hR A0 n0 cp0 w0 hn hm h1 h2 h3 h4 h5 h6 h7 h8 h9 h10 h11 h12 h13 h14 h15 h16 h17 h18 h19 h20 h21 h22 h23 h24 h25
                                              ·
                                                by_cases h24 : ((R 1048576) % 16) = 14
                                                ·
                                                  by_cases h25 : ((R 1048576) / 16) = 4
                                                  ·
                                                    by_cases h26 : 36 > ((n0 : Int) - 20)
                                                    ·
                                                      by_cases h27 : (n0 : Int) < 20
                                                      ·
                                                        exfalso; omega
                                                      ·
                                                        by_cases h28 : 56 > (n0 : Int)
                                                        ·
                                                          exact qfRow85 w R hR A0 n0 cp0 w0 hn hm h1 h2 h3 h4 h5 h6 h7 h8 h9 h10 h11 h12 h13 h14 h15 h16 h17 h18 h19 h20 h21 h22 h23 h24 h25 h26 h27 h28
                                                        ·
                                                          exfalso; omega
                                                    ·
                                                      by_cases h27 : 0 > ((n0 : Int) - 56)
                                                      ·
                                                        exfalso; omega
                                                      ·
                                                        by_cases h28 : (R 1048585) = 17
                                                        ·
                                                          by_cases h29 : ((((R 1048582) * 256) + (R 1048583)) % 8192) = 0
                                                          ·
                                                            by_cases h30 : ((n0 : Int) - 56) ≥ 4
                                                            ·
                                                              by_cases h31 : 2 > ((n0 : Int) - 58)
                                                              ·
                                                                exfalso; omega
                                                              ·
                                                                by_cases h32 : (n0 : Int) < 20
                                                                ·
                                                                  exfalso; omega
                                                                ·
                                                                  by_cases h33 : 56 > (n0 : Int)
                                                                  ·
                                                                    exfalso; omega
                                                                  ·
                                                                    by_cases h34 : (n0 : Int) ≥ 60
                                                                    ·
                                                                      exact qfRow87 w R hR A0 n0 cp0 w0 hn hm h1 h2 h3 h4 h5 h6 h7 h8 h9 h10 h11 h12 h13 h14 h15 h16 h17 h18 h19 h20 h21 h22 h23 h24 h25 h26 h27 h28 h29 h30 h31 h32 h33 h34
                                                                    ·
                                                                      exfalso; omega
                                                            ·
                                                              by_cases h31 : (n0 : Int) < 20
                                                              ·
                                                                exfalso; omega
                                                              ·
                                                                by_cases h32 : 56 > (n0 : Int)
                                                                ·
                                                                  exfalso; omega
                                                                ·
                                                                  by_cases h33 : (n0 : Int) ≥ 60
                                                                  ·
                                                                    exfalso; omega
                                                                  ·
                                                                    exact qfRow86 w R hR A0 n0 cp0 w0 hn hm h1 h2 h3 h4 h5 h6 h7 h8 h9 h10 h11 h12 h13 h14 h15 h16 h17 h18 h19 h20 h21 h22 h23 h24 h25 h26 h27 h28 h29 h30 h31 h32 h33
                                                          ·
                                                            by_cases h30 : (n0 : Int) < 20
                                                            ·
                                                              exfalso; omega
                                                            ·
                                                              by_cases h31 : 56 > (n0 : Int)
                                                              ·
                                                                exfalso; omega
                                                              ·
                                                                by_cases h32 : (n0 : Int) ≥ 60
                                                                ·
                                                                  exact qfRow88 w R hR A0 n0 cp0 w0 hn hm h1 h2 h3 h4 h5 h6 h7 h8 h9 h10 h11 h12 h13 h14 h15 h16 h17 h18 h19 h20 h21 h22 h23 h24 h25 h26 h27 h28 h29 h30 h31 h32
                                                                ·
                                                                  exact qfRow134 w R hR A0 n0 cp0 w0 hn hm h1 h2 h3 h4 h5 h6 h7 h8 h9 h10 h11 h12 h13 h14 h15 h16 h17 h18 h19 h20 h21 h22 h23 h24 h25 h26 h27 h28 h29 h30 h31 h32
                                                        ·
                                                          by_cases h29 : (R 1048585) = 6
                                                          ·
                                                            by_cases h30 : ((((R 1048582) * 256) + (R 1048583)) % 8192) = 0
                                                            ·
                                                              by_cases h31 : ((n0 : Int) - 56) ≥ 4
                                                              ·
                                                                by_cases h32 : 2 > ((n0 : Int) - 58)
                                                                ·
                                                                  exfalso; omega
                                                                ·
                                                                  by_cases h33 : (n0 : Int) < 20
                                                                  ·
                                                                    exfalso; omega
                                                                  ·
                                                                    by_cases h34 : 56 > (n0 : Int)
                                                                    ·
                                                                      exfalso; omega
                                                                    ·
                                                                      by_cases h35 : (n0 : Int) ≥ 60
                                                                      ·
                                                                        exact qfRow90 w R hR A0 n0 cp0 w0 hn hm h1 h2 h3 h4 h5 h6 h7 h8 h9 h10 h11 h12 h13 h14 h15 h16 h17 h18 h19 h20 h21 h22 h23 h24 h25 h26 h27 h28 h29 h30 h31 h32 h33 h34 h35
                                                                      ·
                                                                        exfalso; omega
                                                              ·
                                                                by_cases h32 : (n0 : Int) < 20
                                                                ·
                                                                  exfalso; omega
                                                                ·
                                                                  by_cases h33 : 56 > (n0 : Int)
                                                                  ·
                                                                    exfalso; omega
                                                                  ·
                                                                    by_cases h34 : (n0 : Int) ≥ 60
                                                                    ·
                                                                      exfalso; omega
                                                                    ·
                                                                      exact qfRow89 w R hR A0 n0 cp0 w0 hn hm h1 h2 h3 h4 h5 h6 h7 h8 h9 h10 h11 h12 h13 h14 h15 h16 h17 h18 h19 h20 h21 h22 h23 h24 h25 h26 h27 h28 h29 h30 h31 h32 h33 h34
                                                            ·
                                                              by_cases h31 : (n0 : Int) < 20
                                                              ·
                                                                exfalso; omega
                                                              ·
                                                                by_cases h32 : 56 > (n0 : Int)
                                                                ·
                                                                  exfalso; omega
                                                                ·
                                                                  by_cases h33 : (n0 : Int) ≥ 60
                                                                  ·
                                                                    exact qfRow91 w R hR A0 n0 cp0 w0 hn hm h1 h2 h3 h4 h5 h6 h7 h8 h9 h10 h11 h12 h13 h14 h15 h16 h17 h18 h19 h20 h21 h22 h23 h24 h25 h26 h27 h28 h29 h30 h31 h32 h33
                                                                  ·
                                                                    exact qfRow135 w R hR A0 n0 cp0 w0 hn hm h1 h2 h3 h4 h5 h6 h7 h8 h9 h10 h11 h12 h13 h14 h15 h16 h17 h18 h19 h20 h21 h22 h23 h24 h25 h26 h27 h28 h29 h30 h31 h32 h33
                                                          ·
                                                            by_cases h30 : (n0 : Int) < 20
                                                            ·
                                                              exfalso; omega
                                                            ·
                                                              by_cases h31 : 56 > (n0 : Int)
                                                              ·
                                                                exfalso; omega
                                                              ·
                                                                exact qfRow92 w R hR A0 n0 cp0 w0 hn hm h1 h2 h3 h4 h5 h6 h7 h8 h9 h10 h11 h12 h13 h14 h15 h16 h17 h18 h19 h20 h21 h22 h23 h24 h25 h26 h27 h28 h29 h30 h31
                                                  ·
                                                    by_cases h26 : (n0 : Int) < 20
                                                    ·
                                                      exfalso; omega
                                                    ·
                                                      exact qfRow114 w R hR A0 n0 cp0 w0 hn hm h1 h2 h3 h4 h5 h6 h7 h8 h9 h10 h11 h12 h13 h14 h15 h16 h17 h18 h19 h20 h21 h22 h23 h24 h25 h26
                                                ·
                                                  by_cases h25 : ((R 1048576) % 16) = 15
                                                  ·
                                                    by_cases h26 : ((R 1048576) / 16) = 4
                                                    ·
                                                      by_cases h27 : 40 > ((n0 : Int) - 20)
                                                      ·
                                                        by_cases h28 : (n0 : Int) < 20
                                                        ·
                                                          exfalso; omega
                                                        ·
                                                          by_cases h29 : 60 > (n0 : Int)
                                                          ·
                                                            exact qfRow93 w R hR A0 n0 cp0 w0 hn hm h1 h2 h3 h4 h5 h6 h7 h8 h9 h10 h11 h12 h13 h14 h15 h16 h17 h18 h19 h20 h21 h22 h23 h24 h25 h26 h27 h28 h29
                                                          ·
                                                            exfalso; omega
                                                      ·
                                                        by_cases h28 : 0 > ((n0 : Int) - 60)
                                                        ·
                                                          exfalso; omega
                                                        ·
                                                          by_cases h29 : (R 1048585) = 17
                                                          ·
                                                            by_cases h30 : ((((R 1048582) * 256) + (R 1048583)) % 8192) = 0
                                                            ·
                                                              by_cases h31 : ((n0 : Int) - 60) ≥ 4
                                                              ·
                                                                by_cases h32 : 2 > ((n0 : Int) - 62)
                                                                ·
                                                                  exfalso; omega
                                                                ·
                                                                  by_cases h33 : (n0 : Int) < 20
                                                                  ·
                                                                    exfalso; omega
                                                                  ·
                                                                    by_cases h34 : 60 > (n0 : Int)
                                                                    ·
                                                                      exfalso; omega
                                                                    ·
                                                                      by_cases h35 : (n0 : Int) ≥ 64
                                                                      ·
                                                                        exact qfRow95 w R hR A0 n0 cp0 w0 hn hm h1 h2 h3 h4 h5 h6 h7 h8 h9 h10 h11 h12 h13 h14 h15 h16 h17 h18 h19 h20 h21 h22 h23 h24 h25 h26 h27 h28 h29 h30 h31 h32 h33 h34 h35
                                                                      ·
                                                                        exfalso; omega
                                                              ·
                                                                by_cases h32 : (n0 : Int) < 20
                                                                ·
                                                                  exfalso; omega
                                                                ·
                                                                  by_cases h33 : 60 > (n0 : Int)
                                                                  ·
                                                                    exfalso; omega
                                                                  ·
                                                                    by_cases h34 : (n0 : Int) ≥ 64
                                                                    ·
                                                                      exfalso; omega
                                                                    ·
                                                                      exact qfRow94 w R hR A0 n0 cp0 w0 hn hm h1 h2 h3 h4 h5 h6 h7 h8 h9 h10 h11 h12 h13 h14 h15 h16 h17 h18 h19 h20 h21 h22 h23 h24 h25 h26 h27 h28 h29 h30 h31 h32 h33 h34
                                                            ·
                                                              by_cases h31 : (n0 : Int) < 20
                                                              ·
                                                                exfalso; omega
                                                              ·
                                                                by_cases h32 : 60 > (n0 : Int)
                                                                ·
                                                                  exfalso; omega
                                                                ·
                                                                  by_cases h33 : (n0 : Int) ≥ 64
                                                                  ·
                                                                    exact qfRow96 w R hR A0 n0 cp0 w0 hn hm h1 h2 h3 h4 h5 h6 h7 h8 h9 h10 h11 h12 h13 h14 h15 h16 h17 h18 h19 h20 h21 h22 h23 h24 h25 h26 h27 h28 h29 h30 h31 h32 h33
                                                                  ·
                                                                    exact qfRow136 w R hR A0 n0 cp0 w0 hn hm h1 h2 h3 h4 h5 h6 h7 h8 h9 h10 h11 h12 h13 h14 h15 h16 h17 h18 h19 h20 h21 h22 h23 h24 h25 h26 h27 h28 h29 h30 h31 h32 h33
                                                          ·
                                                            by_cases h30 : (R 1048585) = 6
                                                            ·
                                                              by_cases h31 : ((((R 1048582) * 256) + (R 1048583)) % 8192) = 0
                                                              ·
                                                                by_cases h32 : ((n0 : Int) - 60) ≥ 4
                                                                ·
                                                                  by_cases h33 : 2 > ((n0 : Int) - 62)
                                                                  ·
                                                                    exfalso; omega
                                                                  ·
                                                                    by_cases h34 : (n0 : Int) < 20
                                                                    ·
                                                                      exfalso; omega
                                                                    ·
                                                                      by_cases h35 : 60 > (n0 : Int)
                                                                      ·
                                                                        exfalso; omega
                                                                      ·
                                                                        by_cases h36 : (n0 : Int) ≥ 64
                                                                        ·
                                                                          exact qfRow98 w R hR A0 n0 cp0 w0 hn hm h1 h2 h3 h4 h5 h6 h7 h8 h9 h10 h11 h12 h13 h14 h15 h16 h17 h18 h19 h20 h21 h22 h23 h24 h25 h26 h27 h28 h29 h30 h31 h32 h33 h34 h35 h36
                                                                        ·
                                                                          exfalso; omega
                                                                ·
                                                                  by_cases h33 : (n0 : Int) < 20
                                                                  ·
                                                                    exfalso; omega
                                                                  ·
                                                                    by_cases h34 : 60 > (n0 : Int)
                                                                    ·
                                                                      exfalso; omega
                                                                    ·
                                                                      by_cases h35 : (n0 : Int) ≥ 64
                                                                      ·
                                                                        exfalso; omega
                                                                      ·
                                                                        exact qfRow97 w R hR A0 n0 cp0 w0 hn hm h1 h2 h3 h4 h5 h6 h7 h8 h9 h10 h11 h12 h13 h14 h15 h16 h17 h18 h19 h20 h21 h22 h23 h24 h25 h26 h27 h28 h29 h30 h31 h32 h33 h34 h35
                                                              ·
                                                                by_cases h32 : (n0 : Int) < 20
                                                                ·
                                                                  exfalso; omega
                                                                ·
                                                                  by_cases h33 : 60 > (n0 : Int)
                                                                  ·
                                                                    exfalso; omega
                                                                  ·
                                                                    by_cases h34 : (n0 : Int) ≥ 64
                                                                    ·
                                                                      exact qfRow99 w R hR A0 n0 cp0 w0 hn hm h1 h2 h3 h4 h5 h6 h7 h8 h9 h10 h11 h12 h13 h14 h15 h16 h17 h18 h19 h20 h21 h22 h23 h24 h25 h26 h27 h28 h29 h30 h31 h32 h33 h34
                                                                    ·
                                                                      exact qfRow137 w R hR A0 n0 cp0 w0 hn hm h1 h2 h3 h4 h5 h6 h7 h8 h9 h10 h11 h12 h13 h14 h15 h16 h17 h18 h19 h20 h21 h22 h23 h24 h25 h26 h27 h28 h29 h30 h31 h32 h33 h34
                                                            ·
                                                              by_cases h31 : (n0 : Int) < 20
                                                              ·
                                                                exfalso; omega
                                                              ·
                                                                by_cases h32 : 60 > (n0 : Int)
                                                                ·
                                                                  exfalso; omega
                                                                ·
                                                                  exact qfRow100 w R hR A0 n0 cp0 w0 hn hm h1 h2 h3 h4 h5 h6 h7 h8 h9 h10 h11 h12 h13 h14 h15 h16 h17 h18 h19 h20 h21 h22 h23 h24 h25 h26 h27 h28 h29 h30 h31 h32
                                                    ·
                                                      by_cases h27 : (n0 : Int) < 20
                                                      ·
                                                        exfalso; omega
                                                      ·
                                                        exact qfRow115 w R hR A0 n0 cp0 w0 hn hm h1 h2 h3 h4 h5 h6 h7 h8 h9 h10 h11 h12 h13 h14 h15 h16 h17 h18 h19 h20 h21 h22 h23 h24 h25 h26 h27
                                                  ·
                                                    exfalso; omega
abbrev qfNilV (R : Nat → Int) (hR : ∀ j, 0 ≤ R j ∧ R j ≤ 255)  : Env := envR [] R hR
abbrev qfNilB  : Prop := True
abbrev qfNilG : List Ent := []
theorem qfNilG_ok (R : Nat → Int) (hR : ∀ j, 0 ≤ R j ∧ R j ≤ 255)  (hb : qfNilB ) : ∀ e ∈ qfNilG, @EntOK (qfNilV R hR ) Try.prog e := by
  letI : Env := qfNilV R hR 
  exact allENil
abbrev qfNil0L : List Ent := qfNilG
set_option maxHeartbeats 4000000 in
theorem qfNil0 (w : World) (R : Nat → Int) (hR : ∀ j, 0 ≤ R j ∧ R j ≤ 255)   : Calls Try.prog 8 #[.slice none 0 0] w (fun e w' => e = .returned (.bool true) ∧ Only [] w w') := by
  letI : Env := (qfNilV R hR )
  have hb : qfNilB  := trivial
  have hents : ∀ e ∈ (qfNil0L : List Ent), EntOK Try.prog e := (qfNilG_ok R hR  hb)
  have hsp : SpOK Try.prog (spKnown 16) := (spKnown_ok knownBody known)
  refine lawR (tab := tabG Try.prog qfNil0L) (sp := (spKnown 16)) hsp (tabG_ok hents) (f := 300) (args := [.slice none 0 0]) (args' := [.slice none 0 0]) (c0 := 0) (h0 := .lf) (β0 := fun _ => none) (w := w) (by kernel_rfl) (Sim.nothing Try.prog w.heap.size w) (fun i hi => ?_) ?_
  · rfl
  · exact (PW.cons (VR.of_flat 6 _ rfl) (PW.nil _))
theorem ICMPFlowsNil (w : World) (R : Nat → Int) (hR : ∀ j, 0 ≤ R j ∧ R j ≤ 255)  : Calls Try.prog 8 #[.slice none 0 0] w (fun e w' => e = .returned (.bool true) ∧ Only [] w w') := by
  exact qfNil0 w R hR  
abbrev qfEmpV (R : Nat → Int) (hR : ∀ j, 0 ≤ R j ∧ R j ≤ 255)  : Env := envR [] R hR
abbrev qfEmpB  : Prop := True
abbrev qfEmpG : List Ent := []
theorem qfEmpG_ok (R : Nat → Int) (hR : ∀ j, 0 ≤ R j ∧ R j ≤ 255)  (hb : qfEmpB ) : ∀ e ∈ qfEmpG, @EntOK (qfEmpV R hR ) Try.prog e := by
  letI : Env := qfEmpV R hR 
  exact allENil
abbrev qfEmp0L : List Ent := qfEmpG
set_option maxHeartbeats 4000000 in
theorem qfEmp0 (w : World) (R : Nat → Int) (hR : ∀ j, 0 ≤ R j ∧ R j ≤ 255) (A0 : Addr) (cp0 : Nat) (hs : A0.spot = none ∨ cp0 = 0)  : Calls Try.prog 8 #[.slice (some A0) 0 cp0] w (fun e w' => e = .returned (.bool true) ∧ Only [] w w') := by
  letI : Env := (qfEmpV R hR )
  have hb : qfEmpB  := trivial
  have hents : ∀ e ∈ (qfEmp0L : List Ent), EntOK Try.prog e := (qfEmpG_ok R hR  hb)
  have hsp : SpOK Try.prog (spKnown 16) := (spKnown_ok knownBody known)
  refine lawR (tab := tabG Try.prog qfEmp0L) (sp := (spKnown 16)) hsp (tabG_ok hents) (f := 300) (args := [.slice (some ⟨0, 0, some 0⟩) 0 0]) (args' := [.slice (some A0) 0 cp0]) (c0 := 1) (h0 := .lf) (β0 := mp1 ⟨A0.block, A0.off, 0, 0, 1⟩) (w := w) (by kernel_rfl) (⟨fun i o hi => (by rw [Tr.get_lf] at hi; cases hi), fun i j o o' I J hi => (by rw [Tr.get_lf] at hi; cases hi)⟩) (fun i hi => ?_) ?_
  · match i, hi with
    | i + 1, _ => rfl
  · exact (PW.cons (rowNone_vr rfl hs) (PW.nil _))
theorem ICMPFlowsEmp (w : World) (R : Nat → Int) (hR : ∀ j, 0 ≤ R j ∧ R j ≤ 255) (A0 : Addr) (cp0 : Nat) (hs : A0.spot = none ∨ cp0 = 0) : Calls Try.prog 8 #[.slice (some A0) 0 cp0] w (fun e w' => e = .returned (.bool true) ∧ Only [] w w') := by
  exact qfEmp0 w R hR A0 cp0 hs 
abbrev qfBigV (R : Nat → Int) (hR : ∀ j, 0 ≤ R j ∧ R j ≤ 255) (A0 : Option Addr) (n0 cp0 : Nat) : Env := envR [.slice A0 n0 cp0, .int .i64 (n0 : Int)] R hR
abbrev qfBigB (A0 : Option Addr) (n0 cp0 : Nat) : Prop := 4000 < n0
def qfBigs0 : Ent := .bin .gtr (.chan (some 1)) (.int .i64 4000) (.bool true)
theorem qfBigs0_ok (R : Nat → Int) (hR : ∀ j, 0 ≤ R j ∧ R j ≤ 255) (A0 : Option Addr) (n0 cp0 : Nat) (hb : qfBigB A0 n0 cp0) (hc : (n0 : Int) > 4000) : @EntOK (qfBigV R hR A0 n0 cp0) Try.prog qfBigs0 := by
  letI : Env := qfBigV R hR A0 n0 cp0
  exact entCmp (k := .i64) (a := (n0 : Int)) (b := 4000) rfl rfl (by show some (decide (((n0 : Int) : Int) > 4000)) = some true; rw [decide_eq_true (by omega)])
abbrev qfBigG : List Ent := []
theorem qfBigG_ok (R : Nat → Int) (hR : ∀ j, 0 ≤ R j ∧ R j ≤ 255) (A0 : Option Addr) (n0 cp0 : Nat) (hb : qfBigB A0 n0 cp0) : ∀ e ∈ qfBigG, @EntOK (qfBigV R hR A0 n0 cp0) Try.prog e := by
  letI : Env := qfBigV R hR A0 n0 cp0
  exact allENil
abbrev qfBig0K (R : Nat → Int) (A0 : Option Addr) (n0 cp0 : Nat) : Prop := qfBigB A0 n0 cp0 ∧ ((n0 : Int) > 4000) ∧ True
def qfBig0e0 : Ent := .len false (.chan (some 1000)) (.chan (some 1))
theorem qfBig0e0_ok (R : Nat → Int) (hR : ∀ j, 0 ≤ R j ∧ R j ≤ 255) (A0 : Option Addr) (n0 cp0 : Nat) (hk : qfBig0K R A0 n0 cp0) : @EntOK (qfBigV R hR A0 n0 cp0) Try.prog qfBig0e0 := by
  letI : Env := (qfBigV R hR A0 n0 cp0)
  obtain ⟨hb, k0, _⟩ := hk; exact entLen (i := 1000) (j := 1) rfl rfl
abbrev qfBig0L : List Ent := qfBig0e0 :: qfBigs0 :: qfBigG
set_option maxHeartbeats 4000000 in
theorem qfBig0 (w : World) (R : Nat → Int) (hR : ∀ j, 0 ≤ R j ∧ R j ≤ 255) (A0 : Option Addr) (n0 cp0 : Nat) (hn : 4000 < n0) (k0 : (n0 : Int) > 4000) : Calls Try.prog 8 #[.slice A0 n0 cp0] w (fun e w' => e = .returned (.bool true) ∧ Only [] w w') := by
  letI : Env := (qfBigV R hR A0 n0 cp0)
  have hb : qfBigB A0 n0 cp0 := hn
  have hk : qfBig0K R A0 n0 cp0 := ⟨hb, k0, trivial⟩
  have hents : ∀ e ∈ (qfBig0L : List Ent), EntOK Try.prog e := (ac (qfBig0e0_ok R hR A0 n0 cp0 hk) (ac (qfBigs0_ok R hR A0 n0 cp0 hb k0) (qfBigG_ok R hR A0 n0 cp0 hb)))
  have hsp : SpOK Try.prog (spKnown 16) := (spKnown_ok knownBody known)
  refine lawR (tab := tabG Try.prog qfBig0L) (sp := (spKnown 16)) hsp (tabG_ok hents) (f := 300) (args := [.chan (some 1000)]) (args' := [.slice A0 n0 cp0]) (c0 := 0) (h0 := .lf) (β0 := fun _ => none) (w := w) (by kernel_rfl) (Sim.nothing Try.prog w.heap.size w) (fun i hi => ?_) ?_
  · rfl
  · exact (PW.cons (.opq 1000 rfl (fun b h => by cases h)) (PW.nil _))
theorem ICMPFlowsBig (w : World) (R : Nat → Int) (hR : ∀ j, 0 ≤ R j ∧ R j ≤ 255) (A0 : Option Addr) (n0 cp0 : Nat) (hn : 4000 < n0) : Calls Try.prog 8 #[.slice A0 n0 cp0] w (fun e w' => e = .returned (.bool true) ∧ Only [] w w') := by
  by_cases h1 : (n0 : Int) > 4000
  ·
    exact qfBig0 w R hR A0 n0 cp0 hn h1
  ·
    exfalso; omega
theorem ICMPFlowsAll (w : World) (a0 : Option Addr) (len0 cap0 : Nat) (z0 : List Int) (h0 : IsRow .u8 w a0 len0 cap0 z0)  : Calls Try.prog 8 #[.slice a0 len0 cap0] w (fun e w' => e = .returned (.bool true) ∧ Only [] w w') := by
  by_cases hb : 4000 < len0
  · exact ICMPFlowsBig w (fun _ => 0) (fun _ => ⟨by decide, by decide⟩) a0 len0 cap0 hb 
  cases a0 with
  | none =>
    rcases h0 with ⟨_, rfl, rfl, _⟩ | ⟨x, hx, _⟩
    · exact ICMPFlowsNil w (fun _ => 0) (fun _ => ⟨by decide, by decide⟩) 
    · cases hx
  | some A =>
    by_cases hz : len0 = 0
    · subst hz
      exact ICMPFlowsEmp w (fun _ => 0) (fun _ => ⟨by decide, by decide⟩) A cap0 (isRow_spot h0) 
    · exact ICMPFlowsRow w (rowR 1048576 z0) (rowR_bd (isRow_wf h0)) A len0 cap0 (rowIn_of h0 (by omega) (fun j hj => by unfold rowR; rw [Nat.add_sub_cancel_left])) (by omega) (by omega) 
end Go.Proofs.Ytekanilgeigddaa.ev
