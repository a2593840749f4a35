/-
  EtherBack, by a run of each path over rows of bytes that are not looked into. Conditions: none.
-/
import Derived.Test.YtiihhngddmboaaaEvRl
import Derived.Test.YtiihhngddmboaaaEvP4
import Derived.Test.YtiihhngddmboaaaHlp4
import Derived.Test.YtiihhngddmboaaaEvV
import Derived.Test.YtiihhngddmboaaaEvBd
import Derived.Test.YtiihhngddmboaaaOrm
import Derived.Test.YtiihhngddmboaaaEvV
import Derived.Test.YtiihhngddmboaaaEvR4ba
import Derived.Test.YtiihhngddmboaaaEvR4bb
import Derived.Test.YtiihhngddmboaaaEvR4bc
import Derived.KernelRfl
import Derived.DeepKeys
namespace Go.Proofs.Ytiihhngddmboaaa.ev
set_option maxRecDepth 1000000
set_option linter.unusedVariables false
set_option linter.unusedSimpArgs false
open Go.ChangeShapes Go.WideShapes Go.ChangeAt Go.RowKit Go.IntWalk Go.Lib
theorem EtherBackFix (w : World) (R : Nat → Int) (hR : ∀ j, 0 ≤ R j ∧ R j ≤ 255) (A0 : Addr) (n0 cp0 : Nat) (w0 : RowIn R 1048576 w A0 n0 cp0) (hn : n0 ≤ 70000) (hm : 1 ≤ n0) (hx : n0 < 46) (t0 t1 t2 t3 t4 t5 f0 f1 f2 f3 f4 f5 kd : Int) (ht0 : 0 ≤ t0 ∧ t0 ≤ 255) (ht1 : 0 ≤ t1 ∧ t1 ≤ 255) (ht2 : 0 ≤ t2 ∧ t2 ≤ 255) (ht3 : 0 ≤ t3 ∧ t3 ≤ 255) (ht4 : 0 ≤ t4 ∧ t4 ≤ 255) (ht5 : 0 ≤ t5 ∧ t5 ≤ 255) (hf0 : 0 ≤ f0 ∧ f0 ≤ 255) (hf1 : 0 ≤ f1 ∧ f1 ≤ 255) (hf2 : 0 ≤ f2 ∧ f2 ≤ 255) (hf3 : 0 ≤ f3 ∧ f3 ≤ 255) (hf4 : 0 ≤ f4 ∧ f4 ≤ 255) (hf5 : 0 ≤ f5 ∧ f5 ≤ 255) (hkd : (-9223372036854775808) ≤ kd ∧ kd ≤ 9223372036854775807) (hgk : 1536 ≤ kd ∧ kd ≤ 65535) : Calls Try.prog 5 #[.agg #[.int .u8 t0, .int .u8 t1, .int .u8 t2, .int .u8 t3, .int .u8 t4, .int .u8 t5, .int .u8 f0, .int .u8 f1, .int .u8 f2, .int .u8 f3, .int .u8 f4, .int .u8 f5, .int .i64 kd, .slice (some A0) n0 cp0]] w (fun e w' => e = .returned (.bool true) ∧ Only [] w w') := by
  by_cases h1 : (((kd / 256) * 256) + (kd % 256)) = kd
  ·
    by_cases h2 : n0 = 1
    ·
      exact ebFix0 w R hR A0 n0 cp0 w0 hn hm hx t0 t1 t2 t3 t4 t5 f0 f1 f2 f3 f4 f5 kd ht0 ht1 ht2 ht3 ht4 ht5 hf0 hf1 hf2 hf3 hf4 hf5 hkd hgk h1 h2
    ·
      by_cases h3 : n0 = 2
      ·
        exact ebFix1 w R hR A0 n0 cp0 w0 hn hm hx t0 t1 t2 t3 t4 t5 f0 f1 f2 f3 f4 f5 kd ht0 ht1 ht2 ht3 ht4 ht5 hf0 hf1 hf2 hf3 hf4 hf5 hkd hgk h1 h2 h3
      ·
        by_cases h4 : n0 = 3
        ·
          exact ebFix2 w R hR A0 n0 cp0 w0 hn hm hx t0 t1 t2 t3 t4 t5 f0 f1 f2 f3 f4 f5 kd ht0 ht1 ht2 ht3 ht4 ht5 hf0 hf1 hf2 hf3 hf4 hf5 hkd hgk h1 h2 h3 h4
        ·
          by_cases h5 : n0 = 4
          ·
            exact ebFix3 w R hR A0 n0 cp0 w0 hn hm hx t0 t1 t2 t3 t4 t5 f0 f1 f2 f3 f4 f5 kd ht0 ht1 ht2 ht3 ht4 ht5 hf0 hf1 hf2 hf3 hf4 hf5 hkd hgk h1 h2 h3 h4 h5
          ·
            by_cases h6 : n0 = 5
            ·
              exact ebFix4 w R hR A0 n0 cp0 w0 hn hm hx t0 t1 t2 t3 t4 t5 f0 f1 f2 f3 f4 f5 kd ht0 ht1 ht2 ht3 ht4 ht5 hf0 hf1 hf2 hf3 hf4 hf5 hkd hgk h1 h2 h3 h4 h5 h6
            ·
              by_cases h7 : n0 = 6
              ·
                exact ebFix5 w R hR A0 n0 cp0 w0 hn hm hx t0 t1 t2 t3 t4 t5 f0 f1 f2 f3 f4 f5 kd ht0 ht1 ht2 ht3 ht4 ht5 hf0 hf1 hf2 hf3 hf4 hf5 hkd hgk h1 h2 h3 h4 h5 h6 h7
              ·
                by_cases h8 : n0 = 7
                ·
                  exact ebFix6 w R hR A0 n0 cp0 w0 hn hm hx t0 t1 t2 t3 t4 t5 f0 f1 f2 f3 f4 f5 kd ht0 ht1 ht2 ht3 ht4 ht5 hf0 hf1 hf2 hf3 hf4 hf5 hkd hgk h1 h2 h3 h4 h5 h6 h7 h8
                ·
                  by_cases h9 : n0 = 8
                  ·
                    exact ebFix7 w R hR A0 n0 cp0 w0 hn hm hx t0 t1 t2 t3 t4 t5 f0 f1 f2 f3 f4 f5 kd ht0 ht1 ht2 ht3 ht4 ht5 hf0 hf1 hf2 hf3 hf4 hf5 hkd hgk h1 h2 h3 h4 h5 h6 h7 h8 h9
                  ·
                    by_cases h10 : n0 = 9
                    ·
                      exact ebFix8 w R hR A0 n0 cp0 w0 hn hm hx t0 t1 t2 t3 t4 t5 f0 f1 f2 f3 f4 f5 kd ht0 ht1 ht2 ht3 ht4 ht5 hf0 hf1 hf2 hf3 hf4 hf5 hkd hgk h1 h2 h3 h4 h5 h6 h7 h8 h9 h10
                    ·
                      by_cases h11 : n0 = 10
                      ·
                        exact ebFix9 w R hR A0 n0 cp0 w0 hn hm hx t0 t1 t2 t3 t4 t5 f0 f1 f2 f3 f4 f5 kd ht0 ht1 ht2 ht3 ht4 ht5 hf0 hf1 hf2 hf3 hf4 hf5 hkd hgk h1 h2 h3 h4 h5 h6 h7 h8 h9 h10 h11
                      ·
                        by_cases h12 : n0 = 11
                        ·
                          exact ebFix10 w R hR A0 n0 cp0 w0 hn hm hx t0 t1 t2 t3 t4 t5 f0 f1 f2 f3 f4 f5 kd ht0 ht1 ht2 ht3 ht4 ht5 hf0 hf1 hf2 hf3 hf4 hf5 hkd hgk h1 h2 h3 h4 h5 h6 h7 h8 h9 h10 h11 h12
                        ·
                          by_cases h13 : n0 = 12
                          ·
                            exact ebFix11 w R hR A0 n0 cp0 w0 hn hm hx t0 t1 t2 t3 t4 t5 f0 f1 f2 f3 f4 f5 kd ht0 ht1 ht2 ht3 ht4 ht5 hf0 hf1 hf2 hf3 hf4 hf5 hkd hgk h1 h2 h3 h4 h5 h6 h7 h8 h9 h10 h11 h12 h13
                          ·
                            by_cases h14 : n0 = 13
                            ·
                              exact ebFix12 w R hR A0 n0 cp0 w0 hn hm hx t0 t1 t2 t3 t4 t5 f0 f1 f2 f3 f4 f5 kd ht0 ht1 ht2 ht3 ht4 ht5 hf0 hf1 hf2 hf3 hf4 hf5 hkd hgk h1 h2 h3 h4 h5 h6 h7 h8 h9 h10 h11 h12 h13 h14
                            ·
                              by_cases h15 : n0 = 14
                              ·
                                exact ebFix13 w R hR A0 n0 cp0 w0 hn hm hx t0 t1 t2 t3 t4 t5 f0 f1 f2 f3 f4 f5 kd ht0 ht1 ht2 ht3 ht4 ht5 hf0 hf1 hf2 hf3 hf4 hf5 hkd hgk h1 h2 h3 h4 h5 h6 h7 h8 h9 h10 h11 h12 h13 h14 h15
                              ·
                                by_cases h16 : n0 = 15
                                ·
                                  exact ebFix14 w R hR A0 n0 cp0 w0 hn hm hx t0 t1 t2 t3 t4 t5 f0 f1 f2 f3 f4 f5 kd ht0 ht1 ht2 ht3 ht4 ht5 hf0 hf1 hf2 hf3 hf4 hf5 hkd hgk h1 h2 h3 h4 h5 h6 h7 h8 h9 h10 h11 h12 h13 h14 h15 h16
                                ·
                                  by_cases h17 : n0 = 16
                                  ·
                                    exact ebFix15 w R hR A0 n0 cp0 w0 hn hm hx t0 t1 t2 t3 t4 t5 f0 f1 f2 f3 f4 f5 kd ht0 ht1 ht2 ht3 ht4 ht5 hf0 hf1 hf2 hf3 hf4 hf5 hkd hgk h1 h2 h3 h4 h5 h6 h7 h8 h9 h10 h11 h12 h13 h14 h15 h16 h17
                                  ·
                                    by_cases h18 : n0 = 17
                                    ·
                                      exact ebFix16 w R hR A0 n0 cp0 w0 hn hm hx t0 t1 t2 t3 t4 t5 f0 f1 f2 f3 f4 f5 kd ht0 ht1 ht2 ht3 ht4 ht5 hf0 hf1 hf2 hf3 hf4 hf5 hkd hgk h1 h2 h3 h4 h5 h6 h7 h8 h9 h10 h11 h12 h13 h14 h15 h16 h17 h18
                                    ·
                                      by_cases h19 : n0 = 18
                                      ·
                                        exact ebFix17 w R hR A0 n0 cp0 w0 hn hm hx t0 t1 t2 t3 t4 t5 f0 f1 f2 f3 f4 f5 kd ht0 ht1 ht2 ht3 ht4 ht5 hf0 hf1 hf2 hf3 hf4 hf5 hkd hgk h1 h2 h3 h4 h5 h6 h7 h8 h9 h10 h11 h12 h13 h14 h15 h16 h17 h18 h19
                                      ·
                                        by_cases h20 : n0 = 19
                                        ·
                                          exact ebFix18 w R hR A0 n0 cp0 w0 hn hm hx t0 t1 t2 t3 t4 t5 f0 f1 f2 f3 f4 f5 kd ht0 ht1 ht2 ht3 ht4 ht5 hf0 hf1 hf2 hf3 hf4 hf5 hkd hgk h1 h2 h3 h4 h5 h6 h7 h8 h9 h10 h11 h12 h13 h14 h15 h16 h17 h18 h19 h20
                                        ·
                                          by_cases h21 : n0 = 20
                                          ·
                                            exact ebFix19 w R hR A0 n0 cp0 w0 hn hm hx t0 t1 t2 t3 t4 t5 f0 f1 f2 f3 f4 f5 kd ht0 ht1 ht2 ht3 ht4 ht5 hf0 hf1 hf2 hf3 hf4 hf5 hkd hgk h1 h2 h3 h4 h5 h6 h7 h8 h9 h10 h11 h12 h13 h14 h15 h16 h17 h18 h19 h20 h21
                                          ·
                                            by_cases h22 : n0 = 21
                                            ·
                                              exact ebFix20 w R hR A0 n0 cp0 w0 hn hm hx t0 t1 t2 t3 t4 t5 f0 f1 f2 f3 f4 f5 kd ht0 ht1 ht2 ht3 ht4 ht5 hf0 hf1 hf2 hf3 hf4 hf5 hkd hgk h1 h2 h3 h4 h5 h6 h7 h8 h9 h10 h11 h12 h13 h14 h15 h16 h17 h18 h19 h20 h21 h22
                                            ·
                                              by_cases h23 : n0 = 22
                                              ·
                                                exact ebFix21 w R hR A0 n0 cp0 w0 hn hm hx t0 t1 t2 t3 t4 t5 f0 f1 f2 f3 f4 f5 kd ht0 ht1 ht2 ht3 ht4 ht5 hf0 hf1 hf2 hf3 hf4 hf5 hkd hgk h1 h2 h3 h4 h5 h6 h7 h8 h9 h10 h11 h12 h13 h14 h15 h16 h17 h18 h19 h20 h21 h22 h23
                                              ·
                                                by_cases h24 : n0 = 23
                                                ·
                                                  exact ebFix22 w R hR A0 n0 cp0 w0 hn hm hx t0 t1 t2 t3 t4 t5 f0 f1 f2 f3 f4 f5 kd ht0 ht1 ht2 ht3 ht4 ht5 hf0 hf1 hf2 hf3 hf4 hf5 hkd hgk h1 h2 h3 h4 h5 h6 h7 h8 h9 h10 h11 h12 h13 h14 h15 h16 h17 h18 h19 h20 h21 h22 h23 h24
                                                ·
                                                  by_cases h25 : n0 = 24
                                                  ·
                                                    exact ebFix23 w R hR A0 n0 cp0 w0 hn hm hx t0 t1 t2 t3 t4 t5 f0 f1 f2 f3 f4 f5 kd ht0 ht1 ht2 ht3 ht4 ht5 hf0 hf1 hf2 hf3 hf4 hf5 hkd hgk h1 h2 h3 h4 h5 h6 h7 h8 h9 h10 h11 h12 h13 h14 h15 h16 h17 h18 h19 h20 h21 h22 h23 h24 h25
                                                  ·
                                                    by_cases h26 : n0 = 25
                                                    ·
                                                      exact ebFix24 w R hR A0 n0 cp0 w0 hn hm hx t0 t1 t2 t3 t4 t5 f0 f1 f2 f3 f4 f5 kd ht0 ht1 ht2 ht3 ht4 ht5 hf0 hf1 hf2 hf3 hf4 hf5 hkd hgk h1 h2 h3 h4 h5 h6 h7 h8 h9 h10 h11 h12 h13 h14 h15 h16 h17 h18 h19 h20 h21 h22 h23 h24 h25 h26
                                                    ·
                                                      by_cases h27 : n0 = 26
                                                      ·
                                                        exact ebFix25 w R hR A0 n0 cp0 w0 hn hm hx t0 t1 t2 t3 t4 t5 f0 f1 f2 f3 f4 f5 kd ht0 ht1 ht2 ht3 ht4 ht5 hf0 hf1 hf2 hf3 hf4 hf5 hkd hgk h1 h2 h3 h4 h5 h6 h7 h8 h9 h10 h11 h12 h13 h14 h15 h16 h17 h18 h19 h20 h21 h22 h23 h24 h25 h26 h27
                                                      ·
                                                        by_cases h28 : n0 = 27
                                                        ·
                                                          exact ebFix26 w R hR A0 n0 cp0 w0 hn hm hx t0 t1 t2 t3 t4 t5 f0 f1 f2 f3 f4 f5 kd ht0 ht1 ht2 ht3 ht4 ht5 hf0 hf1 hf2 hf3 hf4 hf5 hkd hgk h1 h2 h3 h4 h5 h6 h7 h8 h9 h10 h11 h12 h13 h14 h15 h16 h17 h18 h19 h20 h21 h22 h23 h24 h25 h26 h27 h28
                                                        ·
                                                          by_cases h29 : n0 = 28
                                                          ·
                                                            exact ebFix27 w R hR A0 n0 cp0 w0 hn hm hx t0 t1 t2 t3 t4 t5 f0 f1 f2 f3 f4 f5 kd ht0 ht1 ht2 ht3 ht4 ht5 hf0 hf1 hf2 hf3 hf4 hf5 hkd hgk h1 h2 h3 h4 h5 h6 h7 h8 h9 h10 h11 h12 h13 h14 h15 h16 h17 h18 h19 h20 h21 h22 h23 h24 h25 h26 h27 h28 h29
                                                          ·
                                                            by_cases h30 : n0 = 29
                                                            ·
                                                              exact ebFix28 w R hR A0 n0 cp0 w0 hn hm hx t0 t1 t2 t3 t4 t5 f0 f1 f2 f3 f4 f5 kd ht0 ht1 ht2 ht3 ht4 ht5 hf0 hf1 hf2 hf3 hf4 hf5 hkd hgk h1 h2 h3 h4 h5 h6 h7 h8 h9 h10 h11 h12 h13 h14 h15 h16 h17 h18 h19 h20 h21 h22 h23 h24 h25 h26 h27 h28 h29 h30
                                                            ·
                                                              by_cases h31 : n0 = 30
                                                              ·
                                                                exact ebFix29 w R hR A0 n0 cp0 w0 hn hm hx t0 t1 t2 t3 t4 t5 f0 f1 f2 f3 f4 f5 kd ht0 ht1 ht2 ht3 ht4 ht5 hf0 hf1 hf2 hf3 hf4 hf5 hkd hgk h1 h2 h3 h4 h5 h6 h7 h8 h9 h10 h11 h12 h13 h14 h15 h16 h17 h18 h19 h20 h21 h22 h23 h24 h25 h26 h27 h28 h29 h30 h31
                                                              ·
                                                                by_cases h32 : n0 = 31
                                                                ·
                                                                  exact ebFix30 w R hR A0 n0 cp0 w0 hn hm hx t0 t1 t2 t3 t4 t5 f0 f1 f2 f3 f4 f5 kd ht0 ht1 ht2 ht3 ht4 ht5 hf0 hf1 hf2 hf3 hf4 hf5 hkd hgk h1 h2 h3 h4 h5 h6 h7 h8 h9 h10 h11 h12 h13 h14 h15 h16 h17 h18 h19 h20 h21 h22 h23 h24 h25 h26 h27 h28 h29 h30 h31 h32
                                                                ·
                                                                  by_cases h33 : n0 = 32
                                                                  ·
                                                                    exact ebFix31 w R hR A0 n0 cp0 w0 hn hm hx t0 t1 t2 t3 t4 t5 f0 f1 f2 f3 f4 f5 kd ht0 ht1 ht2 ht3 ht4 ht5 hf0 hf1 hf2 hf3 hf4 hf5 hkd hgk h1 h2 h3 h4 h5 h6 h7 h8 h9 h10 h11 h12 h13 h14 h15 h16 h17 h18 h19 h20 h21 h22 h23 h24 h25 h26 h27 h28 h29 h30 h31 h32 h33
                                                                  ·
                                                                    by_cases h34 : n0 = 33
                                                                    ·
                                                                      exact ebFix32 w R hR A0 n0 cp0 w0 hn hm hx t0 t1 t2 t3 t4 t5 f0 f1 f2 f3 f4 f5 kd ht0 ht1 ht2 ht3 ht4 ht5 hf0 hf1 hf2 hf3 hf4 hf5 hkd hgk h1 h2 h3 h4 h5 h6 h7 h8 h9 h10 h11 h12 h13 h14 h15 h16 h17 h18 h19 h20 h21 h22 h23 h24 h25 h26 h27 h28 h29 h30 h31 h32 h33 h34
                                                                    ·
                                                                      by_cases h35 : n0 = 34
                                                                      ·
                                                                        exact ebFix33 w R hR A0 n0 cp0 w0 hn hm hx t0 t1 t2 t3 t4 t5 f0 f1 f2 f3 f4 f5 kd ht0 ht1 ht2 ht3 ht4 ht5 hf0 hf1 hf2 hf3 hf4 hf5 hkd hgk h1 h2 h3 h4 h5 h6 h7 h8 h9 h10 h11 h12 h13 h14 h15 h16 h17 h18 h19 h20 h21 h22 h23 h24 h25 h26 h27 h28 h29 h30 h31 h32 h33 h34 h35
                                                                      ·
                                                                        by_cases h36 : n0 = 35
                                                                        ·
                                                                          exact ebFix34 w R hR A0 n0 cp0 w0 hn hm hx t0 t1 t2 t3 t4 t5 f0 f1 f2 f3 f4 f5 kd ht0 ht1 ht2 ht3 ht4 ht5 hf0 hf1 hf2 hf3 hf4 hf5 hkd hgk h1 h2 h3 h4 h5 h6 h7 h8 h9 h10 h11 h12 h13 h14 h15 h16 h17 h18 h19 h20 h21 h22 h23 h24 h25 h26 h27 h28 h29 h30 h31 h32 h33 h34 h35 h36
                                                                        ·
                                                                          by_cases h37 : n0 = 36
                                                                          ·
                                                                            exact ebFix35 w R hR A0 n0 cp0 w0 hn hm hx t0 t1 t2 t3 t4 t5 f0 f1 f2 f3 f4 f5 kd ht0 ht1 ht2 ht3 ht4 ht5 hf0 hf1 hf2 hf3 hf4 hf5 hkd hgk h1 h2 h3 h4 h5 h6 h7 h8 h9 h10 h11 h12 h13 h14 h15 h16 h17 h18 h19 h20 h21 h22 h23 h24 h25 h26 h27 h28 h29 h30 h31 h32 h33 h34 h35 h36 h37
                                                                          ·
                                                                            by_cases h38 : n0 = 37
                                                                            ·
                                                                              exact ebFix36 w R hR A0 n0 cp0 w0 hn hm hx t0 t1 t2 t3 t4 t5 f0 f1 f2 f3 f4 f5 kd ht0 ht1 ht2 ht3 ht4 ht5 hf0 hf1 hf2 hf3 hf4 hf5 hkd hgk h1 h2 h3 h4 h5 h6 h7 h8 h9 h10 h11 h12 h13 h14 h15 h16 h17 h18 h19 h20 h21 h22 h23 h24 h25 h26 h27 h28 h29 h30 h31 h32 h33 h34 h35 h36 h37 h38
                                                                            ·
                                                                              by_cases h39 : n0 = 38
                                                                              ·
                                                                                exact ebFix37 w R hR A0 n0 cp0 w0 hn hm hx t0 t1 t2 t3 t4 t5 f0 f1 f2 f3 f4 f5 kd ht0 ht1 ht2 ht3 ht4 ht5 hf0 hf1 hf2 hf3 hf4 hf5 hkd hgk h1 h2 h3 h4 h5 h6 h7 h8 h9 h10 h11 h12 h13 h14 h15 h16 h17 h18 h19 h20 h21 h22 h23 h24 h25 h26 h27 h28 h29 h30 h31 h32 h33 h34 h35 h36 h37 h38 h39
                                                                              ·
                                                                                by_cases h40 : n0 = 39
                                                                                ·
                                                                                  exact ebFix38 w R hR A0 n0 cp0 w0 hn hm hx t0 t1 t2 t3 t4 t5 f0 f1 f2 f3 f4 f5 kd ht0 ht1 ht2 ht3 ht4 ht5 hf0 hf1 hf2 hf3 hf4 hf5 hkd hgk h1 h2 h3 h4 h5 h6 h7 h8 h9 h10 h11 h12 h13 h14 h15 h16 h17 h18 h19 h20 h21 h22 h23 h24 h25 h26 h27 h28 h29 h30 h31 h32 h33 h34 h35 h36 h37 h38 h39 h40
                                                                                ·
                                                                                  by_cases h41 : n0 = 40
                                                                                  ·
                                                                                    exact ebFix39 w R hR A0 n0 cp0 w0 hn hm hx t0 t1 t2 t3 t4 t5 f0 f1 f2 f3 f4 f5 kd ht0 ht1 ht2 ht3 ht4 ht5 hf0 hf1 hf2 hf3 hf4 hf5 hkd hgk h1 h2 h3 h4 h5 h6 h7 h8 h9 h10 h11 h12 h13 h14 h15 h16 h17 h18 h19 h20 h21 h22 h23 h24 h25 h26 h27 h28 h29 h30 h31 h32 h33 h34 h35 h36 h37 h38 h39 h40 h41
                                                                                  ·
                                                                                    by_cases h42 : n0 = 41
                                                                                    ·
                                                                                      exact ebFix40 w R hR A0 n0 cp0 w0 hn hm hx t0 t1 t2 t3 t4 t5 f0 f1 f2 f3 f4 f5 kd ht0 ht1 ht2 ht3 ht4 ht5 hf0 hf1 hf2 hf3 hf4 hf5 hkd hgk h1 h2 h3 h4 h5 h6 h7 h8 h9 h10 h11 h12 h13 h14 h15 h16 h17 h18 h19 h20 h21 h22 h23 h24 h25 h26 h27 h28 h29 h30 h31 h32 h33 h34 h35 h36 h37 h38 h39 h40 h41 h42
                                                                                    ·
                                                                                      by_cases h43 : n0 = 42
                                                                                      ·
                                                                                        exact ebFix41 w R hR A0 n0 cp0 w0 hn hm hx t0 t1 t2 t3 t4 t5 f0 f1 f2 f3 f4 f5 kd ht0 ht1 ht2 ht3 ht4 ht5 hf0 hf1 hf2 hf3 hf4 hf5 hkd hgk h1 h2 h3 h4 h5 h6 h7 h8 h9 h10 h11 h12 h13 h14 h15 h16 h17 h18 h19 h20 h21 h22 h23 h24 h25 h26 h27 h28 h29 h30 h31 h32 h33 h34 h35 h36 h37 h38 h39 h40 h41 h42 h43
                                                                                      ·
                                                                                        by_cases h44 : n0 = 43
                                                                                        ·
                                                                                          exact ebFix42 w R hR A0 n0 cp0 w0 hn hm hx t0 t1 t2 t3 t4 t5 f0 f1 f2 f3 f4 f5 kd ht0 ht1 ht2 ht3 ht4 ht5 hf0 hf1 hf2 hf3 hf4 hf5 hkd hgk h1 h2 h3 h4 h5 h6 h7 h8 h9 h10 h11 h12 h13 h14 h15 h16 h17 h18 h19 h20 h21 h22 h23 h24 h25 h26 h27 h28 h29 h30 h31 h32 h33 h34 h35 h36 h37 h38 h39 h40 h41 h42 h43 h44
                                                                                        ·
                                                                                          by_cases h45 : n0 = 44
                                                                                          ·
                                                                                            exact ebFix43 w R hR A0 n0 cp0 w0 hn hm hx t0 t1 t2 t3 t4 t5 f0 f1 f2 f3 f4 f5 kd ht0 ht1 ht2 ht3 ht4 ht5 hf0 hf1 hf2 hf3 hf4 hf5 hkd hgk h1 h2 h3 h4 h5 h6 h7 h8 h9 h10 h11 h12 h13 h14 h15 h16 h17 h18 h19 h20 h21 h22 h23 h24 h25 h26 h27 h28 h29 h30 h31 h32 h33 h34 h35 h36 h37 h38 h39 h40 h41 h42 h43 h44 h45
                                                                                          ·
                                                                                            by_cases h46 : n0 = 45
                                                                                            ·
                                                                                              exact ebFix44 w R hR A0 n0 cp0 w0 hn hm hx t0 t1 t2 t3 t4 t5 f0 f1 f2 f3 f4 f5 kd ht0 ht1 ht2 ht3 ht4 ht5 hf0 hf1 hf2 hf3 hf4 hf5 hkd hgk h1 h2 h3 h4 h5 h6 h7 h8 h9 h10 h11 h12 h13 h14 h15 h16 h17 h18 h19 h20 h21 h22 h23 h24 h25 h26 h27 h28 h29 h30 h31 h32 h33 h34 h35 h36 h37 h38 h39 h40 h41 h42 h43 h44 h45 h46
                                                                                            ·
                                                                                              exfalso; omega
  ·
    exfalso; omega
abbrev ebBadV (R : Nat → Int) (hR : ∀ j, 0 ≤ R j ∧ R j ≤ 255) (n0 : Nat) (t0 t1 t2 t3 t4 t5 f0 f1 f2 f3 f4 f5 kd : Int) : Env := envR [.int .i64 (n0 : Int), .int .u8 t0, .int .u8 t1, .int .u8 t2, .int .u8 t3, .int .u8 t4, .int .u8 t5, .int .u8 f0, .int .u8 f1, .int .u8 f2, .int .u8 f3, .int .u8 f4, .int .u8 f5, .int .i64 kd] R hR
abbrev ebBadB (R : Nat → Int) (n0 : Nat) (t0 t1 t2 t3 t4 t5 f0 f1 f2 f3 f4 f5 kd : Int) : Prop := n0 ≤ 70000 ∧ 1 ≤ n0 ∧ (kd < 1536 ∨ 65535 < kd) ∧ (0 ≤ t0 ∧ t0 ≤ 255) ∧ (0 ≤ t1 ∧ t1 ≤ 255) ∧ (0 ≤ t2 ∧ t2 ≤ 255) ∧ (0 ≤ t3 ∧ t3 ≤ 255) ∧ (0 ≤ t4 ∧ t4 ≤ 255) ∧ (0 ≤ t5 ∧ t5 ≤ 255) ∧ (0 ≤ f0 ∧ f0 ≤ 255) ∧ (0 ≤ f1 ∧ f1 ≤ 255) ∧ (0 ≤ f2 ∧ f2 ≤ 255) ∧ (0 ≤ f3 ∧ f3 ≤ 255) ∧ (0 ≤ f4 ∧ f4 ≤ 255) ∧ (0 ≤ f5 ∧ f5 ≤ 255) ∧ ((-9223372036854775808) ≤ kd ∧ kd ≤ 9223372036854775807)
def ebBads0 : Ent := .bin .gtr (.chan (some 0)) (.int .i64 2000) (.bool true)
theorem ebBads0_ok (R : Nat → Int) (hR : ∀ j, 0 ≤ R j ∧ R j ≤ 255) (n0 : Nat) (t0 t1 t2 t3 t4 t5 f0 f1 f2 f3 f4 f5 kd : Int) (hb : ebBadB R n0 t0 t1 t2 t3 t4 t5 f0 f1 f2 f3 f4 f5 kd) (hc : (n0 : Int) > 2000) : @EntOK (ebBadV R hR n0 t0 t1 t2 t3 t4 t5 f0 f1 f2 f3 f4 f5 kd) Try.prog ebBads0 := by
  letI : Env := ebBadV R hR n0 t0 t1 t2 t3 t4 t5 f0 f1 f2 f3 f4 f5 kd
  exact entCmp (k := .i64) (a := (n0 : Int)) (b := 2000) rfl rfl (by show some (decide (((n0 : Int) : Int) > 2000)) = some true; rw [decide_eq_true (by first | omega | (simp only [sumVal, oct.sumF, oct.F, oct.ws]; omega))])
def ebBads1 : Ent := .bin .gtr (.chan (some 0)) (.int .i64 2000) (.bool false)
theorem ebBads1_ok (R : Nat → Int) (hR : ∀ j, 0 ≤ R j ∧ R j ≤ 255) (n0 : Nat) (t0 t1 t2 t3 t4 t5 f0 f1 f2 f3 f4 f5 kd : Int) (hb : ebBadB R n0 t0 t1 t2 t3 t4 t5 f0 f1 f2 f3 f4 f5 kd) (hc : ¬ ((n0 : Int) > 2000)) : @EntOK (ebBadV R hR n0 t0 t1 t2 t3 t4 t5 f0 f1 f2 f3 f4 f5 kd) Try.prog ebBads1 := by
  letI : Env := ebBadV R hR n0 t0 t1 t2 t3 t4 t5 f0 f1 f2 f3 f4 f5 kd
  exact entCmp (k := .i64) (a := (n0 : Int)) (b := 2000) rfl rfl (by show some (decide (((n0 : Int) : Int) > 2000)) = some false; rw [decide_eq_false (by first | omega | (simp only [sumVal, oct.sumF, oct.F, oct.ws]; omega))])
def ebBads2 : Ent := .bin .lss (.chan (some 13)) (.int .i64 1536) (.bool true)
theorem ebBads2_ok (R : Nat → Int) (hR : ∀ j, 0 ≤ R j ∧ R j ≤ 255) (n0 : Nat) (t0 t1 t2 t3 t4 t5 f0 f1 f2 f3 f4 f5 kd : Int) (hb : ebBadB R n0 t0 t1 t2 t3 t4 t5 f0 f1 f2 f3 f4 f5 kd) (hc : kd < 1536) : @EntOK (ebBadV R hR n0 t0 t1 t2 t3 t4 t5 f0 f1 f2 f3 f4 f5 kd) Try.prog ebBads2 := by
  letI : Env := ebBadV R hR n0 t0 t1 t2 t3 t4 t5 f0 f1 f2 f3 f4 f5 kd
  exact entCmp (k := .i64) (a := kd) (b := 1536) rfl rfl (by show some (decide ((kd : Int) < 1536)) = some true; rw [decide_eq_true (by first | omega | (simp only [sumVal, oct.sumF, oct.F, oct.ws]; omega))])
def ebBads3 : Ent := .bin .lss (.chan (some 13)) (.int .i64 1536) (.bool false)
theorem ebBads3_ok (R : Nat → Int) (hR : ∀ j, 0 ≤ R j ∧ R j ≤ 255) (n0 : Nat) (t0 t1 t2 t3 t4 t5 f0 f1 f2 f3 f4 f5 kd : Int) (hb : ebBadB R n0 t0 t1 t2 t3 t4 t5 f0 f1 f2 f3 f4 f5 kd) (hc : ¬ (kd < 1536)) : @EntOK (ebBadV R hR n0 t0 t1 t2 t3 t4 t5 f0 f1 f2 f3 f4 f5 kd) Try.prog ebBads3 := by
  letI : Env := ebBadV R hR n0 t0 t1 t2 t3 t4 t5 f0 f1 f2 f3 f4 f5 kd
  exact entCmp (k := .i64) (a := kd) (b := 1536) rfl rfl (by show some (decide ((kd : Int) < 1536)) = some false; rw [decide_eq_false (by first | omega | (simp only [sumVal, oct.sumF, oct.F, oct.ws]; omega))])
def ebBads4 : Ent := .bin .gtr (.chan (some 13)) (.int .i64 65535) (.bool true)
theorem ebBads4_ok (R : Nat → Int) (hR : ∀ j, 0 ≤ R j ∧ R j ≤ 255) (n0 : Nat) (t0 t1 t2 t3 t4 t5 f0 f1 f2 f3 f4 f5 kd : Int) (hb : ebBadB R n0 t0 t1 t2 t3 t4 t5 f0 f1 f2 f3 f4 f5 kd) (hc : kd > 65535) : @EntOK (ebBadV R hR n0 t0 t1 t2 t3 t4 t5 f0 f1 f2 f3 f4 f5 kd) Try.prog ebBads4 := by
  letI : Env := ebBadV R hR n0 t0 t1 t2 t3 t4 t5 f0 f1 f2 f3 f4 f5 kd
  exact entCmp (k := .i64) (a := kd) (b := 65535) rfl rfl (by show some (decide ((kd : Int) > 65535)) = some true; rw [decide_eq_true (by first | omega | (simp only [sumVal, oct.sumF, oct.F, oct.ws]; omega))])
abbrev ebBadG : List Ent := []
theorem ebBadG_ok (R : Nat → Int) (hR : ∀ j, 0 ≤ R j ∧ R j ≤ 255) (n0 : Nat) (t0 t1 t2 t3 t4 t5 f0 f1 f2 f3 f4 f5 kd : Int) (hb : ebBadB R n0 t0 t1 t2 t3 t4 t5 f0 f1 f2 f3 f4 f5 kd) : ∀ e ∈ ebBadG, @EntOK (ebBadV R hR n0 t0 t1 t2 t3 t4 t5 f0 f1 f2 f3 f4 f5 kd) Try.prog e := by
  letI : Env := ebBadV R hR n0 t0 t1 t2 t3 t4 t5 f0 f1 f2 f3 f4 f5 kd
  exact allENil
set_option maxHeartbeats 4000000 in
theorem ebBad_run (w : World) (R : Nat → Int) (hR : ∀ j, 0 ≤ R j ∧ R j ≤ 255) (A0 : Addr) (n0 cp0 : Nat) (w0 : RowIn R 1048576 w A0 n0 cp0) (hn : n0 ≤ 70000) (hm : 1 ≤ n0) (t0 t1 t2 t3 t4 t5 f0 f1 f2 f3 f4 f5 kd : Int) (ht0 : 0 ≤ t0 ∧ t0 ≤ 255) (ht1 : 0 ≤ t1 ∧ t1 ≤ 255) (ht2 : 0 ≤ t2 ∧ t2 ≤ 255) (ht3 : 0 ≤ t3 ∧ t3 ≤ 255) (ht4 : 0 ≤ t4 ∧ t4 ≤ 255) (ht5 : 0 ≤ t5 ∧ t5 ≤ 255) (hf0 : 0 ≤ f0 ∧ f0 ≤ 255) (hf1 : 0 ≤ f1 ∧ f1 ≤ 255) (hf2 : 0 ≤ f2 ∧ f2 ≤ 255) (hf3 : 0 ≤ f3 ∧ f3 ≤ 255) (hf4 : 0 ≤ f4 ∧ f4 ≤ 255) (hf5 : 0 ≤ f5 ∧ f5 ≤ 255) (hkd : (-9223372036854775808) ≤ kd ∧ kd ≤ 9223372036854775807) (hgk : kd < 1536 ∨ 65535 < kd) (m0 : Nat) (hm0 : m0 ≤ n0) (L : List Ent) (hents : ∀ e ∈ L, @EntOK (ebBadV R hR n0 t0 t1 t2 t3 t4 t5 f0 f1 f2 f3 f4 f5 kd) Try.prog e) (h : says (fxCall Try.prog (tabG Try.prog L) (spTwo (spHelp ⟨12, 9, 13, 5⟩ [0]) (spKnown 15)) 300 5 [.agg #[.chan (some 1), .chan (some 2), .chan (some 3), .chan (some 4), .chan (some 5), .chan (some 6), .chan (some 7), .chan (some 8), .chan (some 9), .chan (some 10), .chan (some 11), .chan (some 12), .chan (some 13), .slice (some ⟨0, 0, some 1⟩) m0 0]] 1 (mem1 (rowAo 1048576 0 m0 5))) = some true) : Calls Try.prog 5 #[.agg #[.int .u8 t0, .int .u8 t1, .int .u8 t2, .int .u8 t3, .int .u8 t4, .int .u8 t5, .int .u8 f0, .int .u8 f1, .int .u8 f2, .int .u8 f3, .int .u8 f4, .int .u8 f5, .int .i64 kd, .slice (some A0) n0 cp0]] w (fun e w' => e = .returned (.bool true) ∧ Only [] w w') := by
  letI : Env := (ebBadV R hR n0 t0 t1 t2 t3 t4 t5 f0 f1 f2 f3 f4 f5 kd)
  have hsp : SpOK Try.prog (spTwo (spHelp ⟨12, 9, 13, 5⟩ [0]) (spKnown 15)) := (spTwo_ok (spHelp_ok helpC (by
    intro q hq
    simp only [List.mem_cons, List.not_mem_nil, or_false] at hq
    subst hq
    rw [lenOf_eq (n := n0) rfl]; omega)) (spKnown_ok knownBody known))
  refine lawR (tab := tabG Try.prog L) hsp (tabG_ok hents) (c0 := 1) (β0 := mp1 (rowIm A0 n0 cp0)) (w := w) h (sim1 rfl w0.lt (rowIn_ob w0 (by decide) rfl (by omega))) (fun i hi => ?_) ?_
  · match i, hi with
    | i + 1, _ => rfl
  · exact (PW.cons (PW.agg (PW.cons (.opq 1 rfl (fun b h => by cases h)) (PW.cons (.opq 2 rfl (fun b h => by cases h)) (PW.cons (.opq 3 rfl (fun b h => by cases h)) (PW.cons (.opq 4 rfl (fun b h => by cases h)) (PW.cons (.opq 5 rfl (fun b h => by cases h)) (PW.cons (.opq 6 rfl (fun b h => by cases h)) (PW.cons (.opq 7 rfl (fun b h => by cases h)) (PW.cons (.opq 8 rfl (fun b h => by cases h)) (PW.cons (.opq 9 rfl (fun b h => by cases h)) (PW.cons (.opq 10 rfl (fun b h => by cases h)) (PW.cons (.opq 11 rfl (fun b h => by cases h)) (PW.cons (.opq 12 rfl (fun b h => by cases h)) (PW.cons (.opq 13 rfl (fun b h => by cases h)) (PW.cons (rowIn_vr (m := m0) w0 rfl (by omega) (by omega) rfl) (PW.nil _)))))))))))))))) (PW.nil _))
abbrev ebBad0L : List Ent := ebBads0 :: ebBadG
theorem ebBad0 (w : World) (R : Nat → Int) (hR : ∀ j, 0 ≤ R j ∧ R j ≤ 255) (A0 : Addr) (n0 cp0 : Nat) (w0 : RowIn R 1048576 w A0 n0 cp0) (hn : n0 ≤ 70000) (hm : 1 ≤ n0) (t0 t1 t2 t3 t4 t5 f0 f1 f2 f3 f4 f5 kd : Int) (ht0 : 0 ≤ t0 ∧ t0 ≤ 255) (ht1 : 0 ≤ t1 ∧ t1 ≤ 255) (ht2 : 0 ≤ t2 ∧ t2 ≤ 255) (ht3 : 0 ≤ t3 ∧ t3 ≤ 255) (ht4 : 0 ≤ t4 ∧ t4 ≤ 255) (ht5 : 0 ≤ t5 ∧ t5 ≤ 255) (hf0 : 0 ≤ f0 ∧ f0 ≤ 255) (hf1 : 0 ≤ f1 ∧ f1 ≤ 255) (hf2 : 0 ≤ f2 ∧ f2 ≤ 255) (hf3 : 0 ≤ f3 ∧ f3 ≤ 255) (hf4 : 0 ≤ f4 ∧ f4 ≤ 255) (hf5 : 0 ≤ f5 ∧ f5 ≤ 255) (hkd : (-9223372036854775808) ≤ kd ∧ kd ≤ 9223372036854775807) (hgk : kd < 1536 ∨ 65535 < kd) (k0 : (n0 : Int) > 2000) : Calls Try.prog 5 #[.agg #[.int .u8 t0, .int .u8 t1, .int .u8 t2, .int .u8 t3, .int .u8 t4, .int .u8 t5, .int .u8 f0, .int .u8 f1, .int .u8 f2, .int .u8 f3, .int .u8 f4, .int .u8 f5, .int .i64 kd, .slice (some A0) n0 cp0]] w (fun e w' => e = .returned (.bool true) ∧ Only [] w w') := by
  letI : Env := (ebBadV R hR n0 t0 t1 t2 t3 t4 t5 f0 f1 f2 f3 f4 f5 kd)
  have hb : ebBadB R n0 t0 t1 t2 t3 t4 t5 f0 f1 f2 f3 f4 f5 kd := ⟨hn, hm, hgk, ht0, ht1, ht2, ht3, ht4, ht5, hf0, hf1, hf2, hf3, hf4, hf5, hkd⟩
  exact ebBad_run w R hR A0 n0 cp0 w0 hn hm t0 t1 t2 t3 t4 t5 f0 f1 f2 f3 f4 f5 kd ht0 ht1 ht2 ht3 ht4 ht5 hf0 hf1 hf2 hf3 hf4 hf5 hkd hgk 1 (by omega) ebBad0L (ac (ebBads0_ok R hR n0 t0 t1 t2 t3 t4 t5 f0 f1 f2 f3 f4 f5 kd hb k0) (ebBadG_ok R hR n0 t0 t1 t2 t3 t4 t5 f0 f1 f2 f3 f4 f5 kd hb)) (by kernel_rfl)
abbrev ebBad1L : List Ent := ebBads1 :: ebBads2 :: ebBadG
theorem ebBad1 (w : World) (R : Nat → Int) (hR : ∀ j, 0 ≤ R j ∧ R j ≤ 255) (A0 : Addr) (n0 cp0 : Nat) (w0 : RowIn R 1048576 w A0 n0 cp0) (hn : n0 ≤ 70000) (hm : 1 ≤ n0) (t0 t1 t2 t3 t4 t5 f0 f1 f2 f3 f4 f5 kd : Int) (ht0 : 0 ≤ t0 ∧ t0 ≤ 255) (ht1 : 0 ≤ t1 ∧ t1 ≤ 255) (ht2 : 0 ≤ t2 ∧ t2 ≤ 255) (ht3 : 0 ≤ t3 ∧ t3 ≤ 255) (ht4 : 0 ≤ t4 ∧ t4 ≤ 255) (ht5 : 0 ≤ t5 ∧ t5 ≤ 255) (hf0 : 0 ≤ f0 ∧ f0 ≤ 255) (hf1 : 0 ≤ f1 ∧ f1 ≤ 255) (hf2 : 0 ≤ f2 ∧ f2 ≤ 255) (hf3 : 0 ≤ f3 ∧ f3 ≤ 255) (hf4 : 0 ≤ f4 ∧ f4 ≤ 255) (hf5 : 0 ≤ f5 ∧ f5 ≤ 255) (hkd : (-9223372036854775808) ≤ kd ∧ kd ≤ 9223372036854775807) (hgk : kd < 1536 ∨ 65535 < kd) (k0 : ¬ ((n0 : Int) > 2000)) (k1 : kd < 1536) : Calls Try.prog 5 #[.agg #[.int .u8 t0, .int .u8 t1, .int .u8 t2, .int .u8 t3, .int .u8 t4, .int .u8 t5, .int .u8 f0, .int .u8 f1, .int .u8 f2, .int .u8 f3, .int .u8 f4, .int .u8 f5, .int .i64 kd, .slice (some A0) n0 cp0]] w (fun e w' => e = .returned (.bool true) ∧ Only [] w w') := by
  letI : Env := (ebBadV R hR n0 t0 t1 t2 t3 t4 t5 f0 f1 f2 f3 f4 f5 kd)
  have hb : ebBadB R n0 t0 t1 t2 t3 t4 t5 f0 f1 f2 f3 f4 f5 kd := ⟨hn, hm, hgk, ht0, ht1, ht2, ht3, ht4, ht5, hf0, hf1, hf2, hf3, hf4, hf5, hkd⟩
  exact ebBad_run w R hR A0 n0 cp0 w0 hn hm t0 t1 t2 t3 t4 t5 f0 f1 f2 f3 f4 f5 kd ht0 ht1 ht2 ht3 ht4 ht5 hf0 hf1 hf2 hf3 hf4 hf5 hkd hgk 1 (by omega) ebBad1L (ac (ebBads1_ok R hR n0 t0 t1 t2 t3 t4 t5 f0 f1 f2 f3 f4 f5 kd hb k0) (ac (ebBads2_ok R hR n0 t0 t1 t2 t3 t4 t5 f0 f1 f2 f3 f4 f5 kd hb k1) (ebBadG_ok R hR n0 t0 t1 t2 t3 t4 t5 f0 f1 f2 f3 f4 f5 kd hb))) (by kernel_rfl)
abbrev ebBad2L : List Ent := ebBads1 :: ebBads3 :: ebBads4 :: ebBadG
theorem ebBad2 (w : World) (R : Nat → Int) (hR : ∀ j, 0 ≤ R j ∧ R j ≤ 255) (A0 : Addr) (n0 cp0 : Nat) (w0 : RowIn R 1048576 w A0 n0 cp0) (hn : n0 ≤ 70000) (hm : 1 ≤ n0) (t0 t1 t2 t3 t4 t5 f0 f1 f2 f3 f4 f5 kd : Int) (ht0 : 0 ≤ t0 ∧ t0 ≤ 255) (ht1 : 0 ≤ t1 ∧ t1 ≤ 255) (ht2 : 0 ≤ t2 ∧ t2 ≤ 255) (ht3 : 0 ≤ t3 ∧ t3 ≤ 255) (ht4 : 0 ≤ t4 ∧ t4 ≤ 255) (ht5 : 0 ≤ t5 ∧ t5 ≤ 255) (hf0 : 0 ≤ f0 ∧ f0 ≤ 255) (hf1 : 0 ≤ f1 ∧ f1 ≤ 255) (hf2 : 0 ≤ f2 ∧ f2 ≤ 255) (hf3 : 0 ≤ f3 ∧ f3 ≤ 255) (hf4 : 0 ≤ f4 ∧ f4 ≤ 255) (hf5 : 0 ≤ f5 ∧ f5 ≤ 255) (hkd : (-9223372036854775808) ≤ kd ∧ kd ≤ 9223372036854775807) (hgk : kd < 1536 ∨ 65535 < kd) (k0 : ¬ ((n0 : Int) > 2000)) (k1 : ¬ (kd < 1536)) (k2 : kd > 65535) : Calls Try.prog 5 #[.agg #[.int .u8 t0, .int .u8 t1, .int .u8 t2, .int .u8 t3, .int .u8 t4, .int .u8 t5, .int .u8 f0, .int .u8 f1, .int .u8 f2, .int .u8 f3, .int .u8 f4, .int .u8 f5, .int .i64 kd, .slice (some A0) n0 cp0]] w (fun e w' => e = .returned (.bool true) ∧ Only [] w w') := by
  letI : Env := (ebBadV R hR n0 t0 t1 t2 t3 t4 t5 f0 f1 f2 f3 f4 f5 kd)
  have hb : ebBadB R n0 t0 t1 t2 t3 t4 t5 f0 f1 f2 f3 f4 f5 kd := ⟨hn, hm, hgk, ht0, ht1, ht2, ht3, ht4, ht5, hf0, hf1, hf2, hf3, hf4, hf5, hkd⟩
  exact ebBad_run w R hR A0 n0 cp0 w0 hn hm t0 t1 t2 t3 t4 t5 f0 f1 f2 f3 f4 f5 kd ht0 ht1 ht2 ht3 ht4 ht5 hf0 hf1 hf2 hf3 hf4 hf5 hkd hgk 1 (by omega) ebBad2L (ac (ebBads1_ok R hR n0 t0 t1 t2 t3 t4 t5 f0 f1 f2 f3 f4 f5 kd hb k0) (ac (ebBads3_ok R hR n0 t0 t1 t2 t3 t4 t5 f0 f1 f2 f3 f4 f5 kd hb k1) (ac (ebBads4_ok R hR n0 t0 t1 t2 t3 t4 t5 f0 f1 f2 f3 f4 f5 kd hb k2) (ebBadG_ok R hR n0 t0 t1 t2 t3 t4 t5 f0 f1 f2 f3 f4 f5 kd hb)))) (by kernel_rfl)
theorem EtherBackBad (w : World) (R : Nat → Int) (hR : ∀ j, 0 ≤ R j ∧ R j ≤ 255) (A0 : Addr) (n0 cp0 : Nat) (w0 : RowIn R 1048576 w A0 n0 cp0) (hn : n0 ≤ 70000) (hm : 1 ≤ n0) (t0 t1 t2 t3 t4 t5 f0 f1 f2 f3 f4 f5 kd : Int) (ht0 : 0 ≤ t0 ∧ t0 ≤ 255) (ht1 : 0 ≤ t1 ∧ t1 ≤ 255) (ht2 : 0 ≤ t2 ∧ t2 ≤ 255) (ht3 : 0 ≤ t3 ∧ t3 ≤ 255) (ht4 : 0 ≤ t4 ∧ t4 ≤ 255) (ht5 : 0 ≤ t5 ∧ t5 ≤ 255) (hf0 : 0 ≤ f0 ∧ f0 ≤ 255) (hf1 : 0 ≤ f1 ∧ f1 ≤ 255) (hf2 : 0 ≤ f2 ∧ f2 ≤ 255) (hf3 : 0 ≤ f3 ∧ f3 ≤ 255) (hf4 : 0 ≤ f4 ∧ f4 ≤ 255) (hf5 : 0 ≤ f5 ∧ f5 ≤ 255) (hkd : (-9223372036854775808) ≤ kd ∧ kd ≤ 9223372036854775807) (hgk : kd < 1536 ∨ 65535 < kd) : Calls Try.prog 5 #[.agg #[.int .u8 t0, .int .u8 t1, .int .u8 t2, .int .u8 t3, .int .u8 t4, .int .u8 t5, .int .u8 f0, .int .u8 f1, .int .u8 f2, .int .u8 f3, .int .u8 f4, .int .u8 f5, .int .i64 kd, .slice (some A0) n0 cp0]] w (fun e w' => e = .returned (.bool true) ∧ Only [] w w') := by
  by_cases h1 : (n0 : Int) > 2000
  ·
    exact ebBad0 w R hR A0 n0 cp0 w0 hn hm t0 t1 t2 t3 t4 t5 f0 f1 f2 f3 f4 f5 kd ht0 ht1 ht2 ht3 ht4 ht5 hf0 hf1 hf2 hf3 hf4 hf5 hkd hgk h1
  ·
    by_cases h2 : kd < 1536
    ·
      exact ebBad1 w R hR A0 n0 cp0 w0 hn hm t0 t1 t2 t3 t4 t5 f0 f1 f2 f3 f4 f5 kd ht0 ht1 ht2 ht3 ht4 ht5 hf0 hf1 hf2 hf3 hf4 hf5 hkd hgk h1 h2
    ·
      by_cases h3 : kd > 65535
      ·
        exact ebBad2 w R hR A0 n0 cp0 w0 hn hm t0 t1 t2 t3 t4 t5 f0 f1 f2 f3 f4 f5 kd ht0 ht1 ht2 ht3 ht4 ht5 hf0 hf1 hf2 hf3 hf4 hf5 hkd hgk h1 h2 h3
      ·
        exfalso; omega
abbrev ebNilV (R : Nat → Int) (hR : ∀ j, 0 ≤ R j ∧ R j ≤ 255) (t0 t1 t2 t3 t4 t5 f0 f1 f2 f3 f4 f5 kd : Int) : Env := envR [.int .u8 t0, .int .u8 t1, .int .u8 t2, .int .u8 t3, .int .u8 t4, .int .u8 t5, .int .u8 f0, .int .u8 f1, .int .u8 f2, .int .u8 f3, .int .u8 f4, .int .u8 f5, .int .i64 kd, .int .u64 kd, .int .u64 (kd / 256), .int .u8 (kd / 256), .int .u8 (kd % 256), .int .i64 (kd / 256), .int .i64 ((kd / 256) * 256), .int .i64 (kd % 256), .int .i64 (((kd / 256) * 256) + (kd % 256))] R hR
abbrev ebNilB (R : Nat → Int) (t0 t1 t2 t3 t4 t5 f0 f1 f2 f3 f4 f5 kd : Int) : Prop := (1536 ≤ kd ∧ kd ≤ 65535) ∧ (0 ≤ t0 ∧ t0 ≤ 255) ∧ (0 ≤ t1 ∧ t1 ≤ 255) ∧ (0 ≤ t2 ∧ t2 ≤ 255) ∧ (0 ≤ t3 ∧ t3 ≤ 255) ∧ (0 ≤ t4 ∧ t4 ≤ 255) ∧ (0 ≤ t5 ∧ t5 ≤ 255) ∧ (0 ≤ f0 ∧ f0 ≤ 255) ∧ (0 ≤ f1 ∧ f1 ≤ 255) ∧ (0 ≤ f2 ∧ f2 ≤ 255) ∧ (0 ≤ f3 ∧ f3 ≤ 255) ∧ (0 ≤ f4 ∧ f4 ≤ 255) ∧ (0 ≤ f5 ∧ f5 ≤ 255) ∧ ((-9223372036854775808) ≤ kd ∧ kd ≤ 9223372036854775807)
def ebNils0 : Ent := .conv .u64 (.chan (some 12)) (.chan (some 13))
theorem ebNils0_ok (R : Nat → Int) (hR : ∀ j, 0 ≤ R j ∧ R j ≤ 255) (t0 t1 t2 t3 t4 t5 f0 f1 f2 f3 f4 f5 kd : Int) (hb : ebNilB R t0 t1 t2 t3 t4 t5 f0 f1 f2 f3 f4 f5 kd) : @EntOK (ebNilV R hR t0 t1 t2 t3 t4 t5 f0 f1 f2 f3 f4 f5 kd) Try.prog ebNils0 := by
  letI : Env := ebNilV R hR t0 t1 t2 t3 t4 t5 f0 f1 f2 f3 f4 f5 kd
  exact entConvV (k := .u64) (l := .i64) (a := kd) (c := kd) rfl rfl (by rw [IntWalk.u64_in _ (by first | omega | (simp only [sumVal, oct.sumF, oct.F, oct.ws]; omega))])
def ebNils1 : Ent := .bin .shr (.chan (some 13)) (.int .u64 8) (.chan (some 14))
theorem ebNils1_ok (R : Nat → Int) (hR : ∀ j, 0 ≤ R j ∧ R j ≤ 255) (t0 t1 t2 t3 t4 t5 f0 f1 f2 f3 f4 f5 kd : Int) (hb : ebNilB R t0 t1 t2 t3 t4 t5 f0 f1 f2 f3 f4 f5 kd) : @EntOK (ebNilV R hR t0 t1 t2 t3 t4 t5 f0 f1 f2 f3 f4 f5 kd) Try.prog ebNils1 := by
  letI : Env := ebNilV R hR t0 t1 t2 t3 t4 t5 f0 f1 f2 f3 f4 f5 kd
  exact entShrV (k := .u64) (l := .u64) (a := kd) (c := (kd / 256)) (s := 8) rfl rfl rfl (by decide) (by exact fdiv_nat _ 256)
def ebNils2 : Ent := .conv .u8 (.chan (some 14)) (.chan (some 15))
theorem ebNils2_ok (R : Nat → Int) (hR : ∀ j, 0 ≤ R j ∧ R j ≤ 255) (t0 t1 t2 t3 t4 t5 f0 f1 f2 f3 f4 f5 kd : Int) (hb : ebNilB R t0 t1 t2 t3 t4 t5 f0 f1 f2 f3 f4 f5 kd) : @EntOK (ebNilV R hR t0 t1 t2 t3 t4 t5 f0 f1 f2 f3 f4 f5 kd) Try.prog ebNils2 := by
  letI : Env := ebNilV R hR t0 t1 t2 t3 t4 t5 f0 f1 f2 f3 f4 f5 kd
  exact entConvV (k := .u8) (l := .u64) (a := (kd / 256)) (c := (kd / 256)) rfl rfl (by rw [IntWalk.u8_in _ (by first | omega | (simp only [sumVal, oct.sumF, oct.F, oct.ws]; omega))])
def ebNils3 : Ent := .conv .u8 (.chan (some 13)) (.chan (some 16))
theorem ebNils3_ok (R : Nat → Int) (hR : ∀ j, 0 ≤ R j ∧ R j ≤ 255) (t0 t1 t2 t3 t4 t5 f0 f1 f2 f3 f4 f5 kd : Int) (hb : ebNilB R t0 t1 t2 t3 t4 t5 f0 f1 f2 f3 f4 f5 kd) : @EntOK (ebNilV R hR t0 t1 t2 t3 t4 t5 f0 f1 f2 f3 f4 f5 kd) Try.prog ebNils3 := by
  letI : Env := ebNilV R hR t0 t1 t2 t3 t4 t5 f0 f1 f2 f3 f4 f5 kd
  exact entConvV (k := .u8) (l := .u64) (a := kd) (c := (kd % 256)) rfl rfl (by rw [IntKind.wrap_u8])
def ebNils4 : Ent := .conv .i64 (.chan (some 15)) (.chan (some 17))
theorem ebNils4_ok (R : Nat → Int) (hR : ∀ j, 0 ≤ R j ∧ R j ≤ 255) (t0 t1 t2 t3 t4 t5 f0 f1 f2 f3 f4 f5 kd : Int) (hb : ebNilB R t0 t1 t2 t3 t4 t5 f0 f1 f2 f3 f4 f5 kd) : @EntOK (ebNilV R hR t0 t1 t2 t3 t4 t5 f0 f1 f2 f3 f4 f5 kd) Try.prog ebNils4 := by
  letI : Env := ebNilV R hR t0 t1 t2 t3 t4 t5 f0 f1 f2 f3 f4 f5 kd
  exact entConvV (k := .i64) (l := .u8) (a := (kd / 256)) (c := (kd / 256)) rfl rfl (by rw [IntWalk.i64_in _ (by first | omega | (simp only [sumVal, oct.sumF, oct.F, oct.ws]; omega))])
def ebNils5 : Ent := .bin .shl (.chan (some 17)) (.int .u64 8) (.chan (some 18))
theorem ebNils5_ok (R : Nat → Int) (hR : ∀ j, 0 ≤ R j ∧ R j ≤ 255) (t0 t1 t2 t3 t4 t5 f0 f1 f2 f3 f4 f5 kd : Int) (hb : ebNilB R t0 t1 t2 t3 t4 t5 f0 f1 f2 f3 f4 f5 kd) : @EntOK (ebNilV R hR t0 t1 t2 t3 t4 t5 f0 f1 f2 f3 f4 f5 kd) Try.prog ebNils5 := by
  letI : Env := ebNilV R hR t0 t1 t2 t3 t4 t5 f0 f1 f2 f3 f4 f5 kd
  exact entShlV (k := .i64) (l := .u64) (a := (kd / 256)) (c := ((kd / 256) * 256)) (s := 8) rfl rfl rfl (by decide) (by show IntKind.i64.wrap ((kd / 256) * 2 ^ 8) = ((kd / 256) * 256); rw [show ((2 : Int) ^ 8) = 256 from by decide, IntWalk.i64_in _ (by first | omega | (simp only [sumVal, oct.sumF, oct.F, oct.ws]; omega))])
def ebNils6 : Ent := .conv .i64 (.chan (some 16)) (.chan (some 19))
theorem ebNils6_ok (R : Nat → Int) (hR : ∀ j, 0 ≤ R j ∧ R j ≤ 255) (t0 t1 t2 t3 t4 t5 f0 f1 f2 f3 f4 f5 kd : Int) (hb : ebNilB R t0 t1 t2 t3 t4 t5 f0 f1 f2 f3 f4 f5 kd) : @EntOK (ebNilV R hR t0 t1 t2 t3 t4 t5 f0 f1 f2 f3 f4 f5 kd) Try.prog ebNils6 := by
  letI : Env := ebNilV R hR t0 t1 t2 t3 t4 t5 f0 f1 f2 f3 f4 f5 kd
  exact entConvV (k := .i64) (l := .u8) (a := (kd % 256)) (c := (kd % 256)) rfl rfl (by rw [IntWalk.i64_in _ (by first | omega | (simp only [sumVal, oct.sumF, oct.F, oct.ws]; omega))])
def ebNils7 : Ent := .bin .or (.chan (some 18)) (.chan (some 19)) (.chan (some 20))
theorem ebNils7_ok (R : Nat → Int) (hR : ∀ j, 0 ≤ R j ∧ R j ≤ 255) (t0 t1 t2 t3 t4 t5 f0 f1 f2 f3 f4 f5 kd : Int) (hb : ebNilB R t0 t1 t2 t3 t4 t5 f0 f1 f2 f3 f4 f5 kd) : @EntOK (ebNilV R hR t0 t1 t2 t3 t4 t5 f0 f1 f2 f3 f4 f5 kd) Try.prog ebNils7 := by
  letI : Env := ebNilV R hR t0 t1 t2 t3 t4 t5 f0 f1 f2 f3 f4 f5 kd
  exact entOrV (k := .i64) (a := ((kd / 256) * 256)) (b := (kd % 256)) (c := (((kd / 256) * 256) + (kd % 256))) rfl rfl rfl (by exact join_i64 (kd / 256) (kd % 256) 8 256 (by decide) (by first | omega | (simp only [sumVal, oct.sumF, oct.F, oct.ws]; omega)) (by first | omega | (simp only [sumVal, oct.sumF, oct.F, oct.ws]; omega)) (by first | omega | (simp only [sumVal, oct.sumF, oct.F, oct.ws]; omega)) (by first | omega | (simp only [sumVal, oct.sumF, oct.F, oct.ws]; omega)))
def ebNils8 : Ent := .eqs true 23 [.chan (some 0), .chan (some 1), .chan (some 2), .chan (some 3), .chan (some 4), .chan (some 5)] [.chan (some 0), .chan (some 1), .chan (some 2), .chan (some 3), .chan (some 4), .chan (some 5)] false
theorem ebNils8_ok (R : Nat → Int) (hR : ∀ j, 0 ≤ R j ∧ R j ≤ 255) (t0 t1 t2 t3 t4 t5 f0 f1 f2 f3 f4 f5 kd : Int) (hb : ebNilB R t0 t1 t2 t3 t4 t5 f0 f1 f2 f3 f4 f5 kd) : @EntOK (ebNilV R hR t0 t1 t2 t3 t4 t5 f0 f1 f2 f3 f4 f5 kd) Try.prog ebNils8 := by
  letI : Env := ebNilV R hR t0 t1 t2 t3 t4 t5 f0 f1 f2 f3 f4 f5 kd
  exact ⟨by intro v hv; simp only [List.mem_cons, List.not_mem_nil, or_false] at hv; rcases hv with rfl | rfl | rfl | rfl | rfl | rfl <;> first | exact .inl ⟨_, _, rfl⟩ | exact .inr ⟨_, rfl⟩, by intro v hv; simp only [List.mem_cons, List.not_mem_nil, or_false] at hv; rcases hv with rfl | rfl | rfl | rfl | rfl | rfl <;> first | exact .inl ⟨_, _, rfl⟩ | exact .inr ⟨_, rfl⟩, by intro a1 a2 w; (first | (refine eqMACd _ _ _ _ _ _ _ _ _ _ _ _ _ ?_ a1 a2 w; exact decide_eq_true (by omega)) | (refine neMACt _ _ _ _ _ _ _ _ _ _ _ _ ?_ a1 a2 w; exact decide_eq_true (by omega)))⟩
def ebNils9 : Ent := .eqs true 23 [.chan (some 6), .chan (some 7), .chan (some 8), .chan (some 9), .chan (some 10), .chan (some 11)] [.chan (some 6), .chan (some 7), .chan (some 8), .chan (some 9), .chan (some 10), .chan (some 11)] false
theorem ebNils9_ok (R : Nat → Int) (hR : ∀ j, 0 ≤ R j ∧ R j ≤ 255) (t0 t1 t2 t3 t4 t5 f0 f1 f2 f3 f4 f5 kd : Int) (hb : ebNilB R t0 t1 t2 t3 t4 t5 f0 f1 f2 f3 f4 f5 kd) : @EntOK (ebNilV R hR t0 t1 t2 t3 t4 t5 f0 f1 f2 f3 f4 f5 kd) Try.prog ebNils9 := by
  letI : Env := ebNilV R hR t0 t1 t2 t3 t4 t5 f0 f1 f2 f3 f4 f5 kd
  exact ⟨by intro v hv; simp only [List.mem_cons, List.not_mem_nil, or_false] at hv; rcases hv with rfl | rfl | rfl | rfl | rfl | rfl <;> first | exact .inl ⟨_, _, rfl⟩ | exact .inr ⟨_, rfl⟩, by intro v hv; simp only [List.mem_cons, List.not_mem_nil, or_false] at hv; rcases hv with rfl | rfl | rfl | rfl | rfl | rfl <;> first | exact .inl ⟨_, _, rfl⟩ | exact .inr ⟨_, rfl⟩, by intro a1 a2 w; (first | (refine eqMACd _ _ _ _ _ _ _ _ _ _ _ _ _ ?_ a1 a2 w; exact decide_eq_true (by omega)) | (refine neMACt _ _ _ _ _ _ _ _ _ _ _ _ ?_ a1 a2 w; exact decide_eq_true (by omega)))⟩
def ebNils10 : Ent := .bin .neq (.chan (some 20)) (.chan (some 12)) (.bool false)
theorem ebNils10_ok (R : Nat → Int) (hR : ∀ j, 0 ≤ R j ∧ R j ≤ 255) (t0 t1 t2 t3 t4 t5 f0 f1 f2 f3 f4 f5 kd : Int) (hb : ebNilB R t0 t1 t2 t3 t4 t5 f0 f1 f2 f3 f4 f5 kd) (hc : (((kd / 256) * 256) + (kd % 256)) = kd) : @EntOK (ebNilV R hR t0 t1 t2 t3 t4 t5 f0 f1 f2 f3 f4 f5 kd) Try.prog ebNils10 := by
  letI : Env := ebNilV R hR t0 t1 t2 t3 t4 t5 f0 f1 f2 f3 f4 f5 kd
  exact entCmp (k := .i64) (a := (((kd / 256) * 256) + (kd % 256))) (b := kd) rfl rfl (by show some (((((kd / 256) * 256) + (kd % 256)) : Int) != kd) = some false; rw [bne_eq_false_iff_eq.2 (by first | omega | (simp only [sumVal, oct.sumF, oct.F, oct.ws]; omega))])
abbrev ebNilG : List Ent := [ebNils0, ebNils1, ebNils2, ebNils3, ebNils4, ebNils5, ebNils6, ebNils7, ebNils8, ebNils9]
theorem ebNilG_ok (R : Nat → Int) (hR : ∀ j, 0 ≤ R j ∧ R j ≤ 255) (t0 t1 t2 t3 t4 t5 f0 f1 f2 f3 f4 f5 kd : Int) (hb : ebNilB R t0 t1 t2 t3 t4 t5 f0 f1 f2 f3 f4 f5 kd) : ∀ e ∈ ebNilG, @EntOK (ebNilV R hR t0 t1 t2 t3 t4 t5 f0 f1 f2 f3 f4 f5 kd) Try.prog e := by
  letI : Env := ebNilV R hR t0 t1 t2 t3 t4 t5 f0 f1 f2 f3 f4 f5 kd
  exact (ac (ebNils0_ok R hR t0 t1 t2 t3 t4 t5 f0 f1 f2 f3 f4 f5 kd hb) (ac (ebNils1_ok R hR t0 t1 t2 t3 t4 t5 f0 f1 f2 f3 f4 f5 kd hb) (ac (ebNils2_ok R hR t0 t1 t2 t3 t4 t5 f0 f1 f2 f3 f4 f5 kd hb) (ac (ebNils3_ok R hR t0 t1 t2 t3 t4 t5 f0 f1 f2 f3 f4 f5 kd hb) (ac (ebNils4_ok R hR t0 t1 t2 t3 t4 t5 f0 f1 f2 f3 f4 f5 kd hb) (ac (ebNils5_ok R hR t0 t1 t2 t3 t4 t5 f0 f1 f2 f3 f4 f5 kd hb) (ac (ebNils6_ok R hR t0 t1 t2 t3 t4 t5 f0 f1 f2 f3 f4 f5 kd hb) (ac (ebNils7_ok R hR t0 t1 t2 t3 t4 t5 f0 f1 f2 f3 f4 f5 kd hb) (ac (ebNils8_ok R hR t0 t1 t2 t3 t4 t5 f0 f1 f2 f3 f4 f5 kd hb) (ac (ebNils9_ok R hR t0 t1 t2 t3 t4 t5 f0 f1 f2 f3 f4 f5 kd hb) allENil))))))))))
abbrev ebNil0K (R : Nat → Int) (t0 t1 t2 t3 t4 t5 f0 f1 f2 f3 f4 f5 kd : Int) : Prop := ebNilB R t0 t1 t2 t3 t4 t5 f0 f1 f2 f3 f4 f5 kd ∧ ((((kd / 256) * 256) + (kd % 256)) = kd) ∧ True
def ebNil0e0 : Ent := .bin .lss (.chan (some 12)) (.int .i64 1536) (.bool false)
theorem ebNil0e0_ok (R : Nat → Int) (hR : ∀ j, 0 ≤ R j ∧ R j ≤ 255) (t0 t1 t2 t3 t4 t5 f0 f1 f2 f3 f4 f5 kd : Int) (hk : ebNil0K R t0 t1 t2 t3 t4 t5 f0 f1 f2 f3 f4 f5 kd) : @EntOK (ebNilV R hR t0 t1 t2 t3 t4 t5 f0 f1 f2 f3 f4 f5 kd) Try.prog ebNil0e0 := by
  letI : Env := (ebNilV R hR t0 t1 t2 t3 t4 t5 f0 f1 f2 f3 f4 f5 kd)
  obtain ⟨hb, k0, _⟩ := hk; exact entCmp (k := .i64) (a := kd) (b := 1536) rfl rfl (by show some (decide ((kd : Int) < 1536)) = some false; rw [decide_eq_false (by first | omega | (simp only [sumVal, oct.sumF, oct.F, oct.ws]; omega))])
def ebNil0e1 : Ent := .bin .gtr (.chan (some 12)) (.int .i64 65535) (.bool false)
theorem ebNil0e1_ok (R : Nat → Int) (hR : ∀ j, 0 ≤ R j ∧ R j ≤ 255) (t0 t1 t2 t3 t4 t5 f0 f1 f2 f3 f4 f5 kd : Int) (hk : ebNil0K R t0 t1 t2 t3 t4 t5 f0 f1 f2 f3 f4 f5 kd) : @EntOK (ebNilV R hR t0 t1 t2 t3 t4 t5 f0 f1 f2 f3 f4 f5 kd) Try.prog ebNil0e1 := by
  letI : Env := (ebNilV R hR t0 t1 t2 t3 t4 t5 f0 f1 f2 f3 f4 f5 kd)
  obtain ⟨hb, k0, _⟩ := hk; exact entCmp (k := .i64) (a := kd) (b := 65535) rfl rfl (by show some (decide ((kd : Int) > 65535)) = some false; rw [decide_eq_false (by first | omega | (simp only [sumVal, oct.sumF, oct.F, oct.ws]; omega))])
def ebNil0e10 : Ent := .bin .lss (.chan (some 20)) (.int .i64 1536) (.bool false)
theorem ebNil0e10_ok (R : Nat → Int) (hR : ∀ j, 0 ≤ R j ∧ R j ≤ 255) (t0 t1 t2 t3 t4 t5 f0 f1 f2 f3 f4 f5 kd : Int) (hk : ebNil0K R t0 t1 t2 t3 t4 t5 f0 f1 f2 f3 f4 f5 kd) : @EntOK (ebNilV R hR t0 t1 t2 t3 t4 t5 f0 f1 f2 f3 f4 f5 kd) Try.prog ebNil0e10 := by
  letI : Env := (ebNilV R hR t0 t1 t2 t3 t4 t5 f0 f1 f2 f3 f4 f5 kd)
  obtain ⟨hb, k0, _⟩ := hk; exact entCmp (k := .i64) (a := (((kd / 256) * 256) + (kd % 256))) (b := 1536) rfl rfl (by show some (decide (((((kd / 256) * 256) + (kd % 256)) : Int) < 1536)) = some false; rw [decide_eq_false (by first | omega | (simp only [sumVal, oct.sumF, oct.F, oct.ws]; omega))])
abbrev ebNil0L : List Ent := ebNil0e0 :: ebNil0e1 :: ebNil0e10 :: ebNils10 :: ebNilG
set_option maxHeartbeats 4000000 in
theorem ebNil0 (w : World) (R : Nat → Int) (hR : ∀ j, 0 ≤ R j ∧ R j ≤ 255) (t0 t1 t2 t3 t4 t5 f0 f1 f2 f3 f4 f5 kd : Int) (ht0 : 0 ≤ t0 ∧ t0 ≤ 255) (ht1 : 0 ≤ t1 ∧ t1 ≤ 255) (ht2 : 0 ≤ t2 ∧ t2 ≤ 255) (ht3 : 0 ≤ t3 ∧ t3 ≤ 255) (ht4 : 0 ≤ t4 ∧ t4 ≤ 255) (ht5 : 0 ≤ t5 ∧ t5 ≤ 255) (hf0 : 0 ≤ f0 ∧ f0 ≤ 255) (hf1 : 0 ≤ f1 ∧ f1 ≤ 255) (hf2 : 0 ≤ f2 ∧ f2 ≤ 255) (hf3 : 0 ≤ f3 ∧ f3 ≤ 255) (hf4 : 0 ≤ f4 ∧ f4 ≤ 255) (hf5 : 0 ≤ f5 ∧ f5 ≤ 255) (hkd : (-9223372036854775808) ≤ kd ∧ kd ≤ 9223372036854775807) (hgk : 1536 ≤ kd ∧ kd ≤ 65535) (k0 : (((kd / 256) * 256) + (kd % 256)) = kd) : Calls Try.prog 5 #[.agg #[.int .u8 t0, .int .u8 t1, .int .u8 t2, .int .u8 t3, .int .u8 t4, .int .u8 t5, .int .u8 f0, .int .u8 f1, .int .u8 f2, .int .u8 f3, .int .u8 f4, .int .u8 f5, .int .i64 kd, .slice none 0 0]] w (fun e w' => e = .returned (.bool true) ∧ Only [] w w') := by
  letI : Env := (ebNilV R hR t0 t1 t2 t3 t4 t5 f0 f1 f2 f3 f4 f5 kd)
  have hb : ebNilB R t0 t1 t2 t3 t4 t5 f0 f1 f2 f3 f4 f5 kd := ⟨hgk, ht0, ht1, ht2, ht3, ht4, ht5, hf0, hf1, hf2, hf3, hf4, hf5, hkd⟩
  have hk : ebNil0K R t0 t1 t2 t3 t4 t5 f0 f1 f2 f3 f4 f5 kd := ⟨hb, k0, trivial⟩
  have hents : ∀ e ∈ (ebNil0L : List Ent), EntOK Try.prog e := (ac (ebNil0e0_ok R hR t0 t1 t2 t3 t4 t5 f0 f1 f2 f3 f4 f5 kd hk) (ac (ebNil0e1_ok R hR t0 t1 t2 t3 t4 t5 f0 f1 f2 f3 f4 f5 kd hk) (ac (ebNil0e10_ok R hR t0 t1 t2 t3 t4 t5 f0 f1 f2 f3 f4 f5 kd hk) (ac (ebNils10_ok R hR t0 t1 t2 t3 t4 t5 f0 f1 f2 f3 f4 f5 kd hb k0) (ebNilG_ok R hR t0 t1 t2 t3 t4 t5 f0 f1 f2 f3 f4 f5 kd hb)))))
  have hsp : SpOK Try.prog (spKnown 15) := (spKnown_ok knownBody known)
  refine lawR (tab := tabG Try.prog ebNil0L) (sp := (spKnown 15)) hsp (tabG_ok hents) (f := 300) (args := [.agg #[.chan (some 0), .chan (some 1), .chan (some 2), .chan (some 3), .chan (some 4), .chan (some 5), .chan (some 6), .chan (some 7), .chan (some 8), .chan (some 9), .chan (some 10), .chan (some 11), .chan (some 12), .slice none 0 0]]) (args' := [.agg #[.int .u8 t0, .int .u8 t1, .int .u8 t2, .int .u8 t3, .int .u8 t4, .int .u8 t5, .int .u8 f0, .int .u8 f1, .int .u8 f2, .int .u8 f3, .int .u8 f4, .int .u8 f5, .int .i64 kd, .slice none 0 0]]) (c0 := 0) (h0 := .lf) (β0 := fun _ => none) (w := w) (by kernel_rfl) (Sim.nothing Try.prog w.heap.size w) (fun i hi => ?_) ?_
  · rfl
  · exact (PW.cons (PW.agg (PW.cons (.opq 0 rfl (fun b h => by cases h)) (PW.cons (.opq 1 rfl (fun b h => by cases h)) (PW.cons (.opq 2 rfl (fun b h => by cases h)) (PW.cons (.opq 3 rfl (fun b h => by cases h)) (PW.cons (.opq 4 rfl (fun b h => by cases h)) (PW.cons (.opq 5 rfl (fun b h => by cases h)) (PW.cons (.opq 6 rfl (fun b h => by cases h)) (PW.cons (.opq 7 rfl (fun b h => by cases h)) (PW.cons (.opq 8 rfl (fun b h => by cases h)) (PW.cons (.opq 9 rfl (fun b h => by cases h)) (PW.cons (.opq 10 rfl (fun b h => by cases h)) (PW.cons (.opq 11 rfl (fun b h => by cases h)) (PW.cons (.opq 12 rfl (fun b h => by cases h)) (PW.cons (.nils 0 0) (PW.nil _)))))))))))))))) (PW.nil _))
theorem EtherBackNil (w : World) (R : Nat → Int) (hR : ∀ j, 0 ≤ R j ∧ R j ≤ 255) (t0 t1 t2 t3 t4 t5 f0 f1 f2 f3 f4 f5 kd : Int) (ht0 : 0 ≤ t0 ∧ t0 ≤ 255) (ht1 : 0 ≤ t1 ∧ t1 ≤ 255) (ht2 : 0 ≤ t2 ∧ t2 ≤ 255) (ht3 : 0 ≤ t3 ∧ t3 ≤ 255) (ht4 : 0 ≤ t4 ∧ t4 ≤ 255) (ht5 : 0 ≤ t5 ∧ t5 ≤ 255) (hf0 : 0 ≤ f0 ∧ f0 ≤ 255) (hf1 : 0 ≤ f1 ∧ f1 ≤ 255) (hf2 : 0 ≤ f2 ∧ f2 ≤ 255) (hf3 : 0 ≤ f3 ∧ f3 ≤ 255) (hf4 : 0 ≤ f4 ∧ f4 ≤ 255) (hf5 : 0 ≤ f5 ∧ f5 ≤ 255) (hkd : (-9223372036854775808) ≤ kd ∧ kd ≤ 9223372036854775807) (hgk : 1536 ≤ kd ∧ kd ≤ 65535) : Calls Try.prog 5 #[.agg #[.int .u8 t0, .int .u8 t1, .int .u8 t2, .int .u8 t3, .int .u8 t4, .int .u8 t5, .int .u8 f0, .int .u8 f1, .int .u8 f2, .int .u8 f3, .int .u8 f4, .int .u8 f5, .int .i64 kd, .slice none 0 0]] w (fun e w' => e = .returned (.bool true) ∧ Only [] w w') := by
  by_cases h1 : (((kd / 256) * 256) + (kd % 256)) = kd
  ·
    exact ebNil0 w R hR t0 t1 t2 t3 t4 t5 f0 f1 f2 f3 f4 f5 kd ht0 ht1 ht2 ht3 ht4 ht5 hf0 hf1 hf2 hf3 hf4 hf5 hkd hgk h1
  ·
    exfalso; omega
abbrev ebNilBadV (R : Nat → Int) (hR : ∀ j, 0 ≤ R j ∧ R j ≤ 255) (t0 t1 t2 t3 t4 t5 f0 f1 f2 f3 f4 f5 kd : Int) : Env := envR [.int .u8 t0, .int .u8 t1, .int .u8 t2, .int .u8 t3, .int .u8 t4, .int .u8 t5, .int .u8 f0, .int .u8 f1, .int .u8 f2, .int .u8 f3, .int .u8 f4, .int .u8 f5, .int .i64 kd] R hR
abbrev ebNilBadB (R : Nat → Int) (t0 t1 t2 t3 t4 t5 f0 f1 f2 f3 f4 f5 kd : Int) : Prop := (kd < 1536 ∨ 65535 < kd) ∧ (0 ≤ t0 ∧ t0 ≤ 255) ∧ (0 ≤ t1 ∧ t1 ≤ 255) ∧ (0 ≤ t2 ∧ t2 ≤ 255) ∧ (0 ≤ t3 ∧ t3 ≤ 255) ∧ (0 ≤ t4 ∧ t4 ≤ 255) ∧ (0 ≤ t5 ∧ t5 ≤ 255) ∧ (0 ≤ f0 ∧ f0 ≤ 255) ∧ (0 ≤ f1 ∧ f1 ≤ 255) ∧ (0 ≤ f2 ∧ f2 ≤ 255) ∧ (0 ≤ f3 ∧ f3 ≤ 255) ∧ (0 ≤ f4 ∧ f4 ≤ 255) ∧ (0 ≤ f5 ∧ f5 ≤ 255) ∧ ((-9223372036854775808) ≤ kd ∧ kd ≤ 9223372036854775807)
def ebNilBads0 : Ent := .bin .lss (.chan (some 12)) (.int .i64 1536) (.bool true)
theorem ebNilBads0_ok (R : Nat → Int) (hR : ∀ j, 0 ≤ R j ∧ R j ≤ 255) (t0 t1 t2 t3 t4 t5 f0 f1 f2 f3 f4 f5 kd : Int) (hb : ebNilBadB R t0 t1 t2 t3 t4 t5 f0 f1 f2 f3 f4 f5 kd) (hc : kd < 1536) : @EntOK (ebNilBadV R hR t0 t1 t2 t3 t4 t5 f0 f1 f2 f3 f4 f5 kd) Try.prog ebNilBads0 := by
  letI : Env := ebNilBadV R hR t0 t1 t2 t3 t4 t5 f0 f1 f2 f3 f4 f5 kd
  exact entCmp (k := .i64) (a := kd) (b := 1536) rfl rfl (by show some (decide ((kd : Int) < 1536)) = some true; rw [decide_eq_true (by first | omega | (simp only [sumVal, oct.sumF, oct.F, oct.ws]; omega))])
def ebNilBads1 : Ent := .bin .lss (.chan (some 12)) (.int .i64 1536) (.bool false)
theorem ebNilBads1_ok (R : Nat → Int) (hR : ∀ j, 0 ≤ R j ∧ R j ≤ 255) (t0 t1 t2 t3 t4 t5 f0 f1 f2 f3 f4 f5 kd : Int) (hb : ebNilBadB R t0 t1 t2 t3 t4 t5 f0 f1 f2 f3 f4 f5 kd) (hc : ¬ (kd < 1536)) : @EntOK (ebNilBadV R hR t0 t1 t2 t3 t4 t5 f0 f1 f2 f3 f4 f5 kd) Try.prog ebNilBads1 := by
  letI : Env := ebNilBadV R hR t0 t1 t2 t3 t4 t5 f0 f1 f2 f3 f4 f5 kd
  exact entCmp (k := .i64) (a := kd) (b := 1536) rfl rfl (by show some (decide ((kd : Int) < 1536)) = some false; rw [decide_eq_false (by first | omega | (simp only [sumVal, oct.sumF, oct.F, oct.ws]; omega))])
def ebNilBads2 : Ent := .bin .gtr (.chan (some 12)) (.int .i64 65535) (.bool true)
theorem ebNilBads2_ok (R : Nat → Int) (hR : ∀ j, 0 ≤ R j ∧ R j ≤ 255) (t0 t1 t2 t3 t4 t5 f0 f1 f2 f3 f4 f5 kd : Int) (hb : ebNilBadB R t0 t1 t2 t3 t4 t5 f0 f1 f2 f3 f4 f5 kd) (hc : kd > 65535) : @EntOK (ebNilBadV R hR t0 t1 t2 t3 t4 t5 f0 f1 f2 f3 f4 f5 kd) Try.prog ebNilBads2 := by
  letI : Env := ebNilBadV R hR t0 t1 t2 t3 t4 t5 f0 f1 f2 f3 f4 f5 kd
  exact entCmp (k := .i64) (a := kd) (b := 65535) rfl rfl (by show some (decide ((kd : Int) > 65535)) = some true; rw [decide_eq_true (by first | omega | (simp only [sumVal, oct.sumF, oct.F, oct.ws]; omega))])
abbrev ebNilBadG : List Ent := []
theorem ebNilBadG_ok (R : Nat → Int) (hR : ∀ j, 0 ≤ R j ∧ R j ≤ 255) (t0 t1 t2 t3 t4 t5 f0 f1 f2 f3 f4 f5 kd : Int) (hb : ebNilBadB R t0 t1 t2 t3 t4 t5 f0 f1 f2 f3 f4 f5 kd) : ∀ e ∈ ebNilBadG, @EntOK (ebNilBadV R hR t0 t1 t2 t3 t4 t5 f0 f1 f2 f3 f4 f5 kd) Try.prog e := by
  letI : Env := ebNilBadV R hR t0 t1 t2 t3 t4 t5 f0 f1 f2 f3 f4 f5 kd
  exact allENil
abbrev ebNilBad0L : List Ent := ebNilBads0 :: ebNilBadG
set_option maxHeartbeats 4000000 in
theorem ebNilBad0 (w : World) (R : Nat → Int) (hR : ∀ j, 0 ≤ R j ∧ R j ≤ 255) (t0 t1 t2 t3 t4 t5 f0 f1 f2 f3 f4 f5 kd : Int) (ht0 : 0 ≤ t0 ∧ t0 ≤ 255) (ht1 : 0 ≤ t1 ∧ t1 ≤ 255) (ht2 : 0 ≤ t2 ∧ t2 ≤ 255) (ht3 : 0 ≤ t3 ∧ t3 ≤ 255) (ht4 : 0 ≤ t4 ∧ t4 ≤ 255) (ht5 : 0 ≤ t5 ∧ t5 ≤ 255) (hf0 : 0 ≤ f0 ∧ f0 ≤ 255) (hf1 : 0 ≤ f1 ∧ f1 ≤ 255) (hf2 : 0 ≤ f2 ∧ f2 ≤ 255) (hf3 : 0 ≤ f3 ∧ f3 ≤ 255) (hf4 : 0 ≤ f4 ∧ f4 ≤ 255) (hf5 : 0 ≤ f5 ∧ f5 ≤ 255) (hkd : (-9223372036854775808) ≤ kd ∧ kd ≤ 9223372036854775807) (hgk : kd < 1536 ∨ 65535 < kd) (k0 : kd < 1536) : Calls Try.prog 5 #[.agg #[.int .u8 t0, .int .u8 t1, .int .u8 t2, .int .u8 t3, .int .u8 t4, .int .u8 t5, .int .u8 f0, .int .u8 f1, .int .u8 f2, .int .u8 f3, .int .u8 f4, .int .u8 f5, .int .i64 kd, .slice none 0 0]] w (fun e w' => e = .returned (.bool true) ∧ Only [] w w') := by
  letI : Env := (ebNilBadV R hR t0 t1 t2 t3 t4 t5 f0 f1 f2 f3 f4 f5 kd)
  have hb : ebNilBadB R t0 t1 t2 t3 t4 t5 f0 f1 f2 f3 f4 f5 kd := ⟨hgk, ht0, ht1, ht2, ht3, ht4, ht5, hf0, hf1, hf2, hf3, hf4, hf5, hkd⟩
  have hents : ∀ e ∈ (ebNilBad0L : List Ent), EntOK Try.prog e := (ac (ebNilBads0_ok R hR t0 t1 t2 t3 t4 t5 f0 f1 f2 f3 f4 f5 kd hb k0) (ebNilBadG_ok R hR t0 t1 t2 t3 t4 t5 f0 f1 f2 f3 f4 f5 kd hb))
  have hsp : SpOK Try.prog (spKnown 15) := (spKnown_ok knownBody known)
  refine lawR (tab := tabG Try.prog ebNilBad0L) (sp := (spKnown 15)) hsp (tabG_ok hents) (f := 300) (args := [.agg #[.chan (some 0), .chan (some 1), .chan (some 2), .chan (some 3), .chan (some 4), .chan (some 5), .chan (some 6), .chan (some 7), .chan (some 8), .chan (some 9), .chan (some 10), .chan (some 11), .chan (some 12), .slice none 0 0]]) (args' := [.agg #[.int .u8 t0, .int .u8 t1, .int .u8 t2, .int .u8 t3, .int .u8 t4, .int .u8 t5, .int .u8 f0, .int .u8 f1, .int .u8 f2, .int .u8 f3, .int .u8 f4, .int .u8 f5, .int .i64 kd, .slice none 0 0]]) (c0 := 0) (h0 := .lf) (β0 := fun _ => none) (w := w) (by kernel_rfl) (Sim.nothing Try.prog w.heap.size w) (fun i hi => ?_) ?_
  · rfl
  · exact (PW.cons (PW.agg (PW.cons (.opq 0 rfl (fun b h => by cases h)) (PW.cons (.opq 1 rfl (fun b h => by cases h)) (PW.cons (.opq 2 rfl (fun b h => by cases h)) (PW.cons (.opq 3 rfl (fun b h => by cases h)) (PW.cons (.opq 4 rfl (fun b h => by cases h)) (PW.cons (.opq 5 rfl (fun b h => by cases h)) (PW.cons (.opq 6 rfl (fun b h => by cases h)) (PW.cons (.opq 7 rfl (fun b h => by cases h)) (PW.cons (.opq 8 rfl (fun b h => by cases h)) (PW.cons (.opq 9 rfl (fun b h => by cases h)) (PW.cons (.opq 10 rfl (fun b h => by cases h)) (PW.cons (.opq 11 rfl (fun b h => by cases h)) (PW.cons (.opq 12 rfl (fun b h => by cases h)) (PW.cons (.nils 0 0) (PW.nil _)))))))))))))))) (PW.nil _))
abbrev ebNilBad1L : List Ent := ebNilBads1 :: ebNilBads2 :: ebNilBadG
set_option maxHeartbeats 4000000 in
theorem ebNilBad1 (w : World) (R : Nat → Int) (hR : ∀ j, 0 ≤ R j ∧ R j ≤ 255) (t0 t1 t2 t3 t4 t5 f0 f1 f2 f3 f4 f5 kd : Int) (ht0 : 0 ≤ t0 ∧ t0 ≤ 255) (ht1 : 0 ≤ t1 ∧ t1 ≤ 255) (ht2 : 0 ≤ t2 ∧ t2 ≤ 255) (ht3 : 0 ≤ t3 ∧ t3 ≤ 255) (ht4 : 0 ≤ t4 ∧ t4 ≤ 255) (ht5 : 0 ≤ t5 ∧ t5 ≤ 255) (hf0 : 0 ≤ f0 ∧ f0 ≤ 255) (hf1 : 0 ≤ f1 ∧ f1 ≤ 255) (hf2 : 0 ≤ f2 ∧ f2 ≤ 255) (hf3 : 0 ≤ f3 ∧ f3 ≤ 255) (hf4 : 0 ≤ f4 ∧ f4 ≤ 255) (hf5 : 0 ≤ f5 ∧ f5 ≤ 255) (hkd : (-9223372036854775808) ≤ kd ∧ kd ≤ 9223372036854775807) (hgk : kd < 1536 ∨ 65535 < kd) (k0 : ¬ (kd < 1536)) (k1 : kd > 65535) : Calls Try.prog 5 #[.agg #[.int .u8 t0, .int .u8 t1, .int .u8 t2, .int .u8 t3, .int .u8 t4, .int .u8 t5, .int .u8 f0, .int .u8 f1, .int .u8 f2, .int .u8 f3, .int .u8 f4, .int .u8 f5, .int .i64 kd, .slice none 0 0]] w (fun e w' => e = .returned (.bool true) ∧ Only [] w w') := by
  letI : Env := (ebNilBadV R hR t0 t1 t2 t3 t4 t5 f0 f1 f2 f3 f4 f5 kd)
  have hb : ebNilBadB R t0 t1 t2 t3 t4 t5 f0 f1 f2 f3 f4 f5 kd := ⟨hgk, ht0, ht1, ht2, ht3, ht4, ht5, hf0, hf1, hf2, hf3, hf4, hf5, hkd⟩
  have hents : ∀ e ∈ (ebNilBad1L : List Ent), EntOK Try.prog e := (ac (ebNilBads1_ok R hR t0 t1 t2 t3 t4 t5 f0 f1 f2 f3 f4 f5 kd hb k0) (ac (ebNilBads2_ok R hR t0 t1 t2 t3 t4 t5 f0 f1 f2 f3 f4 f5 kd hb k1) (ebNilBadG_ok R hR t0 t1 t2 t3 t4 t5 f0 f1 f2 f3 f4 f5 kd hb)))
  have hsp : SpOK Try.prog (spKnown 15) := (spKnown_ok knownBody known)
  refine lawR (tab := tabG Try.prog ebNilBad1L) (sp := (spKnown 15)) hsp (tabG_ok hents) (f := 300) (args := [.agg #[.chan (some 0), .chan (some 1), .chan (some 2), .chan (some 3), .chan (some 4), .chan (some 5), .chan (some 6), .chan (some 7), .chan (some 8), .chan (some 9), .chan (some 10), .chan (some 11), .chan (some 12), .slice none 0 0]]) (args' := [.agg #[.int .u8 t0, .int .u8 t1, .int .u8 t2, .int .u8 t3, .int .u8 t4, .int .u8 t5, .int .u8 f0, .int .u8 f1, .int .u8 f2, .int .u8 f3, .int .u8 f4, .int .u8 f5, .int .i64 kd, .slice none 0 0]]) (c0 := 0) (h0 := .lf) (β0 := fun _ => none) (w := w) (by kernel_rfl) (Sim.nothing Try.prog w.heap.size w) (fun i hi => ?_) ?_
  · rfl
  · exact (PW.cons (PW.agg (PW.cons (.opq 0 rfl (fun b h => by cases h)) (PW.cons (.opq 1 rfl (fun b h => by cases h)) (PW.cons (.opq 2 rfl (fun b h => by cases h)) (PW.cons (.opq 3 rfl (fun b h => by cases h)) (PW.cons (.opq 4 rfl (fun b h => by cases h)) (PW.cons (.opq 5 rfl (fun b h => by cases h)) (PW.cons (.opq 6 rfl (fun b h => by cases h)) (PW.cons (.opq 7 rfl (fun b h => by cases h)) (PW.cons (.opq 8 rfl (fun b h => by cases h)) (PW.cons (.opq 9 rfl (fun b h => by cases h)) (PW.cons (.opq 10 rfl (fun b h => by cases h)) (PW.cons (.opq 11 rfl (fun b h => by cases h)) (PW.cons (.opq 12 rfl (fun b h => by cases h)) (PW.cons (.nils 0 0) (PW.nil _)))))))))))))))) (PW.nil _))
theorem EtherBackNilBad (w : World) (R : Nat → Int) (hR : ∀ j, 0 ≤ R j ∧ R j ≤ 255) (t0 t1 t2 t3 t4 t5 f0 f1 f2 f3 f4 f5 kd : Int) (ht0 : 0 ≤ t0 ∧ t0 ≤ 255) (ht1 : 0 ≤ t1 ∧ t1 ≤ 255) (ht2 : 0 ≤ t2 ∧ t2 ≤ 255) (ht3 : 0 ≤ t3 ∧ t3 ≤ 255) (ht4 : 0 ≤ t4 ∧ t4 ≤ 255) (ht5 : 0 ≤ t5 ∧ t5 ≤ 255) (hf0 : 0 ≤ f0 ∧ f0 ≤ 255) (hf1 : 0 ≤ f1 ∧ f1 ≤ 255) (hf2 : 0 ≤ f2 ∧ f2 ≤ 255) (hf3 : 0 ≤ f3 ∧ f3 ≤ 255) (hf4 : 0 ≤ f4 ∧ f4 ≤ 255) (hf5 : 0 ≤ f5 ∧ f5 ≤ 255) (hkd : (-9223372036854775808) ≤ kd ∧ kd ≤ 9223372036854775807) (hgk : kd < 1536 ∨ 65535 < kd) : Calls Try.prog 5 #[.agg #[.int .u8 t0, .int .u8 t1, .int .u8 t2, .int .u8 t3, .int .u8 t4, .int .u8 t5, .int .u8 f0, .int .u8 f1, .int .u8 f2, .int .u8 f3, .int .u8 f4, .int .u8 f5, .int .i64 kd, .slice none 0 0]] w (fun e w' => e = .returned (.bool true) ∧ Only [] w w') := by
  by_cases h1 : kd < 1536
  ·
    exact ebNilBad0 w R hR t0 t1 t2 t3 t4 t5 f0 f1 f2 f3 f4 f5 kd ht0 ht1 ht2 ht3 ht4 ht5 hf0 hf1 hf2 hf3 hf4 hf5 hkd hgk h1
  ·
    by_cases h2 : kd > 65535
    ·
      exact ebNilBad1 w R hR t0 t1 t2 t3 t4 t5 f0 f1 f2 f3 f4 f5 kd ht0 ht1 ht2 ht3 ht4 ht5 hf0 hf1 hf2 hf3 hf4 hf5 hkd hgk h1 h2
    ·
      exfalso; omega
abbrev ebEmpV (R : Nat → Int) (hR : ∀ j, 0 ≤ R j ∧ R j ≤ 255) (t0 t1 t2 t3 t4 t5 f0 f1 f2 f3 f4 f5 kd : Int) : Env := envR [.int .u8 t0, .int .u8 t1, .int .u8 t2, .int .u8 t3, .int .u8 t4, .int .u8 t5, .int .u8 f0, .int .u8 f1, .int .u8 f2, .int .u8 f3, .int .u8 f4, .int .u8 f5, .int .i64 kd, .int .u64 kd, .int .u64 (kd / 256), .int .u8 (kd / 256), .int .u8 (kd % 256), .int .i64 (kd / 256), .int .i64 ((kd / 256) * 256), .int .i64 (kd % 256), .int .i64 (((kd / 256) * 256) + (kd % 256))] R hR
abbrev ebEmpB (R : Nat → Int) (t0 t1 t2 t3 t4 t5 f0 f1 f2 f3 f4 f5 kd : Int) : Prop := (1536 ≤ kd ∧ kd ≤ 65535) ∧ (0 ≤ t0 ∧ t0 ≤ 255) ∧ (0 ≤ t1 ∧ t1 ≤ 255) ∧ (0 ≤ t2 ∧ t2 ≤ 255) ∧ (0 ≤ t3 ∧ t3 ≤ 255) ∧ (0 ≤ t4 ∧ t4 ≤ 255) ∧ (0 ≤ t5 ∧ t5 ≤ 255) ∧ (0 ≤ f0 ∧ f0 ≤ 255) ∧ (0 ≤ f1 ∧ f1 ≤ 255) ∧ (0 ≤ f2 ∧ f2 ≤ 255) ∧ (0 ≤ f3 ∧ f3 ≤ 255) ∧ (0 ≤ f4 ∧ f4 ≤ 255) ∧ (0 ≤ f5 ∧ f5 ≤ 255) ∧ ((-9223372036854775808) ≤ kd ∧ kd ≤ 9223372036854775807)
def ebEmps0 : Ent := .conv .u64 (.chan (some 12)) (.chan (some 13))
theorem ebEmps0_ok (R : Nat → Int) (hR : ∀ j, 0 ≤ R j ∧ R j ≤ 255) (t0 t1 t2 t3 t4 t5 f0 f1 f2 f3 f4 f5 kd : Int) (hb : ebEmpB R t0 t1 t2 t3 t4 t5 f0 f1 f2 f3 f4 f5 kd) : @EntOK (ebEmpV R hR t0 t1 t2 t3 t4 t5 f0 f1 f2 f3 f4 f5 kd) Try.prog ebEmps0 := by
  letI : Env := ebEmpV R hR t0 t1 t2 t3 t4 t5 f0 f1 f2 f3 f4 f5 kd
  exact entConvV (k := .u64) (l := .i64) (a := kd) (c := kd) rfl rfl (by rw [IntWalk.u64_in _ (by first | omega | (simp only [sumVal, oct.sumF, oct.F, oct.ws]; omega))])
def ebEmps1 : Ent := .bin .shr (.chan (some 13)) (.int .u64 8) (.chan (some 14))
theorem ebEmps1_ok (R : Nat → Int) (hR : ∀ j, 0 ≤ R j ∧ R j ≤ 255) (t0 t1 t2 t3 t4 t5 f0 f1 f2 f3 f4 f5 kd : Int) (hb : ebEmpB R t0 t1 t2 t3 t4 t5 f0 f1 f2 f3 f4 f5 kd) : @EntOK (ebEmpV R hR t0 t1 t2 t3 t4 t5 f0 f1 f2 f3 f4 f5 kd) Try.prog ebEmps1 := by
  letI : Env := ebEmpV R hR t0 t1 t2 t3 t4 t5 f0 f1 f2 f3 f4 f5 kd
  exact entShrV (k := .u64) (l := .u64) (a := kd) (c := (kd / 256)) (s := 8) rfl rfl rfl (by decide) (by exact fdiv_nat _ 256)
def ebEmps2 : Ent := .conv .u8 (.chan (some 14)) (.chan (some 15))
theorem ebEmps2_ok (R : Nat → Int) (hR : ∀ j, 0 ≤ R j ∧ R j ≤ 255) (t0 t1 t2 t3 t4 t5 f0 f1 f2 f3 f4 f5 kd : Int) (hb : ebEmpB R t0 t1 t2 t3 t4 t5 f0 f1 f2 f3 f4 f5 kd) : @EntOK (ebEmpV R hR t0 t1 t2 t3 t4 t5 f0 f1 f2 f3 f4 f5 kd) Try.prog ebEmps2 := by
  letI : Env := ebEmpV R hR t0 t1 t2 t3 t4 t5 f0 f1 f2 f3 f4 f5 kd
  exact entConvV (k := .u8) (l := .u64) (a := (kd / 256)) (c := (kd / 256)) rfl rfl (by rw [IntWalk.u8_in _ (by first | omega | (simp only [sumVal, oct.sumF, oct.F, oct.ws]; omega))])
def ebEmps3 : Ent := .conv .u8 (.chan (some 13)) (.chan (some 16))
theorem ebEmps3_ok (R : Nat → Int) (hR : ∀ j, 0 ≤ R j ∧ R j ≤ 255) (t0 t1 t2 t3 t4 t5 f0 f1 f2 f3 f4 f5 kd : Int) (hb : ebEmpB R t0 t1 t2 t3 t4 t5 f0 f1 f2 f3 f4 f5 kd) : @EntOK (ebEmpV R hR t0 t1 t2 t3 t4 t5 f0 f1 f2 f3 f4 f5 kd) Try.prog ebEmps3 := by
  letI : Env := ebEmpV R hR t0 t1 t2 t3 t4 t5 f0 f1 f2 f3 f4 f5 kd
  exact entConvV (k := .u8) (l := .u64) (a := kd) (c := (kd % 256)) rfl rfl (by rw [IntKind.wrap_u8])
def ebEmps4 : Ent := .conv .i64 (.chan (some 15)) (.chan (some 17))
theorem ebEmps4_ok (R : Nat → Int) (hR : ∀ j, 0 ≤ R j ∧ R j ≤ 255) (t0 t1 t2 t3 t4 t5 f0 f1 f2 f3 f4 f5 kd : Int) (hb : ebEmpB R t0 t1 t2 t3 t4 t5 f0 f1 f2 f3 f4 f5 kd) : @EntOK (ebEmpV R hR t0 t1 t2 t3 t4 t5 f0 f1 f2 f3 f4 f5 kd) Try.prog ebEmps4 := by
  letI : Env := ebEmpV R hR t0 t1 t2 t3 t4 t5 f0 f1 f2 f3 f4 f5 kd
  exact entConvV (k := .i64) (l := .u8) (a := (kd / 256)) (c := (kd / 256)) rfl rfl (by rw [IntWalk.i64_in _ (by first | omega | (simp only [sumVal, oct.sumF, oct.F, oct.ws]; omega))])
def ebEmps5 : Ent := .bin .shl (.chan (some 17)) (.int .u64 8) (.chan (some 18))
theorem ebEmps5_ok (R : Nat → Int) (hR : ∀ j, 0 ≤ R j ∧ R j ≤ 255) (t0 t1 t2 t3 t4 t5 f0 f1 f2 f3 f4 f5 kd : Int) (hb : ebEmpB R t0 t1 t2 t3 t4 t5 f0 f1 f2 f3 f4 f5 kd) : @EntOK (ebEmpV R hR t0 t1 t2 t3 t4 t5 f0 f1 f2 f3 f4 f5 kd) Try.prog ebEmps5 := by
  letI : Env := ebEmpV R hR t0 t1 t2 t3 t4 t5 f0 f1 f2 f3 f4 f5 kd
  exact entShlV (k := .i64) (l := .u64) (a := (kd / 256)) (c := ((kd / 256) * 256)) (s := 8) rfl rfl rfl (by decide) (by show IntKind.i64.wrap ((kd / 256) * 2 ^ 8) = ((kd / 256) * 256); rw [show ((2 : Int) ^ 8) = 256 from by decide, IntWalk.i64_in _ (by first | omega | (simp only [sumVal, oct.sumF, oct.F, oct.ws]; omega))])
def ebEmps6 : Ent := .conv .i64 (.chan (some 16)) (.chan (some 19))
theorem ebEmps6_ok (R : Nat → Int) (hR : ∀ j, 0 ≤ R j ∧ R j ≤ 255) (t0 t1 t2 t3 t4 t5 f0 f1 f2 f3 f4 f5 kd : Int) (hb : ebEmpB R t0 t1 t2 t3 t4 t5 f0 f1 f2 f3 f4 f5 kd) : @EntOK (ebEmpV R hR t0 t1 t2 t3 t4 t5 f0 f1 f2 f3 f4 f5 kd) Try.prog ebEmps6 := by
  letI : Env := ebEmpV R hR t0 t1 t2 t3 t4 t5 f0 f1 f2 f3 f4 f5 kd
  exact entConvV (k := .i64) (l := .u8) (a := (kd % 256)) (c := (kd % 256)) rfl rfl (by rw [IntWalk.i64_in _ (by first | omega | (simp only [sumVal, oct.sumF, oct.F, oct.ws]; omega))])
def ebEmps7 : Ent := .bin .or (.chan (some 18)) (.chan (some 19)) (.chan (some 20))
theorem ebEmps7_ok (R : Nat → Int) (hR : ∀ j, 0 ≤ R j ∧ R j ≤ 255) (t0 t1 t2 t3 t4 t5 f0 f1 f2 f3 f4 f5 kd : Int) (hb : ebEmpB R t0 t1 t2 t3 t4 t5 f0 f1 f2 f3 f4 f5 kd) : @EntOK (ebEmpV R hR t0 t1 t2 t3 t4 t5 f0 f1 f2 f3 f4 f5 kd) Try.prog ebEmps7 := by
  letI : Env := ebEmpV R hR t0 t1 t2 t3 t4 t5 f0 f1 f2 f3 f4 f5 kd
  exact entOrV (k := .i64) (a := ((kd / 256) * 256)) (b := (kd % 256)) (c := (((kd / 256) * 256) + (kd % 256))) rfl rfl rfl (by exact join_i64 (kd / 256) (kd % 256) 8 256 (by decide) (by first | omega | (simp only [sumVal, oct.sumF, oct.F, oct.ws]; omega)) (by first | omega | (simp only [sumVal, oct.sumF, oct.F, oct.ws]; omega)) (by first | omega | (simp only [sumVal, oct.sumF, oct.F, oct.ws]; omega)) (by first | omega | (simp only [sumVal, oct.sumF, oct.F, oct.ws]; omega)))
def ebEmps8 : Ent := .eqs true 23 [.chan (some 0), .chan (some 1), .chan (some 2), .chan (some 3), .chan (some 4), .chan (some 5)] [.chan (some 0), .chan (some 1), .chan (some 2), .chan (some 3), .chan (some 4), .chan (some 5)] false
theorem ebEmps8_ok (R : Nat → Int) (hR : ∀ j, 0 ≤ R j ∧ R j ≤ 255) (t0 t1 t2 t3 t4 t5 f0 f1 f2 f3 f4 f5 kd : Int) (hb : ebEmpB R t0 t1 t2 t3 t4 t5 f0 f1 f2 f3 f4 f5 kd) : @EntOK (ebEmpV R hR t0 t1 t2 t3 t4 t5 f0 f1 f2 f3 f4 f5 kd) Try.prog ebEmps8 := by
  letI : Env := ebEmpV R hR t0 t1 t2 t3 t4 t5 f0 f1 f2 f3 f4 f5 kd
  exact ⟨by intro v hv; simp only [List.mem_cons, List.not_mem_nil, or_false] at hv; rcases hv with rfl | rfl | rfl | rfl | rfl | rfl <;> first | exact .inl ⟨_, _, rfl⟩ | exact .inr ⟨_, rfl⟩, by intro v hv; simp only [List.mem_cons, List.not_mem_nil, or_false] at hv; rcases hv with rfl | rfl | rfl | rfl | rfl | rfl <;> first | exact .inl ⟨_, _, rfl⟩ | exact .inr ⟨_, rfl⟩, by intro a1 a2 w; (first | (refine eqMACd _ _ _ _ _ _ _ _ _ _ _ _ _ ?_ a1 a2 w; exact decide_eq_true (by omega)) | (refine neMACt _ _ _ _ _ _ _ _ _ _ _ _ ?_ a1 a2 w; exact decide_eq_true (by omega)))⟩
def ebEmps9 : Ent := .eqs true 23 [.chan (some 6), .chan (some 7), .chan (some 8), .chan (some 9), .chan (some 10), .chan (some 11)] [.chan (some 6), .chan (some 7), .chan (some 8), .chan (some 9), .chan (some 10), .chan (some 11)] false
theorem ebEmps9_ok (R : Nat → Int) (hR : ∀ j, 0 ≤ R j ∧ R j ≤ 255) (t0 t1 t2 t3 t4 t5 f0 f1 f2 f3 f4 f5 kd : Int) (hb : ebEmpB R t0 t1 t2 t3 t4 t5 f0 f1 f2 f3 f4 f5 kd) : @EntOK (ebEmpV R hR t0 t1 t2 t3 t4 t5 f0 f1 f2 f3 f4 f5 kd) Try.prog ebEmps9 := by
  letI : Env := ebEmpV R hR t0 t1 t2 t3 t4 t5 f0 f1 f2 f3 f4 f5 kd
  exact ⟨by intro v hv; simp only [List.mem_cons, List.not_mem_nil, or_false] at hv; rcases hv with rfl | rfl | rfl | rfl | rfl | rfl <;> first | exact .inl ⟨_, _, rfl⟩ | exact .inr ⟨_, rfl⟩, by intro v hv; simp only [List.mem_cons, List.not_mem_nil, or_false] at hv; rcases hv with rfl | rfl | rfl | rfl | rfl | rfl <;> first | exact .inl ⟨_, _, rfl⟩ | exact .inr ⟨_, rfl⟩, by intro a1 a2 w; (first | (refine eqMACd _ _ _ _ _ _ _ _ _ _ _ _ _ ?_ a1 a2 w; exact decide_eq_true (by omega)) | (refine neMACt _ _ _ _ _ _ _ _ _ _ _ _ ?_ a1 a2 w; exact decide_eq_true (by omega)))⟩
def ebEmps10 : Ent := .bin .neq (.chan (some 20)) (.chan (some 12)) (.bool false)
theorem ebEmps10_ok (R : Nat → Int) (hR : ∀ j, 0 ≤ R j ∧ R j ≤ 255) (t0 t1 t2 t3 t4 t5 f0 f1 f2 f3 f4 f5 kd : Int) (hb : ebEmpB R t0 t1 t2 t3 t4 t5 f0 f1 f2 f3 f4 f5 kd) (hc : (((kd / 256) * 256) + (kd % 256)) = kd) : @EntOK (ebEmpV R hR t0 t1 t2 t3 t4 t5 f0 f1 f2 f3 f4 f5 kd) Try.prog ebEmps10 := by
  letI : Env := ebEmpV R hR t0 t1 t2 t3 t4 t5 f0 f1 f2 f3 f4 f5 kd
  exact entCmp (k := .i64) (a := (((kd / 256) * 256) + (kd % 256))) (b := kd) rfl rfl (by show some (((((kd / 256) * 256) + (kd % 256)) : Int) != kd) = some false; rw [bne_eq_false_iff_eq.2 (by first | omega | (simp only [sumVal, oct.sumF, oct.F, oct.ws]; omega))])
abbrev ebEmpG : List Ent := [ebEmps0, ebEmps1, ebEmps2, ebEmps3, ebEmps4, ebEmps5, ebEmps6, ebEmps7, ebEmps8, ebEmps9]
theorem ebEmpG_ok (R : Nat → Int) (hR : ∀ j, 0 ≤ R j ∧ R j ≤ 255) (t0 t1 t2 t3 t4 t5 f0 f1 f2 f3 f4 f5 kd : Int) (hb : ebEmpB R t0 t1 t2 t3 t4 t5 f0 f1 f2 f3 f4 f5 kd) : ∀ e ∈ ebEmpG, @EntOK (ebEmpV R hR t0 t1 t2 t3 t4 t5 f0 f1 f2 f3 f4 f5 kd) Try.prog e := by
  letI : Env := ebEmpV R hR t0 t1 t2 t3 t4 t5 f0 f1 f2 f3 f4 f5 kd
  exact (ac (ebEmps0_ok R hR t0 t1 t2 t3 t4 t5 f0 f1 f2 f3 f4 f5 kd hb) (ac (ebEmps1_ok R hR t0 t1 t2 t3 t4 t5 f0 f1 f2 f3 f4 f5 kd hb) (ac (ebEmps2_ok R hR t0 t1 t2 t3 t4 t5 f0 f1 f2 f3 f4 f5 kd hb) (ac (ebEmps3_ok R hR t0 t1 t2 t3 t4 t5 f0 f1 f2 f3 f4 f5 kd hb) (ac (ebEmps4_ok R hR t0 t1 t2 t3 t4 t5 f0 f1 f2 f3 f4 f5 kd hb) (ac (ebEmps5_ok R hR t0 t1 t2 t3 t4 t5 f0 f1 f2 f3 f4 f5 kd hb) (ac (ebEmps6_ok R hR t0 t1 t2 t3 t4 t5 f0 f1 f2 f3 f4 f5 kd hb) (ac (ebEmps7_ok R hR t0 t1 t2 t3 t4 t5 f0 f1 f2 f3 f4 f5 kd hb) (ac (ebEmps8_ok R hR t0 t1 t2 t3 t4 t5 f0 f1 f2 f3 f4 f5 kd hb) (ac (ebEmps9_ok R hR t0 t1 t2 t3 t4 t5 f0 f1 f2 f3 f4 f5 kd hb) allENil))))))))))
abbrev ebEmp0K (R : Nat → Int) (t0 t1 t2 t3 t4 t5 f0 f1 f2 f3 f4 f5 kd : Int) : Prop := ebEmpB R t0 t1 t2 t3 t4 t5 f0 f1 f2 f3 f4 f5 kd ∧ ((((kd / 256) * 256) + (kd % 256)) = kd) ∧ True
def ebEmp0e0 : Ent := .bin .lss (.chan (some 12)) (.int .i64 1536) (.bool false)
theorem ebEmp0e0_ok (R : Nat → Int) (hR : ∀ j, 0 ≤ R j ∧ R j ≤ 255) (t0 t1 t2 t3 t4 t5 f0 f1 f2 f3 f4 f5 kd : Int) (hk : ebEmp0K R t0 t1 t2 t3 t4 t5 f0 f1 f2 f3 f4 f5 kd) : @EntOK (ebEmpV R hR t0 t1 t2 t3 t4 t5 f0 f1 f2 f3 f4 f5 kd) Try.prog ebEmp0e0 := by
  letI : Env := (ebEmpV R hR t0 t1 t2 t3 t4 t5 f0 f1 f2 f3 f4 f5 kd)
  obtain ⟨hb, k0, _⟩ := hk; exact entCmp (k := .i64) (a := kd) (b := 1536) rfl rfl (by show some (decide ((kd : Int) < 1536)) = some false; rw [decide_eq_false (by first | omega | (simp only [sumVal, oct.sumF, oct.F, oct.ws]; omega))])
def ebEmp0e1 : Ent := .bin .gtr (.chan (some 12)) (.int .i64 65535) (.bool false)
theorem ebEmp0e1_ok (R : Nat → Int) (hR : ∀ j, 0 ≤ R j ∧ R j ≤ 255) (t0 t1 t2 t3 t4 t5 f0 f1 f2 f3 f4 f5 kd : Int) (hk : ebEmp0K R t0 t1 t2 t3 t4 t5 f0 f1 f2 f3 f4 f5 kd) : @EntOK (ebEmpV R hR t0 t1 t2 t3 t4 t5 f0 f1 f2 f3 f4 f5 kd) Try.prog ebEmp0e1 := by
  letI : Env := (ebEmpV R hR t0 t1 t2 t3 t4 t5 f0 f1 f2 f3 f4 f5 kd)
  obtain ⟨hb, k0, _⟩ := hk; exact entCmp (k := .i64) (a := kd) (b := 65535) rfl rfl (by show some (decide ((kd : Int) > 65535)) = some false; rw [decide_eq_false (by first | omega | (simp only [sumVal, oct.sumF, oct.F, oct.ws]; omega))])
def ebEmp0e10 : Ent := .bin .lss (.chan (some 20)) (.int .i64 1536) (.bool false)
theorem ebEmp0e10_ok (R : Nat → Int) (hR : ∀ j, 0 ≤ R j ∧ R j ≤ 255) (t0 t1 t2 t3 t4 t5 f0 f1 f2 f3 f4 f5 kd : Int) (hk : ebEmp0K R t0 t1 t2 t3 t4 t5 f0 f1 f2 f3 f4 f5 kd) : @EntOK (ebEmpV R hR t0 t1 t2 t3 t4 t5 f0 f1 f2 f3 f4 f5 kd) Try.prog ebEmp0e10 := by
  letI : Env := (ebEmpV R hR t0 t1 t2 t3 t4 t5 f0 f1 f2 f3 f4 f5 kd)
  obtain ⟨hb, k0, _⟩ := hk; exact entCmp (k := .i64) (a := (((kd / 256) * 256) + (kd % 256))) (b := 1536) rfl rfl (by show some (decide (((((kd / 256) * 256) + (kd % 256)) : Int) < 1536)) = some false; rw [decide_eq_false (by first | omega | (simp only [sumVal, oct.sumF, oct.F, oct.ws]; omega))])
abbrev ebEmp0L : List Ent := ebEmp0e0 :: ebEmp0e1 :: ebEmp0e10 :: ebEmps10 :: ebEmpG
set_option maxHeartbeats 4000000 in
theorem ebEmp0 (w : World) (R : Nat → Int) (hR : ∀ j, 0 ≤ R j ∧ R j ≤ 255) (A0 : Addr) (cp0 : Nat) (hs : A0.spot = none ∨ cp0 = 0) (t0 t1 t2 t3 t4 t5 f0 f1 f2 f3 f4 f5 kd : Int) (ht0 : 0 ≤ t0 ∧ t0 ≤ 255) (ht1 : 0 ≤ t1 ∧ t1 ≤ 255) (ht2 : 0 ≤ t2 ∧ t2 ≤ 255) (ht3 : 0 ≤ t3 ∧ t3 ≤ 255) (ht4 : 0 ≤ t4 ∧ t4 ≤ 255) (ht5 : 0 ≤ t5 ∧ t5 ≤ 255) (hf0 : 0 ≤ f0 ∧ f0 ≤ 255) (hf1 : 0 ≤ f1 ∧ f1 ≤ 255) (hf2 : 0 ≤ f2 ∧ f2 ≤ 255) (hf3 : 0 ≤ f3 ∧ f3 ≤ 255) (hf4 : 0 ≤ f4 ∧ f4 ≤ 255) (hf5 : 0 ≤ f5 ∧ f5 ≤ 255) (hkd : (-9223372036854775808) ≤ kd ∧ kd ≤ 9223372036854775807) (hgk : 1536 ≤ kd ∧ kd ≤ 65535) (k0 : (((kd / 256) * 256) + (kd % 256)) = kd) : Calls Try.prog 5 #[.agg #[.int .u8 t0, .int .u8 t1, .int .u8 t2, .int .u8 t3, .int .u8 t4, .int .u8 t5, .int .u8 f0, .int .u8 f1, .int .u8 f2, .int .u8 f3, .int .u8 f4, .int .u8 f5, .int .i64 kd, .slice (some A0) 0 cp0]] w (fun e w' => e = .returned (.bool true) ∧ Only [] w w') := by
  letI : Env := (ebEmpV R hR t0 t1 t2 t3 t4 t5 f0 f1 f2 f3 f4 f5 kd)
  have hb : ebEmpB R t0 t1 t2 t3 t4 t5 f0 f1 f2 f3 f4 f5 kd := ⟨hgk, ht0, ht1, ht2, ht3, ht4, ht5, hf0, hf1, hf2, hf3, hf4, hf5, hkd⟩
  have hk : ebEmp0K R t0 t1 t2 t3 t4 t5 f0 f1 f2 f3 f4 f5 kd := ⟨hb, k0, trivial⟩
  have hents : ∀ e ∈ (ebEmp0L : List Ent), EntOK Try.prog e := (ac (ebEmp0e0_ok R hR t0 t1 t2 t3 t4 t5 f0 f1 f2 f3 f4 f5 kd hk) (ac (ebEmp0e1_ok R hR t0 t1 t2 t3 t4 t5 f0 f1 f2 f3 f4 f5 kd hk) (ac (ebEmp0e10_ok R hR t0 t1 t2 t3 t4 t5 f0 f1 f2 f3 f4 f5 kd hk) (ac (ebEmps10_ok R hR t0 t1 t2 t3 t4 t5 f0 f1 f2 f3 f4 f5 kd hb k0) (ebEmpG_ok R hR t0 t1 t2 t3 t4 t5 f0 f1 f2 f3 f4 f5 kd hb)))))
  have hsp : SpOK Try.prog (spKnown 15) := (spKnown_ok knownBody known)
  refine lawR (tab := tabG Try.prog ebEmp0L) (sp := (spKnown 15)) hsp (tabG_ok hents) (f := 300) (args := [.agg #[.chan (some 0), .chan (some 1), .chan (some 2), .chan (some 3), .chan (some 4), .chan (some 5), .chan (some 6), .chan (some 7), .chan (some 8), .chan (some 9), .chan (some 10), .chan (some 11), .chan (some 12), .slice (some ⟨0, 0, some 0⟩) 0 0]]) (args' := [.agg #[.int .u8 t0, .int .u8 t1, .int .u8 t2, .int .u8 t3, .int .u8 t4, .int .u8 t5, .int .u8 f0, .int .u8 f1, .int .u8 f2, .int .u8 f3, .int .u8 f4, .int .u8 f5, .int .i64 kd, .slice (some A0) 0 cp0]]) (c0 := 1) (h0 := .lf) (β0 := mp1 ⟨A0.block, A0.off, 0, 0, 1⟩) (w := w) (by kernel_rfl) (⟨fun i o hi => (by rw [Tr.get_lf] at hi; cases hi), fun i j o o' I J hi => (by rw [Tr.get_lf] at hi; cases hi)⟩) (fun i hi => ?_) ?_
  · match i, hi with
    | i + 1, _ => rfl
  · exact (PW.cons (PW.agg (PW.cons (.opq 0 rfl (fun b h => by cases h)) (PW.cons (.opq 1 rfl (fun b h => by cases h)) (PW.cons (.opq 2 rfl (fun b h => by cases h)) (PW.cons (.opq 3 rfl (fun b h => by cases h)) (PW.cons (.opq 4 rfl (fun b h => by cases h)) (PW.cons (.opq 5 rfl (fun b h => by cases h)) (PW.cons (.opq 6 rfl (fun b h => by cases h)) (PW.cons (.opq 7 rfl (fun b h => by cases h)) (PW.cons (.opq 8 rfl (fun b h => by cases h)) (PW.cons (.opq 9 rfl (fun b h => by cases h)) (PW.cons (.opq 10 rfl (fun b h => by cases h)) (PW.cons (.opq 11 rfl (fun b h => by cases h)) (PW.cons (.opq 12 rfl (fun b h => by cases h)) (PW.cons (rowNone_vr rfl hs) (PW.nil _)))))))))))))))) (PW.nil _))
theorem EtherBackEmp (w : World) (R : Nat → Int) (hR : ∀ j, 0 ≤ R j ∧ R j ≤ 255) (A0 : Addr) (cp0 : Nat) (hs : A0.spot = none ∨ cp0 = 0) (t0 t1 t2 t3 t4 t5 f0 f1 f2 f3 f4 f5 kd : Int) (ht0 : 0 ≤ t0 ∧ t0 ≤ 255) (ht1 : 0 ≤ t1 ∧ t1 ≤ 255) (ht2 : 0 ≤ t2 ∧ t2 ≤ 255) (ht3 : 0 ≤ t3 ∧ t3 ≤ 255) (ht4 : 0 ≤ t4 ∧ t4 ≤ 255) (ht5 : 0 ≤ t5 ∧ t5 ≤ 255) (hf0 : 0 ≤ f0 ∧ f0 ≤ 255) (hf1 : 0 ≤ f1 ∧ f1 ≤ 255) (hf2 : 0 ≤ f2 ∧ f2 ≤ 255) (hf3 : 0 ≤ f3 ∧ f3 ≤ 255) (hf4 : 0 ≤ f4 ∧ f4 ≤ 255) (hf5 : 0 ≤ f5 ∧ f5 ≤ 255) (hkd : (-9223372036854775808) ≤ kd ∧ kd ≤ 9223372036854775807) (hgk : 1536 ≤ kd ∧ kd ≤ 65535) : Calls Try.prog 5 #[.agg #[.int .u8 t0, .int .u8 t1, .int .u8 t2, .int .u8 t3, .int .u8 t4, .int .u8 t5, .int .u8 f0, .int .u8 f1, .int .u8 f2, .int .u8 f3, .int .u8 f4, .int .u8 f5, .int .i64 kd, .slice (some A0) 0 cp0]] w (fun e w' => e = .returned (.bool true) ∧ Only [] w w') := by
  by_cases h1 : (((kd / 256) * 256) + (kd % 256)) = kd
  ·
    exact ebEmp0 w R hR A0 cp0 hs t0 t1 t2 t3 t4 t5 f0 f1 f2 f3 f4 f5 kd ht0 ht1 ht2 ht3 ht4 ht5 hf0 hf1 hf2 hf3 hf4 hf5 hkd hgk h1
  ·
    exfalso; omega
abbrev ebEmpBadV (R : Nat → Int) (hR : ∀ j, 0 ≤ R j ∧ R j ≤ 255) (t0 t1 t2 t3 t4 t5 f0 f1 f2 f3 f4 f5 kd : Int) : Env := envR [.int .u8 t0, .int .u8 t1, .int .u8 t2, .int .u8 t3, .int .u8 t4, .int .u8 t5, .int .u8 f0, .int .u8 f1, .int .u8 f2, .int .u8 f3, .int .u8 f4, .int .u8 f5, .int .i64 kd] R hR
abbrev ebEmpBadB (R : Nat → Int) (t0 t1 t2 t3 t4 t5 f0 f1 f2 f3 f4 f5 kd : Int) : Prop := (kd < 1536 ∨ 65535 < kd) ∧ (0 ≤ t0 ∧ t0 ≤ 255) ∧ (0 ≤ t1 ∧ t1 ≤ 255) ∧ (0 ≤ t2 ∧ t2 ≤ 255) ∧ (0 ≤ t3 ∧ t3 ≤ 255) ∧ (0 ≤ t4 ∧ t4 ≤ 255) ∧ (0 ≤ t5 ∧ t5 ≤ 255) ∧ (0 ≤ f0 ∧ f0 ≤ 255) ∧ (0 ≤ f1 ∧ f1 ≤ 255) ∧ (0 ≤ f2 ∧ f2 ≤ 255) ∧ (0 ≤ f3 ∧ f3 ≤ 255) ∧ (0 ≤ f4 ∧ f4 ≤ 255) ∧ (0 ≤ f5 ∧ f5 ≤ 255) ∧ ((-9223372036854775808) ≤ kd ∧ kd ≤ 9223372036854775807)
def ebEmpBads0 : Ent := .bin .lss (.chan (some 12)) (.int .i64 1536) (.bool true)
theorem ebEmpBads0_ok (R : Nat → Int) (hR : ∀ j, 0 ≤ R j ∧ R j ≤ 255) (t0 t1 t2 t3 t4 t5 f0 f1 f2 f3 f4 f5 kd : Int) (hb : ebEmpBadB R t0 t1 t2 t3 t4 t5 f0 f1 f2 f3 f4 f5 kd) (hc : kd < 1536) : @EntOK (ebEmpBadV R hR t0 t1 t2 t3 t4 t5 f0 f1 f2 f3 f4 f5 kd) Try.prog ebEmpBads0 := by
  letI : Env := ebEmpBadV R hR t0 t1 t2 t3 t4 t5 f0 f1 f2 f3 f4 f5 kd
  exact entCmp (k := .i64) (a := kd) (b := 1536) rfl rfl (by show some (decide ((kd : Int) < 1536)) = some true; rw [decide_eq_true (by first | omega | (simp only [sumVal, oct.sumF, oct.F, oct.ws]; omega))])
def ebEmpBads1 : Ent := .bin .lss (.chan (some 12)) (.int .i64 1536) (.bool false)
theorem ebEmpBads1_ok (R : Nat → Int) (hR : ∀ j, 0 ≤ R j ∧ R j ≤ 255) (t0 t1 t2 t3 t4 t5 f0 f1 f2 f3 f4 f5 kd : Int) (hb : ebEmpBadB R t0 t1 t2 t3 t4 t5 f0 f1 f2 f3 f4 f5 kd) (hc : ¬ (kd < 1536)) : @EntOK (ebEmpBadV R hR t0 t1 t2 t3 t4 t5 f0 f1 f2 f3 f4 f5 kd) Try.prog ebEmpBads1 := by
  letI : Env := ebEmpBadV R hR t0 t1 t2 t3 t4 t5 f0 f1 f2 f3 f4 f5 kd
  exact entCmp (k := .i64) (a := kd) (b := 1536) rfl rfl (by show some (decide ((kd : Int) < 1536)) = some false; rw [decide_eq_false (by first | omega | (simp only [sumVal, oct.sumF, oct.F, oct.ws]; omega))])
def ebEmpBads2 : Ent := .bin .gtr (.chan (some 12)) (.int .i64 65535) (.bool true)
theorem ebEmpBads2_ok (R : Nat → Int) (hR : ∀ j, 0 ≤ R j ∧ R j ≤ 255) (t0 t1 t2 t3 t4 t5 f0 f1 f2 f3 f4 f5 kd : Int) (hb : ebEmpBadB R t0 t1 t2 t3 t4 t5 f0 f1 f2 f3 f4 f5 kd) (hc : kd > 65535) : @EntOK (ebEmpBadV R hR t0 t1 t2 t3 t4 t5 f0 f1 f2 f3 f4 f5 kd) Try.prog ebEmpBads2 := by
  letI : Env := ebEmpBadV R hR t0 t1 t2 t3 t4 t5 f0 f1 f2 f3 f4 f5 kd
  exact entCmp (k := .i64) (a := kd) (b := 65535) rfl rfl (by show some (decide ((kd : Int) > 65535)) = some true; rw [decide_eq_true (by first | omega | (simp only [sumVal, oct.sumF, oct.F, oct.ws]; omega))])
abbrev ebEmpBadG : List Ent := []
theorem ebEmpBadG_ok (R : Nat → Int) (hR : ∀ j, 0 ≤ R j ∧ R j ≤ 255) (t0 t1 t2 t3 t4 t5 f0 f1 f2 f3 f4 f5 kd : Int) (hb : ebEmpBadB R t0 t1 t2 t3 t4 t5 f0 f1 f2 f3 f4 f5 kd) : ∀ e ∈ ebEmpBadG, @EntOK (ebEmpBadV R hR t0 t1 t2 t3 t4 t5 f0 f1 f2 f3 f4 f5 kd) Try.prog e := by
  letI : Env := ebEmpBadV R hR t0 t1 t2 t3 t4 t5 f0 f1 f2 f3 f4 f5 kd
  exact allENil
abbrev ebEmpBad0L : List Ent := ebEmpBads0 :: ebEmpBadG
set_option maxHeartbeats 4000000 in
theorem ebEmpBad0 (w : World) (R : Nat → Int) (hR : ∀ j, 0 ≤ R j ∧ R j ≤ 255) (A0 : Addr) (cp0 : Nat) (hs : A0.spot = none ∨ cp0 = 0) (t0 t1 t2 t3 t4 t5 f0 f1 f2 f3 f4 f5 kd : Int) (ht0 : 0 ≤ t0 ∧ t0 ≤ 255) (ht1 : 0 ≤ t1 ∧ t1 ≤ 255) (ht2 : 0 ≤ t2 ∧ t2 ≤ 255) (ht3 : 0 ≤ t3 ∧ t3 ≤ 255) (ht4 : 0 ≤ t4 ∧ t4 ≤ 255) (ht5 : 0 ≤ t5 ∧ t5 ≤ 255) (hf0 : 0 ≤ f0 ∧ f0 ≤ 255) (hf1 : 0 ≤ f1 ∧ f1 ≤ 255) (hf2 : 0 ≤ f2 ∧ f2 ≤ 255) (hf3 : 0 ≤ f3 ∧ f3 ≤ 255) (hf4 : 0 ≤ f4 ∧ f4 ≤ 255) (hf5 : 0 ≤ f5 ∧ f5 ≤ 255) (hkd : (-9223372036854775808) ≤ kd ∧ kd ≤ 9223372036854775807) (hgk : kd < 1536 ∨ 65535 < kd) (k0 : kd < 1536) : Calls Try.prog 5 #[.agg #[.int .u8 t0, .int .u8 t1, .int .u8 t2, .int .u8 t3, .int .u8 t4, .int .u8 t5, .int .u8 f0, .int .u8 f1, .int .u8 f2, .int .u8 f3, .int .u8 f4, .int .u8 f5, .int .i64 kd, .slice (some A0) 0 cp0]] w (fun e w' => e = .returned (.bool true) ∧ Only [] w w') := by
  letI : Env := (ebEmpBadV R hR t0 t1 t2 t3 t4 t5 f0 f1 f2 f3 f4 f5 kd)
  have hb : ebEmpBadB R t0 t1 t2 t3 t4 t5 f0 f1 f2 f3 f4 f5 kd := ⟨hgk, ht0, ht1, ht2, ht3, ht4, ht5, hf0, hf1, hf2, hf3, hf4, hf5, hkd⟩
  have hents : ∀ e ∈ (ebEmpBad0L : List Ent), EntOK Try.prog e := (ac (ebEmpBads0_ok R hR t0 t1 t2 t3 t4 t5 f0 f1 f2 f3 f4 f5 kd hb k0) (ebEmpBadG_ok R hR t0 t1 t2 t3 t4 t5 f0 f1 f2 f3 f4 f5 kd hb))
  have hsp : SpOK Try.prog (spKnown 15) := (spKnown_ok knownBody known)
  refine lawR (tab := tabG Try.prog ebEmpBad0L) (sp := (spKnown 15)) hsp (tabG_ok hents) (f := 300) (args := [.agg #[.chan (some 0), .chan (some 1), .chan (some 2), .chan (some 3), .chan (some 4), .chan (some 5), .chan (some 6), .chan (some 7), .chan (some 8), .chan (some 9), .chan (some 10), .chan (some 11), .chan (some 12), .slice (some ⟨0, 0, some 0⟩) 0 0]]) (args' := [.agg #[.int .u8 t0, .int .u8 t1, .int .u8 t2, .int .u8 t3, .int .u8 t4, .int .u8 t5, .int .u8 f0, .int .u8 f1, .int .u8 f2, .int .u8 f3, .int .u8 f4, .int .u8 f5, .int .i64 kd, .slice (some A0) 0 cp0]]) (c0 := 1) (h0 := .lf) (β0 := mp1 ⟨A0.block, A0.off, 0, 0, 1⟩) (w := w) (by kernel_rfl) (⟨fun i o hi => (by rw [Tr.get_lf] at hi; cases hi), fun i j o o' I J hi => (by rw [Tr.get_lf] at hi; cases hi)⟩) (fun i hi => ?_) ?_
  · match i, hi with
    | i + 1, _ => rfl
  · exact (PW.cons (PW.agg (PW.cons (.opq 0 rfl (fun b h => by cases h)) (PW.cons (.opq 1 rfl (fun b h => by cases h)) (PW.cons (.opq 2 rfl (fun b h => by cases h)) (PW.cons (.opq 3 rfl (fun b h => by cases h)) (PW.cons (.opq 4 rfl (fun b h => by cases h)) (PW.cons (.opq 5 rfl (fun b h => by cases h)) (PW.cons (.opq 6 rfl (fun b h => by cases h)) (PW.cons (.opq 7 rfl (fun b h => by cases h)) (PW.cons (.opq 8 rfl (fun b h => by cases h)) (PW.cons (.opq 9 rfl (fun b h => by cases h)) (PW.cons (.opq 10 rfl (fun b h => by cases h)) (PW.cons (.opq 11 rfl (fun b h => by cases h)) (PW.cons (.opq 12 rfl (fun b h => by cases h)) (PW.cons (rowNone_vr rfl hs) (PW.nil _)))))))))))))))) (PW.nil _))
abbrev ebEmpBad1L : List Ent := ebEmpBads1 :: ebEmpBads2 :: ebEmpBadG
set_option maxHeartbeats 4000000 in
theorem ebEmpBad1 (w : World) (R : Nat → Int) (hR : ∀ j, 0 ≤ R j ∧ R j ≤ 255) (A0 : Addr) (cp0 : Nat) (hs : A0.spot = none ∨ cp0 = 0) (t0 t1 t2 t3 t4 t5 f0 f1 f2 f3 f4 f5 kd : Int) (ht0 : 0 ≤ t0 ∧ t0 ≤ 255) (ht1 : 0 ≤ t1 ∧ t1 ≤ 255) (ht2 : 0 ≤ t2 ∧ t2 ≤ 255) (ht3 : 0 ≤ t3 ∧ t3 ≤ 255) (ht4 : 0 ≤ t4 ∧ t4 ≤ 255) (ht5 : 0 ≤ t5 ∧ t5 ≤ 255) (hf0 : 0 ≤ f0 ∧ f0 ≤ 255) (hf1 : 0 ≤ f1 ∧ f1 ≤ 255) (hf2 : 0 ≤ f2 ∧ f2 ≤ 255) (hf3 : 0 ≤ f3 ∧ f3 ≤ 255) (hf4 : 0 ≤ f4 ∧ f4 ≤ 255) (hf5 : 0 ≤ f5 ∧ f5 ≤ 255) (hkd : (-9223372036854775808) ≤ kd ∧ kd ≤ 9223372036854775807) (hgk : kd < 1536 ∨ 65535 < kd) (k0 : ¬ (kd < 1536)) (k1 : kd > 65535) : Calls Try.prog 5 #[.agg #[.int .u8 t0, .int .u8 t1, .int .u8 t2, .int .u8 t3, .int .u8 t4, .int .u8 t5, .int .u8 f0, .int .u8 f1, .int .u8 f2, .int .u8 f3, .int .u8 f4, .int .u8 f5, .int .i64 kd, .slice (some A0) 0 cp0]] w (fun e w' => e = .returned (.bool true) ∧ Only [] w w') := by
  letI : Env := (ebEmpBadV R hR t0 t1 t2 t3 t4 t5 f0 f1 f2 f3 f4 f5 kd)
  have hb : ebEmpBadB R t0 t1 t2 t3 t4 t5 f0 f1 f2 f3 f4 f5 kd := ⟨hgk, ht0, ht1, ht2, ht3, ht4, ht5, hf0, hf1, hf2, hf3, hf4, hf5, hkd⟩
  have hents : ∀ e ∈ (ebEmpBad1L : List Ent), EntOK Try.prog e := (ac (ebEmpBads1_ok R hR t0 t1 t2 t3 t4 t5 f0 f1 f2 f3 f4 f5 kd hb k0) (ac (ebEmpBads2_ok R hR t0 t1 t2 t3 t4 t5 f0 f1 f2 f3 f4 f5 kd hb k1) (ebEmpBadG_ok R hR t0 t1 t2 t3 t4 t5 f0 f1 f2 f3 f4 f5 kd hb)))
  have hsp : SpOK Try.prog (spKnown 15) := (spKnown_ok knownBody known)
  refine lawR (tab := tabG Try.prog ebEmpBad1L) (sp := (spKnown 15)) hsp (tabG_ok hents) (f := 300) (args := [.agg #[.chan (some 0), .chan (some 1), .chan (some 2), .chan (some 3), .chan (some 4), .chan (some 5), .chan (some 6), .chan (some 7), .chan (some 8), .chan (some 9), .chan (some 10), .chan (some 11), .chan (some 12), .slice (some ⟨0, 0, some 0⟩) 0 0]]) (args' := [.agg #[.int .u8 t0, .int .u8 t1, .int .u8 t2, .int .u8 t3, .int .u8 t4, .int .u8 t5, .int .u8 f0, .int .u8 f1, .int .u8 f2, .int .u8 f3, .int .u8 f4, .int .u8 f5, .int .i64 kd, .slice (some A0) 0 cp0]]) (c0 := 1) (h0 := .lf) (β0 := mp1 ⟨A0.block, A0.off, 0, 0, 1⟩) (w := w) (by kernel_rfl) (⟨fun i o hi => (by rw [Tr.get_lf] at hi; cases hi), fun i j o o' I J hi => (by rw [Tr.get_lf] at hi; cases hi)⟩) (fun i hi => ?_) ?_
  · match i, hi with
    | i + 1, _ => rfl
  · exact (PW.cons (PW.agg (PW.cons (.opq 0 rfl (fun b h => by cases h)) (PW.cons (.opq 1 rfl (fun b h => by cases h)) (PW.cons (.opq 2 rfl (fun b h => by cases h)) (PW.cons (.opq 3 rfl (fun b h => by cases h)) (PW.cons (.opq 4 rfl (fun b h => by cases h)) (PW.cons (.opq 5 rfl (fun b h => by cases h)) (PW.cons (.opq 6 rfl (fun b h => by cases h)) (PW.cons (.opq 7 rfl (fun b h => by cases h)) (PW.cons (.opq 8 rfl (fun b h => by cases h)) (PW.cons (.opq 9 rfl (fun b h => by cases h)) (PW.cons (.opq 10 rfl (fun b h => by cases h)) (PW.cons (.opq 11 rfl (fun b h => by cases h)) (PW.cons (.opq 12 rfl (fun b h => by cases h)) (PW.cons (rowNone_vr rfl hs) (PW.nil _)))))))))))))))) (PW.nil _))
theorem EtherBackEmpBad (w : World) (R : Nat → Int) (hR : ∀ j, 0 ≤ R j ∧ R j ≤ 255) (A0 : Addr) (cp0 : Nat) (hs : A0.spot = none ∨ cp0 = 0) (t0 t1 t2 t3 t4 t5 f0 f1 f2 f3 f4 f5 kd : Int) (ht0 : 0 ≤ t0 ∧ t0 ≤ 255) (ht1 : 0 ≤ t1 ∧ t1 ≤ 255) (ht2 : 0 ≤ t2 ∧ t2 ≤ 255) (ht3 : 0 ≤ t3 ∧ t3 ≤ 255) (ht4 : 0 ≤ t4 ∧ t4 ≤ 255) (ht5 : 0 ≤ t5 ∧ t5 ≤ 255) (hf0 : 0 ≤ f0 ∧ f0 ≤ 255) (hf1 : 0 ≤ f1 ∧ f1 ≤ 255) (hf2 : 0 ≤ f2 ∧ f2 ≤ 255) (hf3 : 0 ≤ f3 ∧ f3 ≤ 255) (hf4 : 0 ≤ f4 ∧ f4 ≤ 255) (hf5 : 0 ≤ f5 ∧ f5 ≤ 255) (hkd : (-9223372036854775808) ≤ kd ∧ kd ≤ 9223372036854775807) (hgk : kd < 1536 ∨ 65535 < kd) : Calls Try.prog 5 #[.agg #[.int .u8 t0, .int .u8 t1, .int .u8 t2, .int .u8 t3, .int .u8 t4, .int .u8 t5, .int .u8 f0, .int .u8 f1, .int .u8 f2, .int .u8 f3, .int .u8 f4, .int .u8 f5, .int .i64 kd, .slice (some A0) 0 cp0]] w (fun e w' => e = .returned (.bool true) ∧ Only [] w w') := by
  by_cases h1 : kd < 1536
  ·
    exact ebEmpBad0 w R hR A0 cp0 hs t0 t1 t2 t3 t4 t5 f0 f1 f2 f3 f4 f5 kd ht0 ht1 ht2 ht3 ht4 ht5 hf0 hf1 hf2 hf3 hf4 hf5 hkd hgk h1
  ·
    by_cases h2 : kd > 65535
    ·
      exact ebEmpBad1 w R hR A0 cp0 hs t0 t1 t2 t3 t4 t5 f0 f1 f2 f3 f4 f5 kd ht0 ht1 ht2 ht3 ht4 ht5 hf0 hf1 hf2 hf3 hf4 hf5 hkd hgk h1 h2
    ·
      exfalso; omega
abbrev ebBigV (R : Nat → Int) (hR : ∀ j, 0 ≤ R j ∧ R j ≤ 255) (A0 : Option Addr) (n0 cp0 : Nat) (t0 t1 t2 t3 t4 t5 f0 f1 f2 f3 f4 f5 kd : Int) : Env := envR [.slice A0 n0 cp0, .int .u8 t0, .int .u8 t1, .int .u8 t2, .int .u8 t3, .int .u8 t4, .int .u8 t5, .int .u8 f0, .int .u8 f1, .int .u8 f2, .int .u8 f3, .int .u8 f4, .int .u8 f5, .int .i64 kd, .int .i64 (n0 : Int)] R hR
abbrev ebBigB (R : Nat → Int) (A0 : Option Addr) (n0 cp0 : Nat) (t0 t1 t2 t3 t4 t5 f0 f1 f2 f3 f4 f5 kd : Int) : Prop := 2000 < n0 ∧ (0 ≤ t0 ∧ t0 ≤ 255) ∧ (0 ≤ t1 ∧ t1 ≤ 255) ∧ (0 ≤ t2 ∧ t2 ≤ 255) ∧ (0 ≤ t3 ∧ t3 ≤ 255) ∧ (0 ≤ t4 ∧ t4 ≤ 255) ∧ (0 ≤ t5 ∧ t5 ≤ 255) ∧ (0 ≤ f0 ∧ f0 ≤ 255) ∧ (0 ≤ f1 ∧ f1 ≤ 255) ∧ (0 ≤ f2 ∧ f2 ≤ 255) ∧ (0 ≤ f3 ∧ f3 ≤ 255) ∧ (0 ≤ f4 ∧ f4 ≤ 255) ∧ (0 ≤ f5 ∧ f5 ≤ 255) ∧ ((-9223372036854775808) ≤ kd ∧ kd ≤ 9223372036854775807)
def ebBigs0 : Ent := .bin .gtr (.chan (some 14)) (.int .i64 2000) (.bool true)
theorem ebBigs0_ok (R : Nat → Int) (hR : ∀ j, 0 ≤ R j ∧ R j ≤ 255) (A0 : Option Addr) (n0 cp0 : Nat) (t0 t1 t2 t3 t4 t5 f0 f1 f2 f3 f4 f5 kd : Int) (hb : ebBigB R A0 n0 cp0 t0 t1 t2 t3 t4 t5 f0 f1 f2 f3 f4 f5 kd) (hc : (n0 : Int) > 2000) : @EntOK (ebBigV R hR A0 n0 cp0 t0 t1 t2 t3 t4 t5 f0 f1 f2 f3 f4 f5 kd) Try.prog ebBigs0 := by
  letI : Env := ebBigV R hR A0 n0 cp0 t0 t1 t2 t3 t4 t5 f0 f1 f2 f3 f4 f5 kd
  exact entCmp (k := .i64) (a := (n0 : Int)) (b := 2000) rfl rfl (by show some (decide (((n0 : Int) : Int) > 2000)) = some true; rw [decide_eq_true (by first | omega | (simp only [sumVal, oct.sumF, oct.F, oct.ws]; omega))])
abbrev ebBigG : List Ent := []
theorem ebBigG_ok (R : Nat → Int) (hR : ∀ j, 0 ≤ R j ∧ R j ≤ 255) (A0 : Option Addr) (n0 cp0 : Nat) (t0 t1 t2 t3 t4 t5 f0 f1 f2 f3 f4 f5 kd : Int) (hb : ebBigB R A0 n0 cp0 t0 t1 t2 t3 t4 t5 f0 f1 f2 f3 f4 f5 kd) : ∀ e ∈ ebBigG, @EntOK (ebBigV R hR A0 n0 cp0 t0 t1 t2 t3 t4 t5 f0 f1 f2 f3 f4 f5 kd) Try.prog e := by
  letI : Env := ebBigV R hR A0 n0 cp0 t0 t1 t2 t3 t4 t5 f0 f1 f2 f3 f4 f5 kd
  exact allENil
abbrev ebBig0K (R : Nat → Int) (A0 : Option Addr) (n0 cp0 : Nat) (t0 t1 t2 t3 t4 t5 f0 f1 f2 f3 f4 f5 kd : Int) : Prop := ebBigB R A0 n0 cp0 t0 t1 t2 t3 t4 t5 f0 f1 f2 f3 f4 f5 kd ∧ ((n0 : Int) > 2000) ∧ True
def ebBig0e0 : Ent := .len false (.chan (some 1000)) (.chan (some 14))
theorem ebBig0e0_ok (R : Nat → Int) (hR : ∀ j, 0 ≤ R j ∧ R j ≤ 255) (A0 : Option Addr) (n0 cp0 : Nat) (t0 t1 t2 t3 t4 t5 f0 f1 f2 f3 f4 f5 kd : Int) (hk : ebBig0K R A0 n0 cp0 t0 t1 t2 t3 t4 t5 f0 f1 f2 f3 f4 f5 kd) : @EntOK (ebBigV R hR A0 n0 cp0 t0 t1 t2 t3 t4 t5 f0 f1 f2 f3 f4 f5 kd) Try.prog ebBig0e0 := by
  letI : Env := (ebBigV R hR A0 n0 cp0 t0 t1 t2 t3 t4 t5 f0 f1 f2 f3 f4 f5 kd)
  obtain ⟨hb, k0, _⟩ := hk; exact entLen (i := 1000) (j := 14) rfl rfl
abbrev ebBig0L : List Ent := ebBig0e0 :: ebBigs0 :: ebBigG
set_option maxHeartbeats 4000000 in
theorem ebBig0 (w : World) (R : Nat → Int) (hR : ∀ j, 0 ≤ R j ∧ R j ≤ 255) (A0 : Option Addr) (n0 cp0 : Nat) (hn : 2000 < n0) (t0 t1 t2 t3 t4 t5 f0 f1 f2 f3 f4 f5 kd : Int) (ht0 : 0 ≤ t0 ∧ t0 ≤ 255) (ht1 : 0 ≤ t1 ∧ t1 ≤ 255) (ht2 : 0 ≤ t2 ∧ t2 ≤ 255) (ht3 : 0 ≤ t3 ∧ t3 ≤ 255) (ht4 : 0 ≤ t4 ∧ t4 ≤ 255) (ht5 : 0 ≤ t5 ∧ t5 ≤ 255) (hf0 : 0 ≤ f0 ∧ f0 ≤ 255) (hf1 : 0 ≤ f1 ∧ f1 ≤ 255) (hf2 : 0 ≤ f2 ∧ f2 ≤ 255) (hf3 : 0 ≤ f3 ∧ f3 ≤ 255) (hf4 : 0 ≤ f4 ∧ f4 ≤ 255) (hf5 : 0 ≤ f5 ∧ f5 ≤ 255) (hkd : (-9223372036854775808) ≤ kd ∧ kd ≤ 9223372036854775807) (k0 : (n0 : Int) > 2000) : Calls Try.prog 5 #[.agg #[.int .u8 t0, .int .u8 t1, .int .u8 t2, .int .u8 t3, .int .u8 t4, .int .u8 t5, .int .u8 f0, .int .u8 f1, .int .u8 f2, .int .u8 f3, .int .u8 f4, .int .u8 f5, .int .i64 kd, .slice A0 n0 cp0]] w (fun e w' => e = .returned (.bool true) ∧ Only [] w w') := by
  letI : Env := (ebBigV R hR A0 n0 cp0 t0 t1 t2 t3 t4 t5 f0 f1 f2 f3 f4 f5 kd)
  have hb : ebBigB R A0 n0 cp0 t0 t1 t2 t3 t4 t5 f0 f1 f2 f3 f4 f5 kd := ⟨hn, ht0, ht1, ht2, ht3, ht4, ht5, hf0, hf1, hf2, hf3, hf4, hf5, hkd⟩
  have hk : ebBig0K R A0 n0 cp0 t0 t1 t2 t3 t4 t5 f0 f1 f2 f3 f4 f5 kd := ⟨hb, k0, trivial⟩
  have hents : ∀ e ∈ (ebBig0L : List Ent), EntOK Try.prog e := (ac (ebBig0e0_ok R hR A0 n0 cp0 t0 t1 t2 t3 t4 t5 f0 f1 f2 f3 f4 f5 kd hk) (ac (ebBigs0_ok R hR A0 n0 cp0 t0 t1 t2 t3 t4 t5 f0 f1 f2 f3 f4 f5 kd hb k0) (ebBigG_ok R hR A0 n0 cp0 t0 t1 t2 t3 t4 t5 f0 f1 f2 f3 f4 f5 kd hb)))
  have hsp : SpOK Try.prog (spKnown 15) := (spKnown_ok knownBody known)
  refine lawR (tab := tabG Try.prog ebBig0L) (sp := (spKnown 15)) hsp (tabG_ok hents) (f := 300) (args := [.agg #[.chan (some 1), .chan (some 2), .chan (some 3), .chan (some 4), .chan (some 5), .chan (some 6), .chan (some 7), .chan (some 8), .chan (some 9), .chan (some 10), .chan (some 11), .chan (some 12), .chan (some 13), .chan (some 1000)]]) (args' := [.agg #[.int .u8 t0, .int .u8 t1, .int .u8 t2, .int .u8 t3, .int .u8 t4, .int .u8 t5, .int .u8 f0, .int .u8 f1, .int .u8 f2, .int .u8 f3, .int .u8 f4, .int .u8 f5, .int .i64 kd, .slice A0 n0 cp0]]) (c0 := 0) (h0 := .lf) (β0 := fun _ => none) (w := w) (by kernel_rfl) (Sim.nothing Try.prog w.heap.size w) (fun i hi => ?_) ?_
  · rfl
  · exact (PW.cons (PW.agg (PW.cons (.opq 1 rfl (fun b h => by cases h)) (PW.cons (.opq 2 rfl (fun b h => by cases h)) (PW.cons (.opq 3 rfl (fun b h => by cases h)) (PW.cons (.opq 4 rfl (fun b h => by cases h)) (PW.cons (.opq 5 rfl (fun b h => by cases h)) (PW.cons (.opq 6 rfl (fun b h => by cases h)) (PW.cons (.opq 7 rfl (fun b h => by cases h)) (PW.cons (.opq 8 rfl (fun b h => by cases h)) (PW.cons (.opq 9 rfl (fun b h => by cases h)) (PW.cons (.opq 10 rfl (fun b h => by cases h)) (PW.cons (.opq 11 rfl (fun b h => by cases h)) (PW.cons (.opq 12 rfl (fun b h => by cases h)) (PW.cons (.opq 13 rfl (fun b h => by cases h)) (PW.cons (.opq 1000 rfl (fun b h => by cases h)) (PW.nil _)))))))))))))))) (PW.nil _))
theorem EtherBackBig (w : World) (R : Nat → Int) (hR : ∀ j, 0 ≤ R j ∧ R j ≤ 255) (A0 : Option Addr) (n0 cp0 : Nat) (hn : 2000 < n0) (t0 t1 t2 t3 t4 t5 f0 f1 f2 f3 f4 f5 kd : Int) (ht0 : 0 ≤ t0 ∧ t0 ≤ 255) (ht1 : 0 ≤ t1 ∧ t1 ≤ 255) (ht2 : 0 ≤ t2 ∧ t2 ≤ 255) (ht3 : 0 ≤ t3 ∧ t3 ≤ 255) (ht4 : 0 ≤ t4 ∧ t4 ≤ 255) (ht5 : 0 ≤ t5 ∧ t5 ≤ 255) (hf0 : 0 ≤ f0 ∧ f0 ≤ 255) (hf1 : 0 ≤ f1 ∧ f1 ≤ 255) (hf2 : 0 ≤ f2 ∧ f2 ≤ 255) (hf3 : 0 ≤ f3 ∧ f3 ≤ 255) (hf4 : 0 ≤ f4 ∧ f4 ≤ 255) (hf5 : 0 ≤ f5 ∧ f5 ≤ 255) (hkd : (-9223372036854775808) ≤ kd ∧ kd ≤ 9223372036854775807) : Calls Try.prog 5 #[.agg #[.int .u8 t0, .int .u8 t1, .int .u8 t2, .int .u8 t3, .int .u8 t4, .int .u8 t5, .int .u8 f0, .int .u8 f1, .int .u8 f2, .int .u8 f3, .int .u8 f4, .int .u8 f5, .int .i64 kd, .slice A0 n0 cp0]] w (fun e w' => e = .returned (.bool true) ∧ Only [] w w') := by
  by_cases h1 : (n0 : Int) > 2000
  ·
    exact ebBig0 w R hR A0 n0 cp0 hn t0 t1 t2 t3 t4 t5 f0 f1 f2 f3 f4 f5 kd ht0 ht1 ht2 ht3 ht4 ht5 hf0 hf1 hf2 hf3 hf4 hf5 hkd h1
  ·
    exfalso; omega
theorem EtherBackAll (w : World) (a0 : Option Addr) (len0 cap0 : Nat) (z0 : List Int) (h0 : IsRow .u8 w a0 len0 cap0 z0) (t0 t1 t2 t3 t4 t5 f0 f1 f2 f3 f4 f5 kd : Int) (ht0 : 0 ≤ t0 ∧ t0 ≤ 255) (ht1 : 0 ≤ t1 ∧ t1 ≤ 255) (ht2 : 0 ≤ t2 ∧ t2 ≤ 255) (ht3 : 0 ≤ t3 ∧ t3 ≤ 255) (ht4 : 0 ≤ t4 ∧ t4 ≤ 255) (ht5 : 0 ≤ t5 ∧ t5 ≤ 255) (hf0 : 0 ≤ f0 ∧ f0 ≤ 255) (hf1 : 0 ≤ f1 ∧ f1 ≤ 255) (hf2 : 0 ≤ f2 ∧ f2 ≤ 255) (hf3 : 0 ≤ f3 ∧ f3 ≤ 255) (hf4 : 0 ≤ f4 ∧ f4 ≤ 255) (hf5 : 0 ≤ f5 ∧ f5 ≤ 255) (hkd : (-9223372036854775808) ≤ kd ∧ kd ≤ 9223372036854775807) : Calls Try.prog 5 #[.agg #[.int .u8 t0, .int .u8 t1, .int .u8 t2, .int .u8 t3, .int .u8 t4, .int .u8 t5, .int .u8 f0, .int .u8 f1, .int .u8 f2, .int .u8 f3, .int .u8 f4, .int .u8 f5, .int .i64 kd, .slice a0 len0 cap0]] w (fun e w' => e = .returned (.bool true) ∧ Only [] w w') := by
  by_cases hb : 2000 < len0
  · exact EtherBackBig w (fun _ => 0) (fun _ => ⟨by decide, by decide⟩) a0 len0 cap0 hb t0 t1 t2 t3 t4 t5 f0 f1 f2 f3 f4 f5 kd ht0 ht1 ht2 ht3 ht4 ht5 hf0 hf1 hf2 hf3 hf4 hf5 hkd
  have hkk : (kd < 1536 ∨ 65535 < kd) ∨ (1536 ≤ kd ∧ kd ≤ 65535) := by omega
  cases a0 with
  | none =>
    rcases h0 with ⟨_, rfl, rfl, _⟩ | ⟨x, hx, _⟩
    · rcases hkk with hk | hk
      · exact EtherBackNilBad w (fun _ => 0) (fun _ => ⟨by decide, by decide⟩) t0 t1 t2 t3 t4 t5 f0 f1 f2 f3 f4 f5 kd ht0 ht1 ht2 ht3 ht4 ht5 hf0 hf1 hf2 hf3 hf4 hf5 hkd hk
      · exact EtherBackNil w (fun _ => 0) (fun _ => ⟨by decide, by decide⟩) t0 t1 t2 t3 t4 t5 f0 f1 f2 f3 f4 f5 kd ht0 ht1 ht2 ht3 ht4 ht5 hf0 hf1 hf2 hf3 hf4 hf5 hkd hk
    · cases hx
  | some A =>
    by_cases hz : len0 = 0
    · subst hz
      rcases hkk with hk | hk
      · exact EtherBackEmpBad w (fun _ => 0) (fun _ => ⟨by decide, by decide⟩) A cap0 (isRow_spot h0) t0 t1 t2 t3 t4 t5 f0 f1 f2 f3 f4 f5 kd ht0 ht1 ht2 ht3 ht4 ht5 hf0 hf1 hf2 hf3 hf4 hf5 hkd hk
      · exact EtherBackEmp w (fun _ => 0) (fun _ => ⟨by decide, by decide⟩) A cap0 (isRow_spot h0) t0 t1 t2 t3 t4 t5 f0 f1 f2 f3 f4 f5 kd ht0 ht1 ht2 ht3 ht4 ht5 hf0 hf1 hf2 hf3 hf4 hf5 hkd hk
    · have hw := rowIn_of (R := rowR 1048576 z0) h0 (by omega) (fun j hj => by unfold rowR; rw [Nat.add_sub_cancel_left])
      rcases hkk with hk | hk
      · exact EtherBackBad w (rowR 1048576 z0) (rowR_bd (isRow_wf h0)) A len0 cap0 hw (by omega) (by omega) t0 t1 t2 t3 t4 t5 f0 f1 f2 f3 f4 f5 kd ht0 ht1 ht2 ht3 ht4 ht5 hf0 hf1 hf2 hf3 hf4 hf5 hkd hk
      by_cases hx : len0 < 46
      · exact EtherBackFix w (rowR 1048576 z0) (rowR_bd (isRow_wf h0)) A len0 cap0 hw (by omega) (by omega) hx t0 t1 t2 t3 t4 t5 f0 f1 f2 f3 f4 f5 kd ht0 ht1 ht2 ht3 ht4 ht5 hf0 hf1 hf2 hf3 hf4 hf5 hkd hk
      · exact EtherBackRow w (rowR 1048576 z0) (rowR_bd (isRow_wf h0)) A len0 cap0 hw (by omega) (by omega) (by omega) t0 t1 t2 t3 t4 t5 f0 f1 f2 f3 f4 f5 kd ht0 ht1 ht2 ht3 ht4 ht5 hf0 hf1 hf2 hf3 hf4 hf5 hkd hk
end Go.Proofs.Ytiihhngddmboaaa.ev
