/-
  EtherEncodes, by a run of each path over rows of bytes that are not looked into. Conditions: none.
-/
import Derived.Test.YtiihhngddmboaaaEvRl
import Derived.Test.YtiihhngddmboaaaEvP4
import Derived.Test.YtiihhngddmboaaaHlp4
import Derived.Test.YtiihhngddmboaaaSpo4
import Derived.Test.YtiihhngddmboaaaEvV
import Derived.Test.YtiihhngddmboaaaEvBd
import Derived.Test.YtiihhngddmboaaaOrm
import Derived.Test.YtiihhngddmboaaaEvV
import Derived.Test.YtiihhngddmboaaaEvR4ea
import Derived.Test.YtiihhngddmboaaaEvR4eb
import Derived.Test.YtiihhngddmboaaaEvR4ec
import Derived.Test.YtiihhngddmboaaaEvR4ed
import Derived.Test.YtiihhngddmboaaaEvR4ee
import Derived.KernelRfl
import Derived.DeepKeys
namespace Go.Proofs.Ytiihhngddmboaaa.ev
set_option maxRecDepth 1000000
set_option linter.unusedVariables false
set_option linter.unusedSimpArgs false
open Go.ChangeShapes Go.WideShapes Go.ChangeAt Go.RowKit Go.IntWalk Go.Lib
theorem EtherEncodesFix (w : World) (R : Nat → Int) (hR : ∀ j, 0 ≤ R j ∧ R j ≤ 255) (A0 : Addr) (n0 cp0 : Nat) (w0 : RowIn R 1048576 w A0 n0 cp0) (hn : n0 ≤ 70000) (hm : 1 ≤ n0) (hx : n0 < 46) (t0 t1 t2 t3 t4 t5 f0 f1 f2 f3 f4 f5 kd : Int) (ht0 : 0 ≤ t0 ∧ t0 ≤ 255) (ht1 : 0 ≤ t1 ∧ t1 ≤ 255) (ht2 : 0 ≤ t2 ∧ t2 ≤ 255) (ht3 : 0 ≤ t3 ∧ t3 ≤ 255) (ht4 : 0 ≤ t4 ∧ t4 ≤ 255) (ht5 : 0 ≤ t5 ∧ t5 ≤ 255) (hf0 : 0 ≤ f0 ∧ f0 ≤ 255) (hf1 : 0 ≤ f1 ∧ f1 ≤ 255) (hf2 : 0 ≤ f2 ∧ f2 ≤ 255) (hf3 : 0 ≤ f3 ∧ f3 ≤ 255) (hf4 : 0 ≤ f4 ∧ f4 ≤ 255) (hf5 : 0 ≤ f5 ∧ f5 ≤ 255) (hkd : (-9223372036854775808) ≤ kd ∧ kd ≤ 9223372036854775807) (hgk : 1536 ≤ kd ∧ kd ≤ 65535) : Calls Try.prog 3 #[.agg #[.int .u8 t0, .int .u8 t1, .int .u8 t2, .int .u8 t3, .int .u8 t4, .int .u8 t5, .int .u8 f0, .int .u8 f1, .int .u8 f2, .int .u8 f3, .int .u8 f4, .int .u8 f5, .int .i64 kd, .slice (some A0) n0 cp0]] w (fun e w' => e = .returned (.bool true) ∧ Only [] w w') := by
  by_cases h1 : n0 = 1
  ·
    exact eeFix0 w R hR A0 n0 cp0 w0 hn hm hx t0 t1 t2 t3 t4 t5 f0 f1 f2 f3 f4 f5 kd ht0 ht1 ht2 ht3 ht4 ht5 hf0 hf1 hf2 hf3 hf4 hf5 hkd hgk h1
  ·
    by_cases h2 : n0 = 2
    ·
      exact eeFix1 w R hR A0 n0 cp0 w0 hn hm hx t0 t1 t2 t3 t4 t5 f0 f1 f2 f3 f4 f5 kd ht0 ht1 ht2 ht3 ht4 ht5 hf0 hf1 hf2 hf3 hf4 hf5 hkd hgk h1 h2
    ·
      by_cases h3 : n0 = 3
      ·
        exact eeFix2 w R hR A0 n0 cp0 w0 hn hm hx t0 t1 t2 t3 t4 t5 f0 f1 f2 f3 f4 f5 kd ht0 ht1 ht2 ht3 ht4 ht5 hf0 hf1 hf2 hf3 hf4 hf5 hkd hgk h1 h2 h3
      ·
        by_cases h4 : n0 = 4
        ·
          exact eeFix3 w R hR A0 n0 cp0 w0 hn hm hx t0 t1 t2 t3 t4 t5 f0 f1 f2 f3 f4 f5 kd ht0 ht1 ht2 ht3 ht4 ht5 hf0 hf1 hf2 hf3 hf4 hf5 hkd hgk h1 h2 h3 h4
        ·
          by_cases h5 : n0 = 5
          ·
            exact eeFix4 w R hR A0 n0 cp0 w0 hn hm hx t0 t1 t2 t3 t4 t5 f0 f1 f2 f3 f4 f5 kd ht0 ht1 ht2 ht3 ht4 ht5 hf0 hf1 hf2 hf3 hf4 hf5 hkd hgk h1 h2 h3 h4 h5
          ·
            by_cases h6 : n0 = 6
            ·
              exact eeFix5 w R hR A0 n0 cp0 w0 hn hm hx t0 t1 t2 t3 t4 t5 f0 f1 f2 f3 f4 f5 kd ht0 ht1 ht2 ht3 ht4 ht5 hf0 hf1 hf2 hf3 hf4 hf5 hkd hgk h1 h2 h3 h4 h5 h6
            ·
              by_cases h7 : n0 = 7
              ·
                exact eeFix6 w R hR A0 n0 cp0 w0 hn hm hx t0 t1 t2 t3 t4 t5 f0 f1 f2 f3 f4 f5 kd ht0 ht1 ht2 ht3 ht4 ht5 hf0 hf1 hf2 hf3 hf4 hf5 hkd hgk h1 h2 h3 h4 h5 h6 h7
              ·
                by_cases h8 : n0 = 8
                ·
                  exact eeFix7 w R hR A0 n0 cp0 w0 hn hm hx t0 t1 t2 t3 t4 t5 f0 f1 f2 f3 f4 f5 kd ht0 ht1 ht2 ht3 ht4 ht5 hf0 hf1 hf2 hf3 hf4 hf5 hkd hgk h1 h2 h3 h4 h5 h6 h7 h8
                ·
                  by_cases h9 : n0 = 9
                  ·
                    exact eeFix8 w R hR A0 n0 cp0 w0 hn hm hx t0 t1 t2 t3 t4 t5 f0 f1 f2 f3 f4 f5 kd ht0 ht1 ht2 ht3 ht4 ht5 hf0 hf1 hf2 hf3 hf4 hf5 hkd hgk h1 h2 h3 h4 h5 h6 h7 h8 h9
                  ·
                    by_cases h10 : n0 = 10
                    ·
                      exact eeFix9 w R hR A0 n0 cp0 w0 hn hm hx t0 t1 t2 t3 t4 t5 f0 f1 f2 f3 f4 f5 kd ht0 ht1 ht2 ht3 ht4 ht5 hf0 hf1 hf2 hf3 hf4 hf5 hkd hgk h1 h2 h3 h4 h5 h6 h7 h8 h9 h10
                    ·
                      by_cases h11 : n0 = 11
                      ·
                        exact eeFix10 w R hR A0 n0 cp0 w0 hn hm hx t0 t1 t2 t3 t4 t5 f0 f1 f2 f3 f4 f5 kd ht0 ht1 ht2 ht3 ht4 ht5 hf0 hf1 hf2 hf3 hf4 hf5 hkd hgk h1 h2 h3 h4 h5 h6 h7 h8 h9 h10 h11
                      ·
                        by_cases h12 : n0 = 12
                        ·
                          exact eeFix11 w R hR A0 n0 cp0 w0 hn hm hx t0 t1 t2 t3 t4 t5 f0 f1 f2 f3 f4 f5 kd ht0 ht1 ht2 ht3 ht4 ht5 hf0 hf1 hf2 hf3 hf4 hf5 hkd hgk h1 h2 h3 h4 h5 h6 h7 h8 h9 h10 h11 h12
                        ·
                          by_cases h13 : n0 = 13
                          ·
                            exact eeFix12 w R hR A0 n0 cp0 w0 hn hm hx t0 t1 t2 t3 t4 t5 f0 f1 f2 f3 f4 f5 kd ht0 ht1 ht2 ht3 ht4 ht5 hf0 hf1 hf2 hf3 hf4 hf5 hkd hgk h1 h2 h3 h4 h5 h6 h7 h8 h9 h10 h11 h12 h13
                          ·
                            by_cases h14 : n0 = 14
                            ·
                              exact eeFix13 w R hR A0 n0 cp0 w0 hn hm hx t0 t1 t2 t3 t4 t5 f0 f1 f2 f3 f4 f5 kd ht0 ht1 ht2 ht3 ht4 ht5 hf0 hf1 hf2 hf3 hf4 hf5 hkd hgk h1 h2 h3 h4 h5 h6 h7 h8 h9 h10 h11 h12 h13 h14
                            ·
                              by_cases h15 : n0 = 15
                              ·
                                exact eeFix14 w R hR A0 n0 cp0 w0 hn hm hx t0 t1 t2 t3 t4 t5 f0 f1 f2 f3 f4 f5 kd ht0 ht1 ht2 ht3 ht4 ht5 hf0 hf1 hf2 hf3 hf4 hf5 hkd hgk h1 h2 h3 h4 h5 h6 h7 h8 h9 h10 h11 h12 h13 h14 h15
                              ·
                                by_cases h16 : n0 = 16
                                ·
                                  exact eeFix15 w R hR A0 n0 cp0 w0 hn hm hx t0 t1 t2 t3 t4 t5 f0 f1 f2 f3 f4 f5 kd ht0 ht1 ht2 ht3 ht4 ht5 hf0 hf1 hf2 hf3 hf4 hf5 hkd hgk h1 h2 h3 h4 h5 h6 h7 h8 h9 h10 h11 h12 h13 h14 h15 h16
                                ·
                                  by_cases h17 : n0 = 17
                                  ·
                                    exact eeFix16 w R hR A0 n0 cp0 w0 hn hm hx t0 t1 t2 t3 t4 t5 f0 f1 f2 f3 f4 f5 kd ht0 ht1 ht2 ht3 ht4 ht5 hf0 hf1 hf2 hf3 hf4 hf5 hkd hgk h1 h2 h3 h4 h5 h6 h7 h8 h9 h10 h11 h12 h13 h14 h15 h16 h17
                                  ·
                                    by_cases h18 : n0 = 18
                                    ·
                                      exact eeFix17 w R hR A0 n0 cp0 w0 hn hm hx t0 t1 t2 t3 t4 t5 f0 f1 f2 f3 f4 f5 kd ht0 ht1 ht2 ht3 ht4 ht5 hf0 hf1 hf2 hf3 hf4 hf5 hkd hgk h1 h2 h3 h4 h5 h6 h7 h8 h9 h10 h11 h12 h13 h14 h15 h16 h17 h18
                                    ·
                                      by_cases h19 : n0 = 19
                                      ·
                                        exact eeFix18 w R hR A0 n0 cp0 w0 hn hm hx t0 t1 t2 t3 t4 t5 f0 f1 f2 f3 f4 f5 kd ht0 ht1 ht2 ht3 ht4 ht5 hf0 hf1 hf2 hf3 hf4 hf5 hkd hgk h1 h2 h3 h4 h5 h6 h7 h8 h9 h10 h11 h12 h13 h14 h15 h16 h17 h18 h19
                                      ·
                                        by_cases h20 : n0 = 20
                                        ·
                                          exact eeFix19 w R hR A0 n0 cp0 w0 hn hm hx t0 t1 t2 t3 t4 t5 f0 f1 f2 f3 f4 f5 kd ht0 ht1 ht2 ht3 ht4 ht5 hf0 hf1 hf2 hf3 hf4 hf5 hkd hgk h1 h2 h3 h4 h5 h6 h7 h8 h9 h10 h11 h12 h13 h14 h15 h16 h17 h18 h19 h20
                                        ·
                                          by_cases h21 : n0 = 21
                                          ·
                                            exact eeFix20 w R hR A0 n0 cp0 w0 hn hm hx t0 t1 t2 t3 t4 t5 f0 f1 f2 f3 f4 f5 kd ht0 ht1 ht2 ht3 ht4 ht5 hf0 hf1 hf2 hf3 hf4 hf5 hkd hgk h1 h2 h3 h4 h5 h6 h7 h8 h9 h10 h11 h12 h13 h14 h15 h16 h17 h18 h19 h20 h21
                                          ·
                                            by_cases h22 : n0 = 22
                                            ·
                                              exact eeFix21 w R hR A0 n0 cp0 w0 hn hm hx t0 t1 t2 t3 t4 t5 f0 f1 f2 f3 f4 f5 kd ht0 ht1 ht2 ht3 ht4 ht5 hf0 hf1 hf2 hf3 hf4 hf5 hkd hgk h1 h2 h3 h4 h5 h6 h7 h8 h9 h10 h11 h12 h13 h14 h15 h16 h17 h18 h19 h20 h21 h22
                                            ·
                                              by_cases h23 : n0 = 23
                                              ·
                                                exact eeFix22 w R hR A0 n0 cp0 w0 hn hm hx t0 t1 t2 t3 t4 t5 f0 f1 f2 f3 f4 f5 kd ht0 ht1 ht2 ht3 ht4 ht5 hf0 hf1 hf2 hf3 hf4 hf5 hkd hgk h1 h2 h3 h4 h5 h6 h7 h8 h9 h10 h11 h12 h13 h14 h15 h16 h17 h18 h19 h20 h21 h22 h23
                                              ·
                                                by_cases h24 : n0 = 24
                                                ·
                                                  exact eeFix23 w R hR A0 n0 cp0 w0 hn hm hx t0 t1 t2 t3 t4 t5 f0 f1 f2 f3 f4 f5 kd ht0 ht1 ht2 ht3 ht4 ht5 hf0 hf1 hf2 hf3 hf4 hf5 hkd hgk h1 h2 h3 h4 h5 h6 h7 h8 h9 h10 h11 h12 h13 h14 h15 h16 h17 h18 h19 h20 h21 h22 h23 h24
                                                ·
                                                  by_cases h25 : n0 = 25
                                                  ·
                                                    exact eeFix24 w R hR A0 n0 cp0 w0 hn hm hx t0 t1 t2 t3 t4 t5 f0 f1 f2 f3 f4 f5 kd ht0 ht1 ht2 ht3 ht4 ht5 hf0 hf1 hf2 hf3 hf4 hf5 hkd hgk h1 h2 h3 h4 h5 h6 h7 h8 h9 h10 h11 h12 h13 h14 h15 h16 h17 h18 h19 h20 h21 h22 h23 h24 h25
                                                  ·
                                                    by_cases h26 : n0 = 26
                                                    ·
                                                      exact eeFix25 w R hR A0 n0 cp0 w0 hn hm hx t0 t1 t2 t3 t4 t5 f0 f1 f2 f3 f4 f5 kd ht0 ht1 ht2 ht3 ht4 ht5 hf0 hf1 hf2 hf3 hf4 hf5 hkd hgk h1 h2 h3 h4 h5 h6 h7 h8 h9 h10 h11 h12 h13 h14 h15 h16 h17 h18 h19 h20 h21 h22 h23 h24 h25 h26
                                                    ·
                                                      by_cases h27 : n0 = 27
                                                      ·
                                                        exact eeFix26 w R hR A0 n0 cp0 w0 hn hm hx t0 t1 t2 t3 t4 t5 f0 f1 f2 f3 f4 f5 kd ht0 ht1 ht2 ht3 ht4 ht5 hf0 hf1 hf2 hf3 hf4 hf5 hkd hgk h1 h2 h3 h4 h5 h6 h7 h8 h9 h10 h11 h12 h13 h14 h15 h16 h17 h18 h19 h20 h21 h22 h23 h24 h25 h26 h27
                                                      ·
                                                        by_cases h28 : n0 = 28
                                                        ·
                                                          exact eeFix27 w R hR A0 n0 cp0 w0 hn hm hx t0 t1 t2 t3 t4 t5 f0 f1 f2 f3 f4 f5 kd ht0 ht1 ht2 ht3 ht4 ht5 hf0 hf1 hf2 hf3 hf4 hf5 hkd hgk h1 h2 h3 h4 h5 h6 h7 h8 h9 h10 h11 h12 h13 h14 h15 h16 h17 h18 h19 h20 h21 h22 h23 h24 h25 h26 h27 h28
                                                        ·
                                                          by_cases h29 : n0 = 29
                                                          ·
                                                            exact eeFix28 w R hR A0 n0 cp0 w0 hn hm hx t0 t1 t2 t3 t4 t5 f0 f1 f2 f3 f4 f5 kd ht0 ht1 ht2 ht3 ht4 ht5 hf0 hf1 hf2 hf3 hf4 hf5 hkd hgk h1 h2 h3 h4 h5 h6 h7 h8 h9 h10 h11 h12 h13 h14 h15 h16 h17 h18 h19 h20 h21 h22 h23 h24 h25 h26 h27 h28 h29
                                                          ·
                                                            by_cases h30 : n0 = 30
                                                            ·
                                                              exact eeFix29 w R hR A0 n0 cp0 w0 hn hm hx t0 t1 t2 t3 t4 t5 f0 f1 f2 f3 f4 f5 kd ht0 ht1 ht2 ht3 ht4 ht5 hf0 hf1 hf2 hf3 hf4 hf5 hkd hgk h1 h2 h3 h4 h5 h6 h7 h8 h9 h10 h11 h12 h13 h14 h15 h16 h17 h18 h19 h20 h21 h22 h23 h24 h25 h26 h27 h28 h29 h30
                                                            ·
                                                              by_cases h31 : n0 = 31
                                                              ·
                                                                exact eeFix30 w R hR A0 n0 cp0 w0 hn hm hx t0 t1 t2 t3 t4 t5 f0 f1 f2 f3 f4 f5 kd ht0 ht1 ht2 ht3 ht4 ht5 hf0 hf1 hf2 hf3 hf4 hf5 hkd hgk h1 h2 h3 h4 h5 h6 h7 h8 h9 h10 h11 h12 h13 h14 h15 h16 h17 h18 h19 h20 h21 h22 h23 h24 h25 h26 h27 h28 h29 h30 h31
                                                              ·
                                                                by_cases h32 : n0 = 32
                                                                ·
                                                                  exact eeFix31 w R hR A0 n0 cp0 w0 hn hm hx t0 t1 t2 t3 t4 t5 f0 f1 f2 f3 f4 f5 kd ht0 ht1 ht2 ht3 ht4 ht5 hf0 hf1 hf2 hf3 hf4 hf5 hkd hgk h1 h2 h3 h4 h5 h6 h7 h8 h9 h10 h11 h12 h13 h14 h15 h16 h17 h18 h19 h20 h21 h22 h23 h24 h25 h26 h27 h28 h29 h30 h31 h32
                                                                ·
                                                                  by_cases h33 : n0 = 33
                                                                  ·
                                                                    exact eeFix32 w R hR A0 n0 cp0 w0 hn hm hx t0 t1 t2 t3 t4 t5 f0 f1 f2 f3 f4 f5 kd ht0 ht1 ht2 ht3 ht4 ht5 hf0 hf1 hf2 hf3 hf4 hf5 hkd hgk h1 h2 h3 h4 h5 h6 h7 h8 h9 h10 h11 h12 h13 h14 h15 h16 h17 h18 h19 h20 h21 h22 h23 h24 h25 h26 h27 h28 h29 h30 h31 h32 h33
                                                                  ·
                                                                    by_cases h34 : n0 = 34
                                                                    ·
                                                                      exact eeFix33 w R hR A0 n0 cp0 w0 hn hm hx t0 t1 t2 t3 t4 t5 f0 f1 f2 f3 f4 f5 kd ht0 ht1 ht2 ht3 ht4 ht5 hf0 hf1 hf2 hf3 hf4 hf5 hkd hgk h1 h2 h3 h4 h5 h6 h7 h8 h9 h10 h11 h12 h13 h14 h15 h16 h17 h18 h19 h20 h21 h22 h23 h24 h25 h26 h27 h28 h29 h30 h31 h32 h33 h34
                                                                    ·
                                                                      by_cases h35 : n0 = 35
                                                                      ·
                                                                        exact eeFix34 w R hR A0 n0 cp0 w0 hn hm hx t0 t1 t2 t3 t4 t5 f0 f1 f2 f3 f4 f5 kd ht0 ht1 ht2 ht3 ht4 ht5 hf0 hf1 hf2 hf3 hf4 hf5 hkd hgk h1 h2 h3 h4 h5 h6 h7 h8 h9 h10 h11 h12 h13 h14 h15 h16 h17 h18 h19 h20 h21 h22 h23 h24 h25 h26 h27 h28 h29 h30 h31 h32 h33 h34 h35
                                                                      ·
                                                                        by_cases h36 : n0 = 36
                                                                        ·
                                                                          exact eeFix35 w R hR A0 n0 cp0 w0 hn hm hx t0 t1 t2 t3 t4 t5 f0 f1 f2 f3 f4 f5 kd ht0 ht1 ht2 ht3 ht4 ht5 hf0 hf1 hf2 hf3 hf4 hf5 hkd hgk h1 h2 h3 h4 h5 h6 h7 h8 h9 h10 h11 h12 h13 h14 h15 h16 h17 h18 h19 h20 h21 h22 h23 h24 h25 h26 h27 h28 h29 h30 h31 h32 h33 h34 h35 h36
                                                                        ·
                                                                          by_cases h37 : n0 = 37
                                                                          ·
                                                                            exact eeFix36 w R hR A0 n0 cp0 w0 hn hm hx t0 t1 t2 t3 t4 t5 f0 f1 f2 f3 f4 f5 kd ht0 ht1 ht2 ht3 ht4 ht5 hf0 hf1 hf2 hf3 hf4 hf5 hkd hgk h1 h2 h3 h4 h5 h6 h7 h8 h9 h10 h11 h12 h13 h14 h15 h16 h17 h18 h19 h20 h21 h22 h23 h24 h25 h26 h27 h28 h29 h30 h31 h32 h33 h34 h35 h36 h37
                                                                          ·
                                                                            by_cases h38 : n0 = 38
                                                                            ·
                                                                              exact eeFix37 w R hR A0 n0 cp0 w0 hn hm hx t0 t1 t2 t3 t4 t5 f0 f1 f2 f3 f4 f5 kd ht0 ht1 ht2 ht3 ht4 ht5 hf0 hf1 hf2 hf3 hf4 hf5 hkd hgk h1 h2 h3 h4 h5 h6 h7 h8 h9 h10 h11 h12 h13 h14 h15 h16 h17 h18 h19 h20 h21 h22 h23 h24 h25 h26 h27 h28 h29 h30 h31 h32 h33 h34 h35 h36 h37 h38
                                                                            ·
                                                                              by_cases h39 : n0 = 39
                                                                              ·
                                                                                exact eeFix38 w R hR A0 n0 cp0 w0 hn hm hx t0 t1 t2 t3 t4 t5 f0 f1 f2 f3 f4 f5 kd ht0 ht1 ht2 ht3 ht4 ht5 hf0 hf1 hf2 hf3 hf4 hf5 hkd hgk h1 h2 h3 h4 h5 h6 h7 h8 h9 h10 h11 h12 h13 h14 h15 h16 h17 h18 h19 h20 h21 h22 h23 h24 h25 h26 h27 h28 h29 h30 h31 h32 h33 h34 h35 h36 h37 h38 h39
                                                                              ·
                                                                                by_cases h40 : n0 = 40
                                                                                ·
                                                                                  exact eeFix39 w R hR A0 n0 cp0 w0 hn hm hx t0 t1 t2 t3 t4 t5 f0 f1 f2 f3 f4 f5 kd ht0 ht1 ht2 ht3 ht4 ht5 hf0 hf1 hf2 hf3 hf4 hf5 hkd hgk h1 h2 h3 h4 h5 h6 h7 h8 h9 h10 h11 h12 h13 h14 h15 h16 h17 h18 h19 h20 h21 h22 h23 h24 h25 h26 h27 h28 h29 h30 h31 h32 h33 h34 h35 h36 h37 h38 h39 h40
                                                                                ·
                                                                                  by_cases h41 : n0 = 41
                                                                                  ·
                                                                                    exact eeFix40 w R hR A0 n0 cp0 w0 hn hm hx t0 t1 t2 t3 t4 t5 f0 f1 f2 f3 f4 f5 kd ht0 ht1 ht2 ht3 ht4 ht5 hf0 hf1 hf2 hf3 hf4 hf5 hkd hgk h1 h2 h3 h4 h5 h6 h7 h8 h9 h10 h11 h12 h13 h14 h15 h16 h17 h18 h19 h20 h21 h22 h23 h24 h25 h26 h27 h28 h29 h30 h31 h32 h33 h34 h35 h36 h37 h38 h39 h40 h41
                                                                                  ·
                                                                                    by_cases h42 : n0 = 42
                                                                                    ·
                                                                                      exact eeFix41 w R hR A0 n0 cp0 w0 hn hm hx t0 t1 t2 t3 t4 t5 f0 f1 f2 f3 f4 f5 kd ht0 ht1 ht2 ht3 ht4 ht5 hf0 hf1 hf2 hf3 hf4 hf5 hkd hgk h1 h2 h3 h4 h5 h6 h7 h8 h9 h10 h11 h12 h13 h14 h15 h16 h17 h18 h19 h20 h21 h22 h23 h24 h25 h26 h27 h28 h29 h30 h31 h32 h33 h34 h35 h36 h37 h38 h39 h40 h41 h42
                                                                                    ·
                                                                                      by_cases h43 : n0 = 43
                                                                                      ·
                                                                                        exact eeFix42 w R hR A0 n0 cp0 w0 hn hm hx t0 t1 t2 t3 t4 t5 f0 f1 f2 f3 f4 f5 kd ht0 ht1 ht2 ht3 ht4 ht5 hf0 hf1 hf2 hf3 hf4 hf5 hkd hgk h1 h2 h3 h4 h5 h6 h7 h8 h9 h10 h11 h12 h13 h14 h15 h16 h17 h18 h19 h20 h21 h22 h23 h24 h25 h26 h27 h28 h29 h30 h31 h32 h33 h34 h35 h36 h37 h38 h39 h40 h41 h42 h43
                                                                                      ·
                                                                                        by_cases h44 : n0 = 44
                                                                                        ·
                                                                                          exact eeFix43 w R hR A0 n0 cp0 w0 hn hm hx t0 t1 t2 t3 t4 t5 f0 f1 f2 f3 f4 f5 kd ht0 ht1 ht2 ht3 ht4 ht5 hf0 hf1 hf2 hf3 hf4 hf5 hkd hgk h1 h2 h3 h4 h5 h6 h7 h8 h9 h10 h11 h12 h13 h14 h15 h16 h17 h18 h19 h20 h21 h22 h23 h24 h25 h26 h27 h28 h29 h30 h31 h32 h33 h34 h35 h36 h37 h38 h39 h40 h41 h42 h43 h44
                                                                                        ·
                                                                                          by_cases h45 : n0 = 45
                                                                                          ·
                                                                                            exact eeFix44 w R hR A0 n0 cp0 w0 hn hm hx t0 t1 t2 t3 t4 t5 f0 f1 f2 f3 f4 f5 kd ht0 ht1 ht2 ht3 ht4 ht5 hf0 hf1 hf2 hf3 hf4 hf5 hkd hgk h1 h2 h3 h4 h5 h6 h7 h8 h9 h10 h11 h12 h13 h14 h15 h16 h17 h18 h19 h20 h21 h22 h23 h24 h25 h26 h27 h28 h29 h30 h31 h32 h33 h34 h35 h36 h37 h38 h39 h40 h41 h42 h43 h44 h45
                                                                                          ·
                                                                                            exfalso; omega
abbrev eeBadV (R : Nat → Int) (hR : ∀ j, 0 ≤ R j ∧ R j ≤ 255) (n0 : Nat) (t0 t1 t2 t3 t4 t5 f0 f1 f2 f3 f4 f5 kd : Int) : Env := envR [.int .i64 (n0 : Int), .int .u8 t0, .int .u8 t1, .int .u8 t2, .int .u8 t3, .int .u8 t4, .int .u8 t5, .int .u8 f0, .int .u8 f1, .int .u8 f2, .int .u8 f3, .int .u8 f4, .int .u8 f5, .int .i64 kd] R hR
abbrev eeBadB (R : Nat → Int) (n0 : Nat) (t0 t1 t2 t3 t4 t5 f0 f1 f2 f3 f4 f5 kd : Int) : Prop := n0 ≤ 70000 ∧ 1 ≤ n0 ∧ (kd < 1536 ∨ 65535 < kd) ∧ (0 ≤ t0 ∧ t0 ≤ 255) ∧ (0 ≤ t1 ∧ t1 ≤ 255) ∧ (0 ≤ t2 ∧ t2 ≤ 255) ∧ (0 ≤ t3 ∧ t3 ≤ 255) ∧ (0 ≤ t4 ∧ t4 ≤ 255) ∧ (0 ≤ t5 ∧ t5 ≤ 255) ∧ (0 ≤ f0 ∧ f0 ≤ 255) ∧ (0 ≤ f1 ∧ f1 ≤ 255) ∧ (0 ≤ f2 ∧ f2 ≤ 255) ∧ (0 ≤ f3 ∧ f3 ≤ 255) ∧ (0 ≤ f4 ∧ f4 ≤ 255) ∧ (0 ≤ f5 ∧ f5 ≤ 255) ∧ ((-9223372036854775808) ≤ kd ∧ kd ≤ 9223372036854775807)
def eeBads0 : Ent := .bin .gtr (.chan (some 0)) (.int .i64 2000) (.bool true)
theorem eeBads0_ok (R : Nat → Int) (hR : ∀ j, 0 ≤ R j ∧ R j ≤ 255) (n0 : Nat) (t0 t1 t2 t3 t4 t5 f0 f1 f2 f3 f4 f5 kd : Int) (hb : eeBadB R n0 t0 t1 t2 t3 t4 t5 f0 f1 f2 f3 f4 f5 kd) (hc : (n0 : Int) > 2000) : @EntOK (eeBadV R hR n0 t0 t1 t2 t3 t4 t5 f0 f1 f2 f3 f4 f5 kd) Try.prog eeBads0 := by
  letI : Env := eeBadV R hR n0 t0 t1 t2 t3 t4 t5 f0 f1 f2 f3 f4 f5 kd
  exact entCmp (k := .i64) (a := (n0 : Int)) (b := 2000) rfl rfl (by show some (decide (((n0 : Int) : Int) > 2000)) = some true; rw [decide_eq_true (by first | omega | (simp only [sumVal, oct.sumF, oct.F, oct.ws]; omega))])
def eeBads1 : Ent := .bin .gtr (.chan (some 0)) (.int .i64 2000) (.bool false)
theorem eeBads1_ok (R : Nat → Int) (hR : ∀ j, 0 ≤ R j ∧ R j ≤ 255) (n0 : Nat) (t0 t1 t2 t3 t4 t5 f0 f1 f2 f3 f4 f5 kd : Int) (hb : eeBadB R n0 t0 t1 t2 t3 t4 t5 f0 f1 f2 f3 f4 f5 kd) (hc : ¬ ((n0 : Int) > 2000)) : @EntOK (eeBadV R hR n0 t0 t1 t2 t3 t4 t5 f0 f1 f2 f3 f4 f5 kd) Try.prog eeBads1 := by
  letI : Env := eeBadV R hR n0 t0 t1 t2 t3 t4 t5 f0 f1 f2 f3 f4 f5 kd
  exact entCmp (k := .i64) (a := (n0 : Int)) (b := 2000) rfl rfl (by show some (decide (((n0 : Int) : Int) > 2000)) = some false; rw [decide_eq_false (by first | omega | (simp only [sumVal, oct.sumF, oct.F, oct.ws]; omega))])
def eeBads2 : Ent := .bin .lss (.chan (some 13)) (.int .i64 1536) (.bool true)
theorem eeBads2_ok (R : Nat → Int) (hR : ∀ j, 0 ≤ R j ∧ R j ≤ 255) (n0 : Nat) (t0 t1 t2 t3 t4 t5 f0 f1 f2 f3 f4 f5 kd : Int) (hb : eeBadB R n0 t0 t1 t2 t3 t4 t5 f0 f1 f2 f3 f4 f5 kd) (hc : kd < 1536) : @EntOK (eeBadV R hR n0 t0 t1 t2 t3 t4 t5 f0 f1 f2 f3 f4 f5 kd) Try.prog eeBads2 := by
  letI : Env := eeBadV R hR n0 t0 t1 t2 t3 t4 t5 f0 f1 f2 f3 f4 f5 kd
  exact entCmp (k := .i64) (a := kd) (b := 1536) rfl rfl (by show some (decide ((kd : Int) < 1536)) = some true; rw [decide_eq_true (by first | omega | (simp only [sumVal, oct.sumF, oct.F, oct.ws]; omega))])
def eeBads3 : Ent := .bin .lss (.chan (some 13)) (.int .i64 1536) (.bool false)
theorem eeBads3_ok (R : Nat → Int) (hR : ∀ j, 0 ≤ R j ∧ R j ≤ 255) (n0 : Nat) (t0 t1 t2 t3 t4 t5 f0 f1 f2 f3 f4 f5 kd : Int) (hb : eeBadB R n0 t0 t1 t2 t3 t4 t5 f0 f1 f2 f3 f4 f5 kd) (hc : ¬ (kd < 1536)) : @EntOK (eeBadV R hR n0 t0 t1 t2 t3 t4 t5 f0 f1 f2 f3 f4 f5 kd) Try.prog eeBads3 := by
  letI : Env := eeBadV R hR n0 t0 t1 t2 t3 t4 t5 f0 f1 f2 f3 f4 f5 kd
  exact entCmp (k := .i64) (a := kd) (b := 1536) rfl rfl (by show some (decide ((kd : Int) < 1536)) = some false; rw [decide_eq_false (by first | omega | (simp only [sumVal, oct.sumF, oct.F, oct.ws]; omega))])
def eeBads4 : Ent := .bin .gtr (.chan (some 13)) (.int .i64 65535) (.bool true)
theorem eeBads4_ok (R : Nat → Int) (hR : ∀ j, 0 ≤ R j ∧ R j ≤ 255) (n0 : Nat) (t0 t1 t2 t3 t4 t5 f0 f1 f2 f3 f4 f5 kd : Int) (hb : eeBadB R n0 t0 t1 t2 t3 t4 t5 f0 f1 f2 f3 f4 f5 kd) (hc : kd > 65535) : @EntOK (eeBadV R hR n0 t0 t1 t2 t3 t4 t5 f0 f1 f2 f3 f4 f5 kd) Try.prog eeBads4 := by
  letI : Env := eeBadV R hR n0 t0 t1 t2 t3 t4 t5 f0 f1 f2 f3 f4 f5 kd
  exact entCmp (k := .i64) (a := kd) (b := 65535) rfl rfl (by show some (decide ((kd : Int) > 65535)) = some true; rw [decide_eq_true (by first | omega | (simp only [sumVal, oct.sumF, oct.F, oct.ws]; omega))])
abbrev eeBadG : List Ent := []
theorem eeBadG_ok (R : Nat → Int) (hR : ∀ j, 0 ≤ R j ∧ R j ≤ 255) (n0 : Nat) (t0 t1 t2 t3 t4 t5 f0 f1 f2 f3 f4 f5 kd : Int) (hb : eeBadB R n0 t0 t1 t2 t3 t4 t5 f0 f1 f2 f3 f4 f5 kd) : ∀ e ∈ eeBadG, @EntOK (eeBadV R hR n0 t0 t1 t2 t3 t4 t5 f0 f1 f2 f3 f4 f5 kd) Try.prog e := by
  letI : Env := eeBadV R hR n0 t0 t1 t2 t3 t4 t5 f0 f1 f2 f3 f4 f5 kd
  exact allENil
set_option maxHeartbeats 4000000 in
theorem eeBad_run (w : World) (R : Nat → Int) (hR : ∀ j, 0 ≤ R j ∧ R j ≤ 255) (A0 : Addr) (n0 cp0 : Nat) (w0 : RowIn R 1048576 w A0 n0 cp0) (hn : n0 ≤ 70000) (hm : 1 ≤ n0) (t0 t1 t2 t3 t4 t5 f0 f1 f2 f3 f4 f5 kd : Int) (ht0 : 0 ≤ t0 ∧ t0 ≤ 255) (ht1 : 0 ≤ t1 ∧ t1 ≤ 255) (ht2 : 0 ≤ t2 ∧ t2 ≤ 255) (ht3 : 0 ≤ t3 ∧ t3 ≤ 255) (ht4 : 0 ≤ t4 ∧ t4 ≤ 255) (ht5 : 0 ≤ t5 ∧ t5 ≤ 255) (hf0 : 0 ≤ f0 ∧ f0 ≤ 255) (hf1 : 0 ≤ f1 ∧ f1 ≤ 255) (hf2 : 0 ≤ f2 ∧ f2 ≤ 255) (hf3 : 0 ≤ f3 ∧ f3 ≤ 255) (hf4 : 0 ≤ f4 ∧ f4 ≤ 255) (hf5 : 0 ≤ f5 ∧ f5 ≤ 255) (hkd : (-9223372036854775808) ≤ kd ∧ kd ≤ 9223372036854775807) (hgk : kd < 1536 ∨ 65535 < kd) (m0 : Nat) (hm0 : m0 ≤ n0) (L : List Ent) (hents : ∀ e ∈ L, @EntOK (eeBadV R hR n0 t0 t1 t2 t3 t4 t5 f0 f1 f2 f3 f4 f5 kd) Try.prog e) (h : says (fxCall Try.prog (tabG Try.prog L) (spTwo (spSpoil 14 5 [0]) (spTwo (spHelp ⟨12, 9, 13, 5⟩ [0]) (spKnown 15))) 300 3 [.agg #[.chan (some 1), .chan (some 2), .chan (some 3), .chan (some 4), .chan (some 5), .chan (some 6), .chan (some 7), .chan (some 8), .chan (some 9), .chan (some 10), .chan (some 11), .chan (some 12), .chan (some 13), .slice (some ⟨0, 0, some 1⟩) m0 0]] 1 (mem1 (rowAo 1048576 0 m0 5))) = some true) : Calls Try.prog 3 #[.agg #[.int .u8 t0, .int .u8 t1, .int .u8 t2, .int .u8 t3, .int .u8 t4, .int .u8 t5, .int .u8 f0, .int .u8 f1, .int .u8 f2, .int .u8 f3, .int .u8 f4, .int .u8 f5, .int .i64 kd, .slice (some A0) n0 cp0]] w (fun e w' => e = .returned (.bool true) ∧ Only [] w w') := by
  letI : Env := (eeBadV R hR n0 t0 t1 t2 t3 t4 t5 f0 f1 f2 f3 f4 f5 kd)
  have hsp : SpOK Try.prog (spTwo (spSpoil 14 5 [0]) (spTwo (spHelp ⟨12, 9, 13, 5⟩ [0]) (spKnown 15))) := (spTwo_ok (spSpoil_ok (by
    intro q hq
    simp only [List.mem_cons, List.not_mem_nil, or_false] at hq
    subst hq
    rw [lenOf_eq (n := n0) rfl]; omega)) (spTwo_ok (spHelp_ok helpC (by
    intro q hq
    simp only [List.mem_cons, List.not_mem_nil, or_false] at hq
    subst hq
    rw [lenOf_eq (n := n0) rfl]; omega)) (spKnown_ok knownBody known)))
  refine lawR (tab := tabG Try.prog L) hsp (tabG_ok hents) (c0 := 1) (β0 := mp1 (rowIm A0 n0 cp0)) (w := w) h (sim1 rfl w0.lt (rowIn_ob w0 (by decide) rfl (by omega))) (fun i hi => ?_) ?_
  · match i, hi with
    | i + 1, _ => rfl
  · exact (PW.cons (PW.agg (PW.cons (.opq 1 rfl (fun b h => by cases h)) (PW.cons (.opq 2 rfl (fun b h => by cases h)) (PW.cons (.opq 3 rfl (fun b h => by cases h)) (PW.cons (.opq 4 rfl (fun b h => by cases h)) (PW.cons (.opq 5 rfl (fun b h => by cases h)) (PW.cons (.opq 6 rfl (fun b h => by cases h)) (PW.cons (.opq 7 rfl (fun b h => by cases h)) (PW.cons (.opq 8 rfl (fun b h => by cases h)) (PW.cons (.opq 9 rfl (fun b h => by cases h)) (PW.cons (.opq 10 rfl (fun b h => by cases h)) (PW.cons (.opq 11 rfl (fun b h => by cases h)) (PW.cons (.opq 12 rfl (fun b h => by cases h)) (PW.cons (.opq 13 rfl (fun b h => by cases h)) (PW.cons (rowIn_vr (m := m0) w0 rfl (by omega) (by omega) rfl) (PW.nil _)))))))))))))))) (PW.nil _))
abbrev eeBad0L : List Ent := eeBads0 :: eeBadG
theorem eeBad0 (w : World) (R : Nat → Int) (hR : ∀ j, 0 ≤ R j ∧ R j ≤ 255) (A0 : Addr) (n0 cp0 : Nat) (w0 : RowIn R 1048576 w A0 n0 cp0) (hn : n0 ≤ 70000) (hm : 1 ≤ n0) (t0 t1 t2 t3 t4 t5 f0 f1 f2 f3 f4 f5 kd : Int) (ht0 : 0 ≤ t0 ∧ t0 ≤ 255) (ht1 : 0 ≤ t1 ∧ t1 ≤ 255) (ht2 : 0 ≤ t2 ∧ t2 ≤ 255) (ht3 : 0 ≤ t3 ∧ t3 ≤ 255) (ht4 : 0 ≤ t4 ∧ t4 ≤ 255) (ht5 : 0 ≤ t5 ∧ t5 ≤ 255) (hf0 : 0 ≤ f0 ∧ f0 ≤ 255) (hf1 : 0 ≤ f1 ∧ f1 ≤ 255) (hf2 : 0 ≤ f2 ∧ f2 ≤ 255) (hf3 : 0 ≤ f3 ∧ f3 ≤ 255) (hf4 : 0 ≤ f4 ∧ f4 ≤ 255) (hf5 : 0 ≤ f5 ∧ f5 ≤ 255) (hkd : (-9223372036854775808) ≤ kd ∧ kd ≤ 9223372036854775807) (hgk : kd < 1536 ∨ 65535 < kd) (k0 : (n0 : Int) > 2000) : Calls Try.prog 3 #[.agg #[.int .u8 t0, .int .u8 t1, .int .u8 t2, .int .u8 t3, .int .u8 t4, .int .u8 t5, .int .u8 f0, .int .u8 f1, .int .u8 f2, .int .u8 f3, .int .u8 f4, .int .u8 f5, .int .i64 kd, .slice (some A0) n0 cp0]] w (fun e w' => e = .returned (.bool true) ∧ Only [] w w') := by
  letI : Env := (eeBadV R hR n0 t0 t1 t2 t3 t4 t5 f0 f1 f2 f3 f4 f5 kd)
  have hb : eeBadB R n0 t0 t1 t2 t3 t4 t5 f0 f1 f2 f3 f4 f5 kd := ⟨hn, hm, hgk, ht0, ht1, ht2, ht3, ht4, ht5, hf0, hf1, hf2, hf3, hf4, hf5, hkd⟩
  exact eeBad_run w R hR A0 n0 cp0 w0 hn hm t0 t1 t2 t3 t4 t5 f0 f1 f2 f3 f4 f5 kd ht0 ht1 ht2 ht3 ht4 ht5 hf0 hf1 hf2 hf3 hf4 hf5 hkd hgk 1 (by omega) eeBad0L (ac (eeBads0_ok R hR n0 t0 t1 t2 t3 t4 t5 f0 f1 f2 f3 f4 f5 kd hb k0) (eeBadG_ok R hR n0 t0 t1 t2 t3 t4 t5 f0 f1 f2 f3 f4 f5 kd hb)) (by kernel_rfl)
abbrev eeBad1L : List Ent := eeBads1 :: eeBads2 :: eeBadG
theorem eeBad1 (w : World) (R : Nat → Int) (hR : ∀ j, 0 ≤ R j ∧ R j ≤ 255) (A0 : Addr) (n0 cp0 : Nat) (w0 : RowIn R 1048576 w A0 n0 cp0) (hn : n0 ≤ 70000) (hm : 1 ≤ n0) (t0 t1 t2 t3 t4 t5 f0 f1 f2 f3 f4 f5 kd : Int) (ht0 : 0 ≤ t0 ∧ t0 ≤ 255) (ht1 : 0 ≤ t1 ∧ t1 ≤ 255) (ht2 : 0 ≤ t2 ∧ t2 ≤ 255) (ht3 : 0 ≤ t3 ∧ t3 ≤ 255) (ht4 : 0 ≤ t4 ∧ t4 ≤ 255) (ht5 : 0 ≤ t5 ∧ t5 ≤ 255) (hf0 : 0 ≤ f0 ∧ f0 ≤ 255) (hf1 : 0 ≤ f1 ∧ f1 ≤ 255) (hf2 : 0 ≤ f2 ∧ f2 ≤ 255) (hf3 : 0 ≤ f3 ∧ f3 ≤ 255) (hf4 : 0 ≤ f4 ∧ f4 ≤ 255) (hf5 : 0 ≤ f5 ∧ f5 ≤ 255) (hkd : (-9223372036854775808) ≤ kd ∧ kd ≤ 9223372036854775807) (hgk : kd < 1536 ∨ 65535 < kd) (k0 : ¬ ((n0 : Int) > 2000)) (k1 : kd < 1536) : Calls Try.prog 3 #[.agg #[.int .u8 t0, .int .u8 t1, .int .u8 t2, .int .u8 t3, .int .u8 t4, .int .u8 t5, .int .u8 f0, .int .u8 f1, .int .u8 f2, .int .u8 f3, .int .u8 f4, .int .u8 f5, .int .i64 kd, .slice (some A0) n0 cp0]] w (fun e w' => e = .returned (.bool true) ∧ Only [] w w') := by
  letI : Env := (eeBadV R hR n0 t0 t1 t2 t3 t4 t5 f0 f1 f2 f3 f4 f5 kd)
  have hb : eeBadB R n0 t0 t1 t2 t3 t4 t5 f0 f1 f2 f3 f4 f5 kd := ⟨hn, hm, hgk, ht0, ht1, ht2, ht3, ht4, ht5, hf0, hf1, hf2, hf3, hf4, hf5, hkd⟩
  exact eeBad_run w R hR A0 n0 cp0 w0 hn hm t0 t1 t2 t3 t4 t5 f0 f1 f2 f3 f4 f5 kd ht0 ht1 ht2 ht3 ht4 ht5 hf0 hf1 hf2 hf3 hf4 hf5 hkd hgk 1 (by omega) eeBad1L (ac (eeBads1_ok R hR n0 t0 t1 t2 t3 t4 t5 f0 f1 f2 f3 f4 f5 kd hb k0) (ac (eeBads2_ok R hR n0 t0 t1 t2 t3 t4 t5 f0 f1 f2 f3 f4 f5 kd hb k1) (eeBadG_ok R hR n0 t0 t1 t2 t3 t4 t5 f0 f1 f2 f3 f4 f5 kd hb))) (by kernel_rfl)
abbrev eeBad2L : List Ent := eeBads1 :: eeBads3 :: eeBads4 :: eeBadG
theorem eeBad2 (w : World) (R : Nat → Int) (hR : ∀ j, 0 ≤ R j ∧ R j ≤ 255) (A0 : Addr) (n0 cp0 : Nat) (w0 : RowIn R 1048576 w A0 n0 cp0) (hn : n0 ≤ 70000) (hm : 1 ≤ n0) (t0 t1 t2 t3 t4 t5 f0 f1 f2 f3 f4 f5 kd : Int) (ht0 : 0 ≤ t0 ∧ t0 ≤ 255) (ht1 : 0 ≤ t1 ∧ t1 ≤ 255) (ht2 : 0 ≤ t2 ∧ t2 ≤ 255) (ht3 : 0 ≤ t3 ∧ t3 ≤ 255) (ht4 : 0 ≤ t4 ∧ t4 ≤ 255) (ht5 : 0 ≤ t5 ∧ t5 ≤ 255) (hf0 : 0 ≤ f0 ∧ f0 ≤ 255) (hf1 : 0 ≤ f1 ∧ f1 ≤ 255) (hf2 : 0 ≤ f2 ∧ f2 ≤ 255) (hf3 : 0 ≤ f3 ∧ f3 ≤ 255) (hf4 : 0 ≤ f4 ∧ f4 ≤ 255) (hf5 : 0 ≤ f5 ∧ f5 ≤ 255) (hkd : (-9223372036854775808) ≤ kd ∧ kd ≤ 9223372036854775807) (hgk : kd < 1536 ∨ 65535 < kd) (k0 : ¬ ((n0 : Int) > 2000)) (k1 : ¬ (kd < 1536)) (k2 : kd > 65535) : Calls Try.prog 3 #[.agg #[.int .u8 t0, .int .u8 t1, .int .u8 t2, .int .u8 t3, .int .u8 t4, .int .u8 t5, .int .u8 f0, .int .u8 f1, .int .u8 f2, .int .u8 f3, .int .u8 f4, .int .u8 f5, .int .i64 kd, .slice (some A0) n0 cp0]] w (fun e w' => e = .returned (.bool true) ∧ Only [] w w') := by
  letI : Env := (eeBadV R hR n0 t0 t1 t2 t3 t4 t5 f0 f1 f2 f3 f4 f5 kd)
  have hb : eeBadB R n0 t0 t1 t2 t3 t4 t5 f0 f1 f2 f3 f4 f5 kd := ⟨hn, hm, hgk, ht0, ht1, ht2, ht3, ht4, ht5, hf0, hf1, hf2, hf3, hf4, hf5, hkd⟩
  exact eeBad_run w R hR A0 n0 cp0 w0 hn hm t0 t1 t2 t3 t4 t5 f0 f1 f2 f3 f4 f5 kd ht0 ht1 ht2 ht3 ht4 ht5 hf0 hf1 hf2 hf3 hf4 hf5 hkd hgk 1 (by omega) eeBad2L (ac (eeBads1_ok R hR n0 t0 t1 t2 t3 t4 t5 f0 f1 f2 f3 f4 f5 kd hb k0) (ac (eeBads3_ok R hR n0 t0 t1 t2 t3 t4 t5 f0 f1 f2 f3 f4 f5 kd hb k1) (ac (eeBads4_ok R hR n0 t0 t1 t2 t3 t4 t5 f0 f1 f2 f3 f4 f5 kd hb k2) (eeBadG_ok R hR n0 t0 t1 t2 t3 t4 t5 f0 f1 f2 f3 f4 f5 kd hb)))) (by kernel_rfl)
theorem EtherEncodesBad (w : World) (R : Nat → Int) (hR : ∀ j, 0 ≤ R j ∧ R j ≤ 255) (A0 : Addr) (n0 cp0 : Nat) (w0 : RowIn R 1048576 w A0 n0 cp0) (hn : n0 ≤ 70000) (hm : 1 ≤ n0) (t0 t1 t2 t3 t4 t5 f0 f1 f2 f3 f4 f5 kd : Int) (ht0 : 0 ≤ t0 ∧ t0 ≤ 255) (ht1 : 0 ≤ t1 ∧ t1 ≤ 255) (ht2 : 0 ≤ t2 ∧ t2 ≤ 255) (ht3 : 0 ≤ t3 ∧ t3 ≤ 255) (ht4 : 0 ≤ t4 ∧ t4 ≤ 255) (ht5 : 0 ≤ t5 ∧ t5 ≤ 255) (hf0 : 0 ≤ f0 ∧ f0 ≤ 255) (hf1 : 0 ≤ f1 ∧ f1 ≤ 255) (hf2 : 0 ≤ f2 ∧ f2 ≤ 255) (hf3 : 0 ≤ f3 ∧ f3 ≤ 255) (hf4 : 0 ≤ f4 ∧ f4 ≤ 255) (hf5 : 0 ≤ f5 ∧ f5 ≤ 255) (hkd : (-9223372036854775808) ≤ kd ∧ kd ≤ 9223372036854775807) (hgk : kd < 1536 ∨ 65535 < kd) : Calls Try.prog 3 #[.agg #[.int .u8 t0, .int .u8 t1, .int .u8 t2, .int .u8 t3, .int .u8 t4, .int .u8 t5, .int .u8 f0, .int .u8 f1, .int .u8 f2, .int .u8 f3, .int .u8 f4, .int .u8 f5, .int .i64 kd, .slice (some A0) n0 cp0]] w (fun e w' => e = .returned (.bool true) ∧ Only [] w w') := by
  by_cases h1 : (n0 : Int) > 2000
  ·
    exact eeBad0 w R hR A0 n0 cp0 w0 hn hm t0 t1 t2 t3 t4 t5 f0 f1 f2 f3 f4 f5 kd ht0 ht1 ht2 ht3 ht4 ht5 hf0 hf1 hf2 hf3 hf4 hf5 hkd hgk h1
  ·
    by_cases h2 : kd < 1536
    ·
      exact eeBad1 w R hR A0 n0 cp0 w0 hn hm t0 t1 t2 t3 t4 t5 f0 f1 f2 f3 f4 f5 kd ht0 ht1 ht2 ht3 ht4 ht5 hf0 hf1 hf2 hf3 hf4 hf5 hkd hgk h1 h2
    ·
      by_cases h3 : kd > 65535
      ·
        exact eeBad2 w R hR A0 n0 cp0 w0 hn hm t0 t1 t2 t3 t4 t5 f0 f1 f2 f3 f4 f5 kd ht0 ht1 ht2 ht3 ht4 ht5 hf0 hf1 hf2 hf3 hf4 hf5 hkd hgk h1 h2 h3
      ·
        exfalso; omega
abbrev eeNilV (R : Nat → Int) (hR : ∀ j, 0 ≤ R j ∧ R j ≤ 255) (t0 t1 t2 t3 t4 t5 f0 f1 f2 f3 f4 f5 kd : Int) : Env := envR [.int .u8 t0, .int .u8 t1, .int .u8 t2, .int .u8 t3, .int .u8 t4, .int .u8 t5, .int .u8 f0, .int .u8 f1, .int .u8 f2, .int .u8 f3, .int .u8 f4, .int .u8 f5, .int .i64 kd, .int .u64 kd, .int .u64 (kd / 256), .int .u8 (kd / 256), .int .u8 (kd % 256), .int .i64 (kd / 256)] R hR
abbrev eeNilB (R : Nat → Int) (t0 t1 t2 t3 t4 t5 f0 f1 f2 f3 f4 f5 kd : Int) : Prop := (1536 ≤ kd ∧ kd ≤ 65535) ∧ (0 ≤ t0 ∧ t0 ≤ 255) ∧ (0 ≤ t1 ∧ t1 ≤ 255) ∧ (0 ≤ t2 ∧ t2 ≤ 255) ∧ (0 ≤ t3 ∧ t3 ≤ 255) ∧ (0 ≤ t4 ∧ t4 ≤ 255) ∧ (0 ≤ t5 ∧ t5 ≤ 255) ∧ (0 ≤ f0 ∧ f0 ≤ 255) ∧ (0 ≤ f1 ∧ f1 ≤ 255) ∧ (0 ≤ f2 ∧ f2 ≤ 255) ∧ (0 ≤ f3 ∧ f3 ≤ 255) ∧ (0 ≤ f4 ∧ f4 ≤ 255) ∧ (0 ≤ f5 ∧ f5 ≤ 255) ∧ ((-9223372036854775808) ≤ kd ∧ kd ≤ 9223372036854775807)
def eeNils0 : Ent := .conv .u64 (.chan (some 12)) (.chan (some 13))
theorem eeNils0_ok (R : Nat → Int) (hR : ∀ j, 0 ≤ R j ∧ R j ≤ 255) (t0 t1 t2 t3 t4 t5 f0 f1 f2 f3 f4 f5 kd : Int) (hb : eeNilB R t0 t1 t2 t3 t4 t5 f0 f1 f2 f3 f4 f5 kd) : @EntOK (eeNilV R hR t0 t1 t2 t3 t4 t5 f0 f1 f2 f3 f4 f5 kd) Try.prog eeNils0 := by
  letI : Env := eeNilV R hR t0 t1 t2 t3 t4 t5 f0 f1 f2 f3 f4 f5 kd
  exact entConvV (k := .u64) (l := .i64) (a := kd) (c := kd) rfl rfl (by rw [IntWalk.u64_in _ (by first | omega | (simp only [sumVal, oct.sumF, oct.F, oct.ws]; omega))])
def eeNils1 : Ent := .bin .shr (.chan (some 13)) (.int .u64 8) (.chan (some 14))
theorem eeNils1_ok (R : Nat → Int) (hR : ∀ j, 0 ≤ R j ∧ R j ≤ 255) (t0 t1 t2 t3 t4 t5 f0 f1 f2 f3 f4 f5 kd : Int) (hb : eeNilB R t0 t1 t2 t3 t4 t5 f0 f1 f2 f3 f4 f5 kd) : @EntOK (eeNilV R hR t0 t1 t2 t3 t4 t5 f0 f1 f2 f3 f4 f5 kd) Try.prog eeNils1 := by
  letI : Env := eeNilV R hR t0 t1 t2 t3 t4 t5 f0 f1 f2 f3 f4 f5 kd
  exact entShrV (k := .u64) (l := .u64) (a := kd) (c := (kd / 256)) (s := 8) rfl rfl rfl (by decide) (by exact fdiv_nat _ 256)
def eeNils2 : Ent := .conv .u8 (.chan (some 14)) (.chan (some 15))
theorem eeNils2_ok (R : Nat → Int) (hR : ∀ j, 0 ≤ R j ∧ R j ≤ 255) (t0 t1 t2 t3 t4 t5 f0 f1 f2 f3 f4 f5 kd : Int) (hb : eeNilB R t0 t1 t2 t3 t4 t5 f0 f1 f2 f3 f4 f5 kd) : @EntOK (eeNilV R hR t0 t1 t2 t3 t4 t5 f0 f1 f2 f3 f4 f5 kd) Try.prog eeNils2 := by
  letI : Env := eeNilV R hR t0 t1 t2 t3 t4 t5 f0 f1 f2 f3 f4 f5 kd
  exact entConvV (k := .u8) (l := .u64) (a := (kd / 256)) (c := (kd / 256)) rfl rfl (by rw [IntWalk.u8_in _ (by first | omega | (simp only [sumVal, oct.sumF, oct.F, oct.ws]; omega))])
def eeNils3 : Ent := .conv .u8 (.chan (some 13)) (.chan (some 16))
theorem eeNils3_ok (R : Nat → Int) (hR : ∀ j, 0 ≤ R j ∧ R j ≤ 255) (t0 t1 t2 t3 t4 t5 f0 f1 f2 f3 f4 f5 kd : Int) (hb : eeNilB R t0 t1 t2 t3 t4 t5 f0 f1 f2 f3 f4 f5 kd) : @EntOK (eeNilV R hR t0 t1 t2 t3 t4 t5 f0 f1 f2 f3 f4 f5 kd) Try.prog eeNils3 := by
  letI : Env := eeNilV R hR t0 t1 t2 t3 t4 t5 f0 f1 f2 f3 f4 f5 kd
  exact entConvV (k := .u8) (l := .u64) (a := kd) (c := (kd % 256)) rfl rfl (by rw [IntKind.wrap_u8])
def eeNils4 : Ent := .bin .shr (.chan (some 12)) (.int .u64 8) (.chan (some 17))
theorem eeNils4_ok (R : Nat → Int) (hR : ∀ j, 0 ≤ R j ∧ R j ≤ 255) (t0 t1 t2 t3 t4 t5 f0 f1 f2 f3 f4 f5 kd : Int) (hb : eeNilB R t0 t1 t2 t3 t4 t5 f0 f1 f2 f3 f4 f5 kd) : @EntOK (eeNilV R hR t0 t1 t2 t3 t4 t5 f0 f1 f2 f3 f4 f5 kd) Try.prog eeNils4 := by
  letI : Env := eeNilV R hR t0 t1 t2 t3 t4 t5 f0 f1 f2 f3 f4 f5 kd
  exact entShrV (k := .i64) (l := .u64) (a := kd) (c := (kd / 256)) (s := 8) rfl rfl rfl (by decide) (by exact fdiv_nat _ 256)
def eeNils5 : Ent := .conv .u8 (.chan (some 17)) (.chan (some 15))
theorem eeNils5_ok (R : Nat → Int) (hR : ∀ j, 0 ≤ R j ∧ R j ≤ 255) (t0 t1 t2 t3 t4 t5 f0 f1 f2 f3 f4 f5 kd : Int) (hb : eeNilB R t0 t1 t2 t3 t4 t5 f0 f1 f2 f3 f4 f5 kd) : @EntOK (eeNilV R hR t0 t1 t2 t3 t4 t5 f0 f1 f2 f3 f4 f5 kd) Try.prog eeNils5 := by
  letI : Env := eeNilV R hR t0 t1 t2 t3 t4 t5 f0 f1 f2 f3 f4 f5 kd
  exact entConvV (k := .u8) (l := .i64) (a := (kd / 256)) (c := (kd / 256)) rfl rfl (by rw [IntWalk.u8_in _ (by first | omega | (simp only [sumVal, oct.sumF, oct.F, oct.ws]; omega))])
def eeNils6 : Ent := .conv .u8 (.chan (some 12)) (.chan (some 16))
theorem eeNils6_ok (R : Nat → Int) (hR : ∀ j, 0 ≤ R j ∧ R j ≤ 255) (t0 t1 t2 t3 t4 t5 f0 f1 f2 f3 f4 f5 kd : Int) (hb : eeNilB R t0 t1 t2 t3 t4 t5 f0 f1 f2 f3 f4 f5 kd) : @EntOK (eeNilV R hR t0 t1 t2 t3 t4 t5 f0 f1 f2 f3 f4 f5 kd) Try.prog eeNils6 := by
  letI : Env := eeNilV R hR t0 t1 t2 t3 t4 t5 f0 f1 f2 f3 f4 f5 kd
  exact entConvV (k := .u8) (l := .i64) (a := kd) (c := (kd % 256)) rfl rfl (by rw [IntKind.wrap_u8])
def eeNils7 : Ent := .bin .neq (.chan (some 0)) (.chan (some 0)) (.bool false)
theorem eeNils7_ok (R : Nat → Int) (hR : ∀ j, 0 ≤ R j ∧ R j ≤ 255) (t0 t1 t2 t3 t4 t5 f0 f1 f2 f3 f4 f5 kd : Int) (hb : eeNilB R t0 t1 t2 t3 t4 t5 f0 f1 f2 f3 f4 f5 kd) : @EntOK (eeNilV R hR t0 t1 t2 t3 t4 t5 f0 f1 f2 f3 f4 f5 kd) Try.prog eeNils7 := by
  letI : Env := eeNilV R hR t0 t1 t2 t3 t4 t5 f0 f1 f2 f3 f4 f5 kd
  exact entCmp (k := .u8) (a := t0) (b := t0) rfl rfl (by show some ((t0 : Int) != t0) = some false; rw [bne_eq_false_iff_eq.2 (by first | omega | (simp only [sumVal, oct.sumF, oct.F, oct.ws]; omega))])
def eeNils8 : Ent := .bin .neq (.chan (some 1)) (.chan (some 1)) (.bool false)
theorem eeNils8_ok (R : Nat → Int) (hR : ∀ j, 0 ≤ R j ∧ R j ≤ 255) (t0 t1 t2 t3 t4 t5 f0 f1 f2 f3 f4 f5 kd : Int) (hb : eeNilB R t0 t1 t2 t3 t4 t5 f0 f1 f2 f3 f4 f5 kd) : @EntOK (eeNilV R hR t0 t1 t2 t3 t4 t5 f0 f1 f2 f3 f4 f5 kd) Try.prog eeNils8 := by
  letI : Env := eeNilV R hR t0 t1 t2 t3 t4 t5 f0 f1 f2 f3 f4 f5 kd
  exact entCmp (k := .u8) (a := t1) (b := t1) rfl rfl (by show some ((t1 : Int) != t1) = some false; rw [bne_eq_false_iff_eq.2 (by first | omega | (simp only [sumVal, oct.sumF, oct.F, oct.ws]; omega))])
def eeNils9 : Ent := .bin .neq (.chan (some 2)) (.chan (some 2)) (.bool false)
theorem eeNils9_ok (R : Nat → Int) (hR : ∀ j, 0 ≤ R j ∧ R j ≤ 255) (t0 t1 t2 t3 t4 t5 f0 f1 f2 f3 f4 f5 kd : Int) (hb : eeNilB R t0 t1 t2 t3 t4 t5 f0 f1 f2 f3 f4 f5 kd) : @EntOK (eeNilV R hR t0 t1 t2 t3 t4 t5 f0 f1 f2 f3 f4 f5 kd) Try.prog eeNils9 := by
  letI : Env := eeNilV R hR t0 t1 t2 t3 t4 t5 f0 f1 f2 f3 f4 f5 kd
  exact entCmp (k := .u8) (a := t2) (b := t2) rfl rfl (by show some ((t2 : Int) != t2) = some false; rw [bne_eq_false_iff_eq.2 (by first | omega | (simp only [sumVal, oct.sumF, oct.F, oct.ws]; omega))])
def eeNils10 : Ent := .bin .neq (.chan (some 3)) (.chan (some 3)) (.bool false)
theorem eeNils10_ok (R : Nat → Int) (hR : ∀ j, 0 ≤ R j ∧ R j ≤ 255) (t0 t1 t2 t3 t4 t5 f0 f1 f2 f3 f4 f5 kd : Int) (hb : eeNilB R t0 t1 t2 t3 t4 t5 f0 f1 f2 f3 f4 f5 kd) : @EntOK (eeNilV R hR t0 t1 t2 t3 t4 t5 f0 f1 f2 f3 f4 f5 kd) Try.prog eeNils10 := by
  letI : Env := eeNilV R hR t0 t1 t2 t3 t4 t5 f0 f1 f2 f3 f4 f5 kd
  exact entCmp (k := .u8) (a := t3) (b := t3) rfl rfl (by show some ((t3 : Int) != t3) = some false; rw [bne_eq_false_iff_eq.2 (by first | omega | (simp only [sumVal, oct.sumF, oct.F, oct.ws]; omega))])
def eeNils11 : Ent := .bin .neq (.chan (some 4)) (.chan (some 4)) (.bool false)
theorem eeNils11_ok (R : Nat → Int) (hR : ∀ j, 0 ≤ R j ∧ R j ≤ 255) (t0 t1 t2 t3 t4 t5 f0 f1 f2 f3 f4 f5 kd : Int) (hb : eeNilB R t0 t1 t2 t3 t4 t5 f0 f1 f2 f3 f4 f5 kd) : @EntOK (eeNilV R hR t0 t1 t2 t3 t4 t5 f0 f1 f2 f3 f4 f5 kd) Try.prog eeNils11 := by
  letI : Env := eeNilV R hR t0 t1 t2 t3 t4 t5 f0 f1 f2 f3 f4 f5 kd
  exact entCmp (k := .u8) (a := t4) (b := t4) rfl rfl (by show some ((t4 : Int) != t4) = some false; rw [bne_eq_false_iff_eq.2 (by first | omega | (simp only [sumVal, oct.sumF, oct.F, oct.ws]; omega))])
def eeNils12 : Ent := .bin .neq (.chan (some 5)) (.chan (some 5)) (.bool false)
theorem eeNils12_ok (R : Nat → Int) (hR : ∀ j, 0 ≤ R j ∧ R j ≤ 255) (t0 t1 t2 t3 t4 t5 f0 f1 f2 f3 f4 f5 kd : Int) (hb : eeNilB R t0 t1 t2 t3 t4 t5 f0 f1 f2 f3 f4 f5 kd) : @EntOK (eeNilV R hR t0 t1 t2 t3 t4 t5 f0 f1 f2 f3 f4 f5 kd) Try.prog eeNils12 := by
  letI : Env := eeNilV R hR t0 t1 t2 t3 t4 t5 f0 f1 f2 f3 f4 f5 kd
  exact entCmp (k := .u8) (a := t5) (b := t5) rfl rfl (by show some ((t5 : Int) != t5) = some false; rw [bne_eq_false_iff_eq.2 (by first | omega | (simp only [sumVal, oct.sumF, oct.F, oct.ws]; omega))])
def eeNils13 : Ent := .bin .neq (.chan (some 6)) (.chan (some 6)) (.bool false)
theorem eeNils13_ok (R : Nat → Int) (hR : ∀ j, 0 ≤ R j ∧ R j ≤ 255) (t0 t1 t2 t3 t4 t5 f0 f1 f2 f3 f4 f5 kd : Int) (hb : eeNilB R t0 t1 t2 t3 t4 t5 f0 f1 f2 f3 f4 f5 kd) : @EntOK (eeNilV R hR t0 t1 t2 t3 t4 t5 f0 f1 f2 f3 f4 f5 kd) Try.prog eeNils13 := by
  letI : Env := eeNilV R hR t0 t1 t2 t3 t4 t5 f0 f1 f2 f3 f4 f5 kd
  exact entCmp (k := .u8) (a := f0) (b := f0) rfl rfl (by show some ((f0 : Int) != f0) = some false; rw [bne_eq_false_iff_eq.2 (by first | omega | (simp only [sumVal, oct.sumF, oct.F, oct.ws]; omega))])
def eeNils14 : Ent := .bin .neq (.chan (some 7)) (.chan (some 7)) (.bool false)
theorem eeNils14_ok (R : Nat → Int) (hR : ∀ j, 0 ≤ R j ∧ R j ≤ 255) (t0 t1 t2 t3 t4 t5 f0 f1 f2 f3 f4 f5 kd : Int) (hb : eeNilB R t0 t1 t2 t3 t4 t5 f0 f1 f2 f3 f4 f5 kd) : @EntOK (eeNilV R hR t0 t1 t2 t3 t4 t5 f0 f1 f2 f3 f4 f5 kd) Try.prog eeNils14 := by
  letI : Env := eeNilV R hR t0 t1 t2 t3 t4 t5 f0 f1 f2 f3 f4 f5 kd
  exact entCmp (k := .u8) (a := f1) (b := f1) rfl rfl (by show some ((f1 : Int) != f1) = some false; rw [bne_eq_false_iff_eq.2 (by first | omega | (simp only [sumVal, oct.sumF, oct.F, oct.ws]; omega))])
def eeNils15 : Ent := .bin .neq (.chan (some 8)) (.chan (some 8)) (.bool false)
theorem eeNils15_ok (R : Nat → Int) (hR : ∀ j, 0 ≤ R j ∧ R j ≤ 255) (t0 t1 t2 t3 t4 t5 f0 f1 f2 f3 f4 f5 kd : Int) (hb : eeNilB R t0 t1 t2 t3 t4 t5 f0 f1 f2 f3 f4 f5 kd) : @EntOK (eeNilV R hR t0 t1 t2 t3 t4 t5 f0 f1 f2 f3 f4 f5 kd) Try.prog eeNils15 := by
  letI : Env := eeNilV R hR t0 t1 t2 t3 t4 t5 f0 f1 f2 f3 f4 f5 kd
  exact entCmp (k := .u8) (a := f2) (b := f2) rfl rfl (by show some ((f2 : Int) != f2) = some false; rw [bne_eq_false_iff_eq.2 (by first | omega | (simp only [sumVal, oct.sumF, oct.F, oct.ws]; omega))])
def eeNils16 : Ent := .bin .neq (.chan (some 9)) (.chan (some 9)) (.bool false)
theorem eeNils16_ok (R : Nat → Int) (hR : ∀ j, 0 ≤ R j ∧ R j ≤ 255) (t0 t1 t2 t3 t4 t5 f0 f1 f2 f3 f4 f5 kd : Int) (hb : eeNilB R t0 t1 t2 t3 t4 t5 f0 f1 f2 f3 f4 f5 kd) : @EntOK (eeNilV R hR t0 t1 t2 t3 t4 t5 f0 f1 f2 f3 f4 f5 kd) Try.prog eeNils16 := by
  letI : Env := eeNilV R hR t0 t1 t2 t3 t4 t5 f0 f1 f2 f3 f4 f5 kd
  exact entCmp (k := .u8) (a := f3) (b := f3) rfl rfl (by show some ((f3 : Int) != f3) = some false; rw [bne_eq_false_iff_eq.2 (by first | omega | (simp only [sumVal, oct.sumF, oct.F, oct.ws]; omega))])
def eeNils17 : Ent := .bin .neq (.chan (some 10)) (.chan (some 10)) (.bool false)
theorem eeNils17_ok (R : Nat → Int) (hR : ∀ j, 0 ≤ R j ∧ R j ≤ 255) (t0 t1 t2 t3 t4 t5 f0 f1 f2 f3 f4 f5 kd : Int) (hb : eeNilB R t0 t1 t2 t3 t4 t5 f0 f1 f2 f3 f4 f5 kd) : @EntOK (eeNilV R hR t0 t1 t2 t3 t4 t5 f0 f1 f2 f3 f4 f5 kd) Try.prog eeNils17 := by
  letI : Env := eeNilV R hR t0 t1 t2 t3 t4 t5 f0 f1 f2 f3 f4 f5 kd
  exact entCmp (k := .u8) (a := f4) (b := f4) rfl rfl (by show some ((f4 : Int) != f4) = some false; rw [bne_eq_false_iff_eq.2 (by first | omega | (simp only [sumVal, oct.sumF, oct.F, oct.ws]; omega))])
def eeNils18 : Ent := .bin .neq (.chan (some 11)) (.chan (some 11)) (.bool false)
theorem eeNils18_ok (R : Nat → Int) (hR : ∀ j, 0 ≤ R j ∧ R j ≤ 255) (t0 t1 t2 t3 t4 t5 f0 f1 f2 f3 f4 f5 kd : Int) (hb : eeNilB R t0 t1 t2 t3 t4 t5 f0 f1 f2 f3 f4 f5 kd) : @EntOK (eeNilV R hR t0 t1 t2 t3 t4 t5 f0 f1 f2 f3 f4 f5 kd) Try.prog eeNils18 := by
  letI : Env := eeNilV R hR t0 t1 t2 t3 t4 t5 f0 f1 f2 f3 f4 f5 kd
  exact entCmp (k := .u8) (a := f5) (b := f5) rfl rfl (by show some ((f5 : Int) != f5) = some false; rw [bne_eq_false_iff_eq.2 (by first | omega | (simp only [sumVal, oct.sumF, oct.F, oct.ws]; omega))])
def eeNils19 : Ent := .bin .neq (.chan (some 15)) (.chan (some 15)) (.bool false)
theorem eeNils19_ok (R : Nat → Int) (hR : ∀ j, 0 ≤ R j ∧ R j ≤ 255) (t0 t1 t2 t3 t4 t5 f0 f1 f2 f3 f4 f5 kd : Int) (hb : eeNilB R t0 t1 t2 t3 t4 t5 f0 f1 f2 f3 f4 f5 kd) : @EntOK (eeNilV R hR t0 t1 t2 t3 t4 t5 f0 f1 f2 f3 f4 f5 kd) Try.prog eeNils19 := by
  letI : Env := eeNilV R hR t0 t1 t2 t3 t4 t5 f0 f1 f2 f3 f4 f5 kd
  exact entCmp (k := .u8) (a := (kd / 256)) (b := (kd / 256)) rfl rfl (by show some (((kd / 256) : Int) != (kd / 256)) = some false; rw [bne_eq_false_iff_eq.2 (by first | omega | (simp only [sumVal, oct.sumF, oct.F, oct.ws]; omega))])
def eeNils20 : Ent := .bin .neq (.chan (some 16)) (.chan (some 16)) (.bool false)
theorem eeNils20_ok (R : Nat → Int) (hR : ∀ j, 0 ≤ R j ∧ R j ≤ 255) (t0 t1 t2 t3 t4 t5 f0 f1 f2 f3 f4 f5 kd : Int) (hb : eeNilB R t0 t1 t2 t3 t4 t5 f0 f1 f2 f3 f4 f5 kd) : @EntOK (eeNilV R hR t0 t1 t2 t3 t4 t5 f0 f1 f2 f3 f4 f5 kd) Try.prog eeNils20 := by
  letI : Env := eeNilV R hR t0 t1 t2 t3 t4 t5 f0 f1 f2 f3 f4 f5 kd
  exact entCmp (k := .u8) (a := (kd % 256)) (b := (kd % 256)) rfl rfl (by show some (((kd % 256) : Int) != (kd % 256)) = some false; rw [bne_eq_false_iff_eq.2 (by first | omega | (simp only [sumVal, oct.sumF, oct.F, oct.ws]; omega))])
abbrev eeNilG : List Ent := [eeNils0, eeNils1, eeNils2, eeNils3, eeNils4, eeNils5, eeNils6, eeNils7, eeNils8, eeNils9, eeNils10, eeNils11, eeNils12, eeNils13, eeNils14, eeNils15, eeNils16, eeNils17, eeNils18, eeNils19, eeNils20]
theorem eeNilG_ok (R : Nat → Int) (hR : ∀ j, 0 ≤ R j ∧ R j ≤ 255) (t0 t1 t2 t3 t4 t5 f0 f1 f2 f3 f4 f5 kd : Int) (hb : eeNilB R t0 t1 t2 t3 t4 t5 f0 f1 f2 f3 f4 f5 kd) : ∀ e ∈ eeNilG, @EntOK (eeNilV R hR t0 t1 t2 t3 t4 t5 f0 f1 f2 f3 f4 f5 kd) Try.prog e := by
  letI : Env := eeNilV R hR t0 t1 t2 t3 t4 t5 f0 f1 f2 f3 f4 f5 kd
  exact (ac (eeNils0_ok R hR t0 t1 t2 t3 t4 t5 f0 f1 f2 f3 f4 f5 kd hb) (ac (eeNils1_ok R hR t0 t1 t2 t3 t4 t5 f0 f1 f2 f3 f4 f5 kd hb) (ac (eeNils2_ok R hR t0 t1 t2 t3 t4 t5 f0 f1 f2 f3 f4 f5 kd hb) (ac (eeNils3_ok R hR t0 t1 t2 t3 t4 t5 f0 f1 f2 f3 f4 f5 kd hb) (ac (eeNils4_ok R hR t0 t1 t2 t3 t4 t5 f0 f1 f2 f3 f4 f5 kd hb) (ac (eeNils5_ok R hR t0 t1 t2 t3 t4 t5 f0 f1 f2 f3 f4 f5 kd hb) (ac (eeNils6_ok R hR t0 t1 t2 t3 t4 t5 f0 f1 f2 f3 f4 f5 kd hb) (ac (eeNils7_ok R hR t0 t1 t2 t3 t4 t5 f0 f1 f2 f3 f4 f5 kd hb) (ac (eeNils8_ok R hR t0 t1 t2 t3 t4 t5 f0 f1 f2 f3 f4 f5 kd hb) (ac (eeNils9_ok R hR t0 t1 t2 t3 t4 t5 f0 f1 f2 f3 f4 f5 kd hb) (ac (eeNils10_ok R hR t0 t1 t2 t3 t4 t5 f0 f1 f2 f3 f4 f5 kd hb) (ac (eeNils11_ok R hR t0 t1 t2 t3 t4 t5 f0 f1 f2 f3 f4 f5 kd hb) (ac (eeNils12_ok R hR t0 t1 t2 t3 t4 t5 f0 f1 f2 f3 f4 f5 kd hb) (ac (eeNils13_ok R hR t0 t1 t2 t3 t4 t5 f0 f1 f2 f3 f4 f5 kd hb) (ac (eeNils14_ok R hR t0 t1 t2 t3 t4 t5 f0 f1 f2 f3 f4 f5 kd hb) (ac (eeNils15_ok R hR t0 t1 t2 t3 t4 t5 f0 f1 f2 f3 f4 f5 kd hb) (ac (eeNils16_ok R hR t0 t1 t2 t3 t4 t5 f0 f1 f2 f3 f4 f5 kd hb) (ac (eeNils17_ok R hR t0 t1 t2 t3 t4 t5 f0 f1 f2 f3 f4 f5 kd hb) (ac (eeNils18_ok R hR t0 t1 t2 t3 t4 t5 f0 f1 f2 f3 f4 f5 kd hb) (ac (eeNils19_ok R hR t0 t1 t2 t3 t4 t5 f0 f1 f2 f3 f4 f5 kd hb) (ac (eeNils20_ok R hR t0 t1 t2 t3 t4 t5 f0 f1 f2 f3 f4 f5 kd hb) allENil)))))))))))))))))))))
abbrev eeNil0K (R : Nat → Int) (t0 t1 t2 t3 t4 t5 f0 f1 f2 f3 f4 f5 kd : Int) : Prop := eeNilB R t0 t1 t2 t3 t4 t5 f0 f1 f2 f3 f4 f5 kd ∧ True
def eeNil0e0 : Ent := .bin .lss (.chan (some 12)) (.int .i64 1536) (.bool false)
theorem eeNil0e0_ok (R : Nat → Int) (hR : ∀ j, 0 ≤ R j ∧ R j ≤ 255) (t0 t1 t2 t3 t4 t5 f0 f1 f2 f3 f4 f5 kd : Int) (hk : eeNil0K R t0 t1 t2 t3 t4 t5 f0 f1 f2 f3 f4 f5 kd) : @EntOK (eeNilV R hR t0 t1 t2 t3 t4 t5 f0 f1 f2 f3 f4 f5 kd) Try.prog eeNil0e0 := by
  letI : Env := (eeNilV R hR t0 t1 t2 t3 t4 t5 f0 f1 f2 f3 f4 f5 kd)
  obtain ⟨hb, _⟩ := hk; exact entCmp (k := .i64) (a := kd) (b := 1536) rfl rfl (by show some (decide ((kd : Int) < 1536)) = some false; rw [decide_eq_false (by first | omega | (simp only [sumVal, oct.sumF, oct.F, oct.ws]; omega))])
def eeNil0e1 : Ent := .bin .gtr (.chan (some 12)) (.int .i64 65535) (.bool false)
theorem eeNil0e1_ok (R : Nat → Int) (hR : ∀ j, 0 ≤ R j ∧ R j ≤ 255) (t0 t1 t2 t3 t4 t5 f0 f1 f2 f3 f4 f5 kd : Int) (hk : eeNil0K R t0 t1 t2 t3 t4 t5 f0 f1 f2 f3 f4 f5 kd) : @EntOK (eeNilV R hR t0 t1 t2 t3 t4 t5 f0 f1 f2 f3 f4 f5 kd) Try.prog eeNil0e1 := by
  letI : Env := (eeNilV R hR t0 t1 t2 t3 t4 t5 f0 f1 f2 f3 f4 f5 kd)
  obtain ⟨hb, _⟩ := hk; exact entCmp (k := .i64) (a := kd) (b := 65535) rfl rfl (by show some (decide ((kd : Int) > 65535)) = some false; rw [decide_eq_false (by first | omega | (simp only [sumVal, oct.sumF, oct.F, oct.ws]; omega))])
abbrev eeNil0L : List Ent := eeNil0e0 :: eeNil0e1 :: eeNilG
set_option maxHeartbeats 4000000 in
theorem eeNil0 (w : World) (R : Nat → Int) (hR : ∀ j, 0 ≤ R j ∧ R j ≤ 255) (t0 t1 t2 t3 t4 t5 f0 f1 f2 f3 f4 f5 kd : Int) (ht0 : 0 ≤ t0 ∧ t0 ≤ 255) (ht1 : 0 ≤ t1 ∧ t1 ≤ 255) (ht2 : 0 ≤ t2 ∧ t2 ≤ 255) (ht3 : 0 ≤ t3 ∧ t3 ≤ 255) (ht4 : 0 ≤ t4 ∧ t4 ≤ 255) (ht5 : 0 ≤ t5 ∧ t5 ≤ 255) (hf0 : 0 ≤ f0 ∧ f0 ≤ 255) (hf1 : 0 ≤ f1 ∧ f1 ≤ 255) (hf2 : 0 ≤ f2 ∧ f2 ≤ 255) (hf3 : 0 ≤ f3 ∧ f3 ≤ 255) (hf4 : 0 ≤ f4 ∧ f4 ≤ 255) (hf5 : 0 ≤ f5 ∧ f5 ≤ 255) (hkd : (-9223372036854775808) ≤ kd ∧ kd ≤ 9223372036854775807) (hgk : 1536 ≤ kd ∧ kd ≤ 65535)  : Calls Try.prog 3 #[.agg #[.int .u8 t0, .int .u8 t1, .int .u8 t2, .int .u8 t3, .int .u8 t4, .int .u8 t5, .int .u8 f0, .int .u8 f1, .int .u8 f2, .int .u8 f3, .int .u8 f4, .int .u8 f5, .int .i64 kd, .slice none 0 0]] w (fun e w' => e = .returned (.bool true) ∧ Only [] w w') := by
  letI : Env := (eeNilV R hR t0 t1 t2 t3 t4 t5 f0 f1 f2 f3 f4 f5 kd)
  have hb : eeNilB R t0 t1 t2 t3 t4 t5 f0 f1 f2 f3 f4 f5 kd := ⟨hgk, ht0, ht1, ht2, ht3, ht4, ht5, hf0, hf1, hf2, hf3, hf4, hf5, hkd⟩
  have hk : eeNil0K R t0 t1 t2 t3 t4 t5 f0 f1 f2 f3 f4 f5 kd := ⟨hb, trivial⟩
  have hents : ∀ e ∈ (eeNil0L : List Ent), EntOK Try.prog e := (ac (eeNil0e0_ok R hR t0 t1 t2 t3 t4 t5 f0 f1 f2 f3 f4 f5 kd hk) (ac (eeNil0e1_ok R hR t0 t1 t2 t3 t4 t5 f0 f1 f2 f3 f4 f5 kd hk) (eeNilG_ok R hR t0 t1 t2 t3 t4 t5 f0 f1 f2 f3 f4 f5 kd hb)))
  have hsp : SpOK Try.prog (spKnown 15) := (spKnown_ok knownBody known)
  refine lawR (tab := tabG Try.prog eeNil0L) (sp := (spKnown 15)) hsp (tabG_ok hents) (f := 300) (args := [.agg #[.chan (some 0), .chan (some 1), .chan (some 2), .chan (some 3), .chan (some 4), .chan (some 5), .chan (some 6), .chan (some 7), .chan (some 8), .chan (some 9), .chan (some 10), .chan (some 11), .chan (some 12), .slice none 0 0]]) (args' := [.agg #[.int .u8 t0, .int .u8 t1, .int .u8 t2, .int .u8 t3, .int .u8 t4, .int .u8 t5, .int .u8 f0, .int .u8 f1, .int .u8 f2, .int .u8 f3, .int .u8 f4, .int .u8 f5, .int .i64 kd, .slice none 0 0]]) (c0 := 0) (h0 := .lf) (β0 := fun _ => none) (w := w) (by kernel_rfl) (Sim.nothing Try.prog w.heap.size w) (fun i hi => ?_) ?_
  · rfl
  · exact (PW.cons (PW.agg (PW.cons (.opq 0 rfl (fun b h => by cases h)) (PW.cons (.opq 1 rfl (fun b h => by cases h)) (PW.cons (.opq 2 rfl (fun b h => by cases h)) (PW.cons (.opq 3 rfl (fun b h => by cases h)) (PW.cons (.opq 4 rfl (fun b h => by cases h)) (PW.cons (.opq 5 rfl (fun b h => by cases h)) (PW.cons (.opq 6 rfl (fun b h => by cases h)) (PW.cons (.opq 7 rfl (fun b h => by cases h)) (PW.cons (.opq 8 rfl (fun b h => by cases h)) (PW.cons (.opq 9 rfl (fun b h => by cases h)) (PW.cons (.opq 10 rfl (fun b h => by cases h)) (PW.cons (.opq 11 rfl (fun b h => by cases h)) (PW.cons (.opq 12 rfl (fun b h => by cases h)) (PW.cons (.nils 0 0) (PW.nil _)))))))))))))))) (PW.nil _))
theorem EtherEncodesNil (w : World) (R : Nat → Int) (hR : ∀ j, 0 ≤ R j ∧ R j ≤ 255) (t0 t1 t2 t3 t4 t5 f0 f1 f2 f3 f4 f5 kd : Int) (ht0 : 0 ≤ t0 ∧ t0 ≤ 255) (ht1 : 0 ≤ t1 ∧ t1 ≤ 255) (ht2 : 0 ≤ t2 ∧ t2 ≤ 255) (ht3 : 0 ≤ t3 ∧ t3 ≤ 255) (ht4 : 0 ≤ t4 ∧ t4 ≤ 255) (ht5 : 0 ≤ t5 ∧ t5 ≤ 255) (hf0 : 0 ≤ f0 ∧ f0 ≤ 255) (hf1 : 0 ≤ f1 ∧ f1 ≤ 255) (hf2 : 0 ≤ f2 ∧ f2 ≤ 255) (hf3 : 0 ≤ f3 ∧ f3 ≤ 255) (hf4 : 0 ≤ f4 ∧ f4 ≤ 255) (hf5 : 0 ≤ f5 ∧ f5 ≤ 255) (hkd : (-9223372036854775808) ≤ kd ∧ kd ≤ 9223372036854775807) (hgk : 1536 ≤ kd ∧ kd ≤ 65535) : Calls Try.prog 3 #[.agg #[.int .u8 t0, .int .u8 t1, .int .u8 t2, .int .u8 t3, .int .u8 t4, .int .u8 t5, .int .u8 f0, .int .u8 f1, .int .u8 f2, .int .u8 f3, .int .u8 f4, .int .u8 f5, .int .i64 kd, .slice none 0 0]] w (fun e w' => e = .returned (.bool true) ∧ Only [] w w') := by
  exact eeNil0 w R hR t0 t1 t2 t3 t4 t5 f0 f1 f2 f3 f4 f5 kd ht0 ht1 ht2 ht3 ht4 ht5 hf0 hf1 hf2 hf3 hf4 hf5 hkd hgk 
abbrev eeNilBadV (R : Nat → Int) (hR : ∀ j, 0 ≤ R j ∧ R j ≤ 255) (t0 t1 t2 t3 t4 t5 f0 f1 f2 f3 f4 f5 kd : Int) : Env := envR [.int .u8 t0, .int .u8 t1, .int .u8 t2, .int .u8 t3, .int .u8 t4, .int .u8 t5, .int .u8 f0, .int .u8 f1, .int .u8 f2, .int .u8 f3, .int .u8 f4, .int .u8 f5, .int .i64 kd] R hR
abbrev eeNilBadB (R : Nat → Int) (t0 t1 t2 t3 t4 t5 f0 f1 f2 f3 f4 f5 kd : Int) : Prop := (kd < 1536 ∨ 65535 < kd) ∧ (0 ≤ t0 ∧ t0 ≤ 255) ∧ (0 ≤ t1 ∧ t1 ≤ 255) ∧ (0 ≤ t2 ∧ t2 ≤ 255) ∧ (0 ≤ t3 ∧ t3 ≤ 255) ∧ (0 ≤ t4 ∧ t4 ≤ 255) ∧ (0 ≤ t5 ∧ t5 ≤ 255) ∧ (0 ≤ f0 ∧ f0 ≤ 255) ∧ (0 ≤ f1 ∧ f1 ≤ 255) ∧ (0 ≤ f2 ∧ f2 ≤ 255) ∧ (0 ≤ f3 ∧ f3 ≤ 255) ∧ (0 ≤ f4 ∧ f4 ≤ 255) ∧ (0 ≤ f5 ∧ f5 ≤ 255) ∧ ((-9223372036854775808) ≤ kd ∧ kd ≤ 9223372036854775807)
def eeNilBads0 : Ent := .bin .lss (.chan (some 12)) (.int .i64 1536) (.bool true)
theorem eeNilBads0_ok (R : Nat → Int) (hR : ∀ j, 0 ≤ R j ∧ R j ≤ 255) (t0 t1 t2 t3 t4 t5 f0 f1 f2 f3 f4 f5 kd : Int) (hb : eeNilBadB R t0 t1 t2 t3 t4 t5 f0 f1 f2 f3 f4 f5 kd) (hc : kd < 1536) : @EntOK (eeNilBadV R hR t0 t1 t2 t3 t4 t5 f0 f1 f2 f3 f4 f5 kd) Try.prog eeNilBads0 := by
  letI : Env := eeNilBadV R hR t0 t1 t2 t3 t4 t5 f0 f1 f2 f3 f4 f5 kd
  exact entCmp (k := .i64) (a := kd) (b := 1536) rfl rfl (by show some (decide ((kd : Int) < 1536)) = some true; rw [decide_eq_true (by first | omega | (simp only [sumVal, oct.sumF, oct.F, oct.ws]; omega))])
def eeNilBads1 : Ent := .bin .lss (.chan (some 12)) (.int .i64 1536) (.bool false)
theorem eeNilBads1_ok (R : Nat → Int) (hR : ∀ j, 0 ≤ R j ∧ R j ≤ 255) (t0 t1 t2 t3 t4 t5 f0 f1 f2 f3 f4 f5 kd : Int) (hb : eeNilBadB R t0 t1 t2 t3 t4 t5 f0 f1 f2 f3 f4 f5 kd) (hc : ¬ (kd < 1536)) : @EntOK (eeNilBadV R hR t0 t1 t2 t3 t4 t5 f0 f1 f2 f3 f4 f5 kd) Try.prog eeNilBads1 := by
  letI : Env := eeNilBadV R hR t0 t1 t2 t3 t4 t5 f0 f1 f2 f3 f4 f5 kd
  exact entCmp (k := .i64) (a := kd) (b := 1536) rfl rfl (by show some (decide ((kd : Int) < 1536)) = some false; rw [decide_eq_false (by first | omega | (simp only [sumVal, oct.sumF, oct.F, oct.ws]; omega))])
def eeNilBads2 : Ent := .bin .gtr (.chan (some 12)) (.int .i64 65535) (.bool true)
theorem eeNilBads2_ok (R : Nat → Int) (hR : ∀ j, 0 ≤ R j ∧ R j ≤ 255) (t0 t1 t2 t3 t4 t5 f0 f1 f2 f3 f4 f5 kd : Int) (hb : eeNilBadB R t0 t1 t2 t3 t4 t5 f0 f1 f2 f3 f4 f5 kd) (hc : kd > 65535) : @EntOK (eeNilBadV R hR t0 t1 t2 t3 t4 t5 f0 f1 f2 f3 f4 f5 kd) Try.prog eeNilBads2 := by
  letI : Env := eeNilBadV R hR t0 t1 t2 t3 t4 t5 f0 f1 f2 f3 f4 f5 kd
  exact entCmp (k := .i64) (a := kd) (b := 65535) rfl rfl (by show some (decide ((kd : Int) > 65535)) = some true; rw [decide_eq_true (by first | omega | (simp only [sumVal, oct.sumF, oct.F, oct.ws]; omega))])
end Go.Proofs.Ytiihhngddmboaaa.ev
