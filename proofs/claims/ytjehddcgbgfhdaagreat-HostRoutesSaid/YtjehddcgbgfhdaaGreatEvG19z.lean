/-
  HostRoutes, by a run of each path over an address that is not looked into. Conditions: none.
-/
import Derived.Test.YtjehddcgbgfhdaaGreatEvG19ra
import Derived.Test.YtjehddcgbgfhdaaGreatEvG19rb
import Derived.Test.YtjehddcgbgfhdaaGreatEvG19rc
import Derived.Test.YtjehddcgbgfhdaaGreatEvG19rd
import Derived.Test.YtjehddcgbgfhdaaGreatEvG19za
import Derived.Test.YtjehddcgbgfhdaaGreatEvG19zb
import Derived.Test.YtjehddcgbgfhdaaGreatEvG19zc
import Derived.KernelRfl
import Derived.DeepKeys
namespace Go.Proofs.YtjehddcgbgfhdaaGreat.ev
set_option maxRecDepth 1000000
set_option maxHeartbeats 4000000
set_option linter.unusedVariables false
set_option linter.unusedSimpArgs false
theorem hrNo (to : Int) (ht0 : 0 ≤ to) (ht1 : to ≤ 4294967295) (e1 : to / 65536 = 2560) (e4 : to % 65536 < 16384 ∨ 32768 ≤ to % 65536) (e5 : (sumVal true [10, 0, 0, 1, (to / 16777216), ((to / 65536) % 256), ((to / 256) % 256), (to % 256), 0, 17, 0, 9, 0, 5, 0, 6, 0, 9, 0, 0, 120]) = 0) : False := by
  have a1 : to / 16777216 = 10 := by omega
  have a2 : to / 65536 % 256 = 0 := by omega
  obtain ⟨l, hl⟩ : ∃ l, l = to % 65536 := ⟨_, rfl⟩
  have a3 : to / 256 % 256 * 256 + to % 256 = l := by omega
  have a4 : 0 ≤ l ∧ l < 65536 := by omega
  rw [← hl] at e4
  obtain ⟨u, hu⟩ : ∃ u, u = to / 256 % 256 := ⟨_, rfl⟩
  obtain ⟨v, hv⟩ : ∃ v, v = to % 256 := ⟨_, rfl⟩
  simp only [sumVal, oct.sumF, oct.F, oct.ws, a1, a2, ← hu, ← hv] at e5
  rw [← hu, ← hv] at a3
  clear hu hv hl e1 a1 a2 ht0 ht1
  omega
theorem hostRoutes_true (w : World) (to : Int) (ht0 : 0 ≤ to) (ht1 : to ≤ 4294967295) : Calls Tryz.prog 7 #[.int .u32 to, .bool true] w (fun e w' => e = .returned (.bool true) ∧ Only [] w w') := by
  by_cases h1 : (to / 256 * 256) = 167772160
  ·
    exact hrt0 w to ht0 ht1 h1
  ·
    by_cases h2 : to ≥ 3758096384
    ·
      exact hrt1 w to ht0 ht1 h1 h2
    ·
      by_cases h3 : (sumVal true [10, 0, 0, 1, (to / 16777216), ((to / 65536) % 256), ((to / 256) % 256), (to % 256), 0, 17, 0, 9, 0, 5, 0, 6, 0, 9, 0, 0, 120]) = 0
      ·
        by_cases h4 : to = 167772161
        ·
          exfalso; first | omega | exact hrNo to ht0 ht1 (by omega) (by omega) (by assumption)
        ·
          by_cases h5 : to = 167772415
          ·
            exfalso; first | omega | exact hrNo to ht0 ht1 (by omega) (by omega) (by assumption)
          ·
            by_cases h6 : ((to / 2147483648) % 2) = 0
            ·
              by_cases h7 : ((to / 1073741824) % 2) = 0
              ·
                by_cases h8 : ((to / 536870912) % 2) = 0
                ·
                  by_cases h9 : ((to / 268435456) % 2) = 0
                  ·
                    by_cases h10 : ((to / 134217728) % 2) = 0
                    ·
                      exact hzt30 w to ht0 ht1 h1 h2 h3 h4 h5 h6 h7 h8 h9 h10
                    ·
                      by_cases h11 : ((to / 134217728) % 2) = 1
                      ·
                        by_cases h12 : ((to / 67108864) % 2) = 0
                        ·
                          by_cases h13 : ((to / 33554432) % 2) = 0
                          ·
                            exact hzt32 w to ht0 ht1 h1 h2 h3 h4 h5 h6 h7 h8 h9 h10 h11 h12 h13
                          ·
                            by_cases h14 : ((to / 33554432) % 2) = 1
                            ·
                              by_cases h15 : ((to / 16777216) % 2) = 0
                              ·
                                by_cases h16 : ((to / 8388608) % 2) = 0
                                ·
                                  by_cases h17 : ((to / 4194304) % 2) = 0
                                  ·
                                    by_cases h18 : ((to / 2097152) % 2) = 0
                                    ·
                                      by_cases h19 : ((to / 1048576) % 2) = 0
                                      ·
                                        by_cases h20 : ((to / 524288) % 2) = 0
                                        ·
                                          by_cases h21 : ((to / 262144) % 2) = 0
                                          ·
                                            by_cases h22 : ((to / 131072) % 2) = 0
                                            ·
                                              by_cases h23 : ((to / 65536) % 2) = 0
                                              ·
                                                by_cases h24 : ((to / 32768) % 2) = 0
                                                ·
                                                  by_cases h25 : ((to / 16384) % 2) = 0
                                                  ·
                                                    exfalso; first | omega | exact hrNo to ht0 ht1 (by omega) (by omega) (by assumption)
                                                  ·
                                                    by_cases h26 : ((to / 16384) % 2) = 1
                                                    ·
                                                      exact hzt42 w to ht0 ht1 h1 h2 h3 h4 h5 h6 h7 h8 h9 h10 h11 h12 h13 h14 h15 h16 h17 h18 h19 h20 h21 h22 h23 h24 h25 h26
                                                    ·
                                                      exfalso; first | omega | exact hrNo to ht0 ht1 (by omega) (by omega) (by assumption)
                                                ·
                                                  exfalso; first | omega | exact hrNo to ht0 ht1 (by omega) (by omega) (by assumption)
                                              ·
                                                by_cases h24 : ((to / 65536) % 2) = 1
                                                ·
                                                  exact hzt41 w to ht0 ht1 h1 h2 h3 h4 h5 h6 h7 h8 h9 h10 h11 h12 h13 h14 h15 h16 h17 h18 h19 h20 h21 h22 h23 h24
                                                ·
                                                  exfalso; first | omega | exact hrNo to ht0 ht1 (by omega) (by omega) (by assumption)
                                            ·
                                              by_cases h23 : ((to / 131072) % 2) = 1
                                              ·
                                                exact hzt40 w to ht0 ht1 h1 h2 h3 h4 h5 h6 h7 h8 h9 h10 h11 h12 h13 h14 h15 h16 h17 h18 h19 h20 h21 h22 h23
                                              ·
                                                exfalso; first | omega | exact hrNo to ht0 ht1 (by omega) (by omega) (by assumption)
                                          ·
                                            by_cases h22 : ((to / 262144) % 2) = 1
                                            ·
                                              exact hzt39 w to ht0 ht1 h1 h2 h3 h4 h5 h6 h7 h8 h9 h10 h11 h12 h13 h14 h15 h16 h17 h18 h19 h20 h21 h22
                                            ·
                                              exfalso; first | omega | exact hrNo to ht0 ht1 (by omega) (by omega) (by assumption)
                                        ·
                                          by_cases h21 : ((to / 524288) % 2) = 1
                                          ·
                                            exact hzt38 w to ht0 ht1 h1 h2 h3 h4 h5 h6 h7 h8 h9 h10 h11 h12 h13 h14 h15 h16 h17 h18 h19 h20 h21
                                          ·
                                            exfalso; first | omega | exact hrNo to ht0 ht1 (by omega) (by omega) (by assumption)
                                      ·
                                        by_cases h20 : ((to / 1048576) % 2) = 1
                                        ·
                                          exact hzt37 w to ht0 ht1 h1 h2 h3 h4 h5 h6 h7 h8 h9 h10 h11 h12 h13 h14 h15 h16 h17 h18 h19 h20
                                        ·
                                          exfalso; first | omega | exact hrNo to ht0 ht1 (by omega) (by omega) (by assumption)
                                    ·
                                      by_cases h19 : ((to / 2097152) % 2) = 1
                                      ·
                                        exact hzt36 w to ht0 ht1 h1 h2 h3 h4 h5 h6 h7 h8 h9 h10 h11 h12 h13 h14 h15 h16 h17 h18 h19
                                      ·
                                        exfalso; first | omega | exact hrNo to ht0 ht1 (by omega) (by omega) (by assumption)
                                  ·
                                    by_cases h18 : ((to / 4194304) % 2) = 1
                                    ·
                                      exact hzt35 w to ht0 ht1 h1 h2 h3 h4 h5 h6 h7 h8 h9 h10 h11 h12 h13 h14 h15 h16 h17 h18
                                    ·
                                      exfalso; first | omega | exact hrNo to ht0 ht1 (by omega) (by omega) (by assumption)
                                ·
                                  by_cases h17 : ((to / 8388608) % 2) = 1
                                  ·
                                    exact hzt34 w to ht0 ht1 h1 h2 h3 h4 h5 h6 h7 h8 h9 h10 h11 h12 h13 h14 h15 h16 h17
                                  ·
                                    exfalso; first | omega | exact hrNo to ht0 ht1 (by omega) (by omega) (by assumption)
                              ·
                                by_cases h16 : ((to / 16777216) % 2) = 1
                                ·
                                  exact hzt33 w to ht0 ht1 h1 h2 h3 h4 h5 h6 h7 h8 h9 h10 h11 h12 h13 h14 h15 h16
                                ·
                                  exfalso; first | omega | exact hrNo to ht0 ht1 (by omega) (by omega) (by assumption)
                            ·
                              exfalso; first | omega | exact hrNo to ht0 ht1 (by omega) (by omega) (by assumption)
                        ·
                          by_cases h13 : ((to / 67108864) % 2) = 1
                          ·
                            exact hzt31 w to ht0 ht1 h1 h2 h3 h4 h5 h6 h7 h8 h9 h10 h11 h12 h13
                          ·
                            exfalso; first | omega | exact hrNo to ht0 ht1 (by omega) (by omega) (by assumption)
                      ·
                        exfalso; first | omega | exact hrNo to ht0 ht1 (by omega) (by omega) (by assumption)
                  ·
                    by_cases h10 : ((to / 268435456) % 2) = 1
                    ·
                      exact hzt29 w to ht0 ht1 h1 h2 h3 h4 h5 h6 h7 h8 h9 h10
                    ·
                      exfalso; first | omega | exact hrNo to ht0 ht1 (by omega) (by omega) (by assumption)
                ·
                  by_cases h9 : ((to / 536870912) % 2) = 1
                  ·
                    exact hzt28 w to ht0 ht1 h1 h2 h3 h4 h5 h6 h7 h8 h9
                  ·
                    exfalso; first | omega | exact hrNo to ht0 ht1 (by omega) (by omega) (by assumption)
              ·
                by_cases h8 : ((to / 1073741824) % 2) = 1
                ·
                  exact hzt27 w to ht0 ht1 h1 h2 h3 h4 h5 h6 h7 h8
                ·
                  exfalso; first | omega | exact hrNo to ht0 ht1 (by omega) (by omega) (by assumption)
            ·
              by_cases h7 : ((to / 2147483648) % 2) = 1
              ·
                exact hzt26 w to ht0 ht1 h1 h2 h3 h4 h5 h6 h7
              ·
                exfalso; first | omega | exact hrNo to ht0 ht1 (by omega) (by omega) (by assumption)
      ·
        by_cases h4 : to = 167772161
        ·
          exfalso; first | omega | exact hrNo to ht0 ht1 (by omega) (by omega) (by assumption)
        ·
          by_cases h5 : to = 167772415
          ·
            exfalso; first | omega | exact hrNo to ht0 ht1 (by omega) (by omega) (by assumption)
          ·
            by_cases h6 : ((to / 2147483648) % 2) = 0
            ·
              by_cases h7 : ((to / 1073741824) % 2) = 0
              ·
                by_cases h8 : ((to / 536870912) % 2) = 0
                ·
                  by_cases h9 : ((to / 268435456) % 2) = 0
                  ·
                    by_cases h10 : ((to / 134217728) % 2) = 0
                    ·
                      exact hrt6 w to ht0 ht1 h1 h2 h3 h4 h5 h6 h7 h8 h9 h10
                    ·
                      by_cases h11 : ((to / 134217728) % 2) = 1
                      ·
                        by_cases h12 : ((to / 67108864) % 2) = 0
                        ·
                          by_cases h13 : ((to / 33554432) % 2) = 0
                          ·
                            exact hrt8 w to ht0 ht1 h1 h2 h3 h4 h5 h6 h7 h8 h9 h10 h11 h12 h13
                          ·
                            by_cases h14 : ((to / 33554432) % 2) = 1
                            ·
                              by_cases h15 : ((to / 16777216) % 2) = 0
                              ·
                                by_cases h16 : ((to / 8388608) % 2) = 0
                                ·
                                  by_cases h17 : ((to / 4194304) % 2) = 0
                                  ·
                                    by_cases h18 : ((to / 2097152) % 2) = 0
                                    ·
                                      by_cases h19 : ((to / 1048576) % 2) = 0
                                      ·
                                        by_cases h20 : ((to / 524288) % 2) = 0
                                        ·
                                          by_cases h21 : ((to / 262144) % 2) = 0
                                          ·
                                            by_cases h22 : ((to / 131072) % 2) = 0
                                            ·
                                              by_cases h23 : ((to / 65536) % 2) = 0
                                              ·
                                                by_cases h24 : ((to / 32768) % 2) = 0
                                                ·
                                                  by_cases h25 : ((to / 16384) % 2) = 0
                                                  ·
                                                    by_cases h26 : ((to / 8192) % 2) = 0
                                                    ·
                                                      by_cases h27 : ((to / 4096) % 2) = 0
                                                      ·
                                                        by_cases h28 : ((to / 2048) % 2) = 0
                                                        ·
                                                          by_cases h29 : ((to / 1024) % 2) = 0
                                                          ·
                                                            by_cases h30 : ((to / 512) % 2) = 0
                                                            ·
                                                              by_cases h31 : ((to / 256) % 2) = 0
                                                              ·
                                                                exfalso; first | omega | exact hrNo to ht0 ht1 (by omega) (by omega) (by assumption)
                                                              ·
                                                                by_cases h32 : ((to / 256) % 2) = 1
                                                                ·
                                                                  exact hrt25 w to ht0 ht1 h1 h2 h3 h4 h5 h6 h7 h8 h9 h10 h11 h12 h13 h14 h15 h16 h17 h18 h19 h20 h21 h22 h23 h24 h25 h26 h27 h28 h29 h30 h31 h32
                                                                ·
                                                                  exfalso; first | omega | exact hrNo to ht0 ht1 (by omega) (by omega) (by assumption)
                                                            ·
                                                              by_cases h31 : ((to / 512) % 2) = 1
                                                              ·
                                                                exact hrt24 w to ht0 ht1 h1 h2 h3 h4 h5 h6 h7 h8 h9 h10 h11 h12 h13 h14 h15 h16 h17 h18 h19 h20 h21 h22 h23 h24 h25 h26 h27 h28 h29 h30 h31
                                                              ·
                                                                exfalso; first | omega | exact hrNo to ht0 ht1 (by omega) (by omega) (by assumption)
                                                          ·
                                                            by_cases h30 : ((to / 1024) % 2) = 1
                                                            ·
                                                              exact hrt23 w to ht0 ht1 h1 h2 h3 h4 h5 h6 h7 h8 h9 h10 h11 h12 h13 h14 h15 h16 h17 h18 h19 h20 h21 h22 h23 h24 h25 h26 h27 h28 h29 h30
                                                            ·
                                                              exfalso; first | omega | exact hrNo to ht0 ht1 (by omega) (by omega) (by assumption)
                                                        ·
                                                          by_cases h29 : ((to / 2048) % 2) = 1
                                                          ·
                                                            exact hrt22 w to ht0 ht1 h1 h2 h3 h4 h5 h6 h7 h8 h9 h10 h11 h12 h13 h14 h15 h16 h17 h18 h19 h20 h21 h22 h23 h24 h25 h26 h27 h28 h29
                                                          ·
                                                            exfalso; first | omega | exact hrNo to ht0 ht1 (by omega) (by omega) (by assumption)
                                                      ·
                                                        by_cases h28 : ((to / 4096) % 2) = 1
                                                        ·
                                                          exact hrt21 w to ht0 ht1 h1 h2 h3 h4 h5 h6 h7 h8 h9 h10 h11 h12 h13 h14 h15 h16 h17 h18 h19 h20 h21 h22 h23 h24 h25 h26 h27 h28
                                                        ·
                                                          exfalso; first | omega | exact hrNo to ht0 ht1 (by omega) (by omega) (by assumption)
                                                    ·
                                                      by_cases h27 : ((to / 8192) % 2) = 1
                                                      ·
                                                        exact hrt20 w to ht0 ht1 h1 h2 h3 h4 h5 h6 h7 h8 h9 h10 h11 h12 h13 h14 h15 h16 h17 h18 h19 h20 h21 h22 h23 h24 h25 h26 h27
                                                      ·
                                                        exfalso; first | omega | exact hrNo to ht0 ht1 (by omega) (by omega) (by assumption)
                                                  ·
                                                    by_cases h26 : ((to / 16384) % 2) = 1
                                                    ·
                                                      exact hrt19 w to ht0 ht1 h1 h2 h3 h4 h5 h6 h7 h8 h9 h10 h11 h12 h13 h14 h15 h16 h17 h18 h19 h20 h21 h22 h23 h24 h25 h26
                                                    ·
                                                      exfalso; first | omega | exact hrNo to ht0 ht1 (by omega) (by omega) (by assumption)
                                                ·
                                                  by_cases h25 : ((to / 32768) % 2) = 1
                                                  ·
                                                    exact hrt18 w to ht0 ht1 h1 h2 h3 h4 h5 h6 h7 h8 h9 h10 h11 h12 h13 h14 h15 h16 h17 h18 h19 h20 h21 h22 h23 h24 h25
                                                  ·
                                                    exfalso; first | omega | exact hrNo to ht0 ht1 (by omega) (by omega) (by assumption)
                                              ·
                                                by_cases h24 : ((to / 65536) % 2) = 1
                                                ·
                                                  exact hrt17 w to ht0 ht1 h1 h2 h3 h4 h5 h6 h7 h8 h9 h10 h11 h12 h13 h14 h15 h16 h17 h18 h19 h20 h21 h22 h23 h24
                                                ·
                                                  exfalso; first | omega | exact hrNo to ht0 ht1 (by omega) (by omega) (by assumption)
                                            ·
                                              by_cases h23 : ((to / 131072) % 2) = 1
                                              ·
                                                exact hrt16 w to ht0 ht1 h1 h2 h3 h4 h5 h6 h7 h8 h9 h10 h11 h12 h13 h14 h15 h16 h17 h18 h19 h20 h21 h22 h23
                                              ·
                                                exfalso; first | omega | exact hrNo to ht0 ht1 (by omega) (by omega) (by assumption)
                                          ·
                                            by_cases h22 : ((to / 262144) % 2) = 1
                                            ·
                                              exact hrt15 w to ht0 ht1 h1 h2 h3 h4 h5 h6 h7 h8 h9 h10 h11 h12 h13 h14 h15 h16 h17 h18 h19 h20 h21 h22
                                            ·
                                              exfalso; first | omega | exact hrNo to ht0 ht1 (by omega) (by omega) (by assumption)
                                        ·
                                          by_cases h21 : ((to / 524288) % 2) = 1
                                          ·
                                            exact hrt14 w to ht0 ht1 h1 h2 h3 h4 h5 h6 h7 h8 h9 h10 h11 h12 h13 h14 h15 h16 h17 h18 h19 h20 h21
                                          ·
                                            exfalso; first | omega | exact hrNo to ht0 ht1 (by omega) (by omega) (by assumption)
                                      ·
                                        by_cases h20 : ((to / 1048576) % 2) = 1
                                        ·
                                          exact hrt13 w to ht0 ht1 h1 h2 h3 h4 h5 h6 h7 h8 h9 h10 h11 h12 h13 h14 h15 h16 h17 h18 h19 h20
                                        ·
                                          exfalso; first | omega | exact hrNo to ht0 ht1 (by omega) (by omega) (by assumption)
                                    ·
                                      by_cases h19 : ((to / 2097152) % 2) = 1
                                      ·
                                        exact hrt12 w to ht0 ht1 h1 h2 h3 h4 h5 h6 h7 h8 h9 h10 h11 h12 h13 h14 h15 h16 h17 h18 h19
                                      ·
                                        exfalso; first | omega | exact hrNo to ht0 ht1 (by omega) (by omega) (by assumption)
                                  ·
                                    by_cases h18 : ((to / 4194304) % 2) = 1
                                    ·
                                      exact hrt11 w to ht0 ht1 h1 h2 h3 h4 h5 h6 h7 h8 h9 h10 h11 h12 h13 h14 h15 h16 h17 h18
                                    ·
                                      exfalso; first | omega | exact hrNo to ht0 ht1 (by omega) (by omega) (by assumption)
                                ·
                                  by_cases h17 : ((to / 8388608) % 2) = 1
                                  ·
                                    exact hrt10 w to ht0 ht1 h1 h2 h3 h4 h5 h6 h7 h8 h9 h10 h11 h12 h13 h14 h15 h16 h17
                                  ·
                                    exfalso; first | omega | exact hrNo to ht0 ht1 (by omega) (by omega) (by assumption)
                              ·
                                by_cases h16 : ((to / 16777216) % 2) = 1
                                ·
                                  exact hrt9 w to ht0 ht1 h1 h2 h3 h4 h5 h6 h7 h8 h9 h10 h11 h12 h13 h14 h15 h16
                                ·
                                  exfalso; first | omega | exact hrNo to ht0 ht1 (by omega) (by omega) (by assumption)
                            ·
                              exfalso; first | omega | exact hrNo to ht0 ht1 (by omega) (by omega) (by assumption)
                        ·
                          by_cases h13 : ((to / 67108864) % 2) = 1
                          ·
                            exact hrt7 w to ht0 ht1 h1 h2 h3 h4 h5 h6 h7 h8 h9 h10 h11 h12 h13
                          ·
                            exfalso; first | omega | exact hrNo to ht0 ht1 (by omega) (by omega) (by assumption)
                      ·
                        exfalso; first | omega | exact hrNo to ht0 ht1 (by omega) (by omega) (by assumption)
                  ·
                    by_cases h10 : ((to / 268435456) % 2) = 1
                    ·
                      exact hrt5 w to ht0 ht1 h1 h2 h3 h4 h5 h6 h7 h8 h9 h10
                    ·
                      exfalso; first | omega | exact hrNo to ht0 ht1 (by omega) (by omega) (by assumption)
                ·
                  by_cases h9 : ((to / 536870912) % 2) = 1
                  ·
                    exact hrt4 w to ht0 ht1 h1 h2 h3 h4 h5 h6 h7 h8 h9
                  ·
                    exfalso; first | omega | exact hrNo to ht0 ht1 (by omega) (by omega) (by assumption)
              ·
                by_cases h8 : ((to / 1073741824) % 2) = 1
                ·
                  exact hrt3 w to ht0 ht1 h1 h2 h3 h4 h5 h6 h7 h8
                ·
                  exfalso; first | omega | exact hrNo to ht0 ht1 (by omega) (by omega) (by assumption)
            ·
              by_cases h7 : ((to / 2147483648) % 2) = 1
              ·
                exact hrt2 w to ht0 ht1 h1 h2 h3 h4 h5 h6 h7
              ·
                exfalso; first | omega | exact hrNo to ht0 ht1 (by omega) (by omega) (by assumption)
theorem hostRoutes_false (w : World) (to : Int) (ht0 : 0 ≤ to) (ht1 : to ≤ 4294967295) : Calls Tryz.prog 7 #[.int .u32 to, .bool false] w (fun e w' => e = .returned (.bool true) ∧ Only [] w w') := by
  by_cases h1 : (to / 256 * 256) = 167772160
  ·
    exact hrf43 w to ht0 ht1 h1
  ·
    by_cases h2 : to ≥ 3758096384
    ·
      exact hrf44 w to ht0 ht1 h1 h2
    ·
      by_cases h3 : (sumVal true [10, 0, 0, 1, (to / 16777216), ((to / 65536) % 256), ((to / 256) % 256), (to % 256), 0, 17, 0, 9, 0, 5, 0, 6, 0, 9, 0, 0, 120]) = 0
      ·
        by_cases h4 : to = 167772161
        ·
          exfalso; first | omega | exact hrNo to ht0 ht1 (by omega) (by omega) (by assumption)
        ·
          by_cases h5 : to = 167772415
          ·
            exfalso; first | omega | exact hrNo to ht0 ht1 (by omega) (by omega) (by assumption)
          ·
            by_cases h6 : ((to / 2147483648) % 2) = 0
            ·
              by_cases h7 : ((to / 1073741824) % 2) = 0
              ·
                by_cases h8 : ((to / 536870912) % 2) = 0
                ·
                  by_cases h9 : ((to / 268435456) % 2) = 0
                  ·
                    by_cases h10 : ((to / 134217728) % 2) = 0
                    ·
                      exact hzf73 w to ht0 ht1 h1 h2 h3 h4 h5 h6 h7 h8 h9 h10
                    ·
                      by_cases h11 : ((to / 134217728) % 2) = 1
                      ·
                        by_cases h12 : ((to / 67108864) % 2) = 0
                        ·
                          by_cases h13 : ((to / 33554432) % 2) = 0
                          ·
                            exact hzf75 w to ht0 ht1 h1 h2 h3 h4 h5 h6 h7 h8 h9 h10 h11 h12 h13
                          ·
                            by_cases h14 : ((to / 33554432) % 2) = 1
                            ·
                              by_cases h15 : ((to / 16777216) % 2) = 0
                              ·
                                by_cases h16 : ((to / 8388608) % 2) = 0
                                ·
                                  by_cases h17 : ((to / 4194304) % 2) = 0
                                  ·
                                    by_cases h18 : ((to / 2097152) % 2) = 0
                                    ·
                                      by_cases h19 : ((to / 1048576) % 2) = 0
                                      ·
                                        by_cases h20 : ((to / 524288) % 2) = 0
                                        ·
                                          by_cases h21 : ((to / 262144) % 2) = 0
                                          ·
                                            by_cases h22 : ((to / 131072) % 2) = 0
                                            ·
                                              by_cases h23 : ((to / 65536) % 2) = 0
                                              ·
                                                by_cases h24 : ((to / 32768) % 2) = 0
                                                ·
                                                  by_cases h25 : ((to / 16384) % 2) = 0
                                                  ·
                                                    exfalso; first | omega | exact hrNo to ht0 ht1 (by omega) (by omega) (by assumption)
                                                  ·
                                                    by_cases h26 : ((to / 16384) % 2) = 1
                                                    ·
                                                      exact hzf85 w to ht0 ht1 h1 h2 h3 h4 h5 h6 h7 h8 h9 h10 h11 h12 h13 h14 h15 h16 h17 h18 h19 h20 h21 h22 h23 h24 h25 h26
                                                    ·
                                                      exfalso; first | omega | exact hrNo to ht0 ht1 (by omega) (by omega) (by assumption)
                                                ·
                                                  exfalso; first | omega | exact hrNo to ht0 ht1 (by omega) (by omega) (by assumption)
                                              ·
                                                by_cases h24 : ((to / 65536) % 2) = 1
                                                ·
                                                  exact hzf84 w to ht0 ht1 h1 h2 h3 h4 h5 h6 h7 h8 h9 h10 h11 h12 h13 h14 h15 h16 h17 h18 h19 h20 h21 h22 h23 h24
                                                ·
                                                  exfalso; first | omega | exact hrNo to ht0 ht1 (by omega) (by omega) (by assumption)
                                            ·
                                              by_cases h23 : ((to / 131072) % 2) = 1
                                              ·
                                                exact hzf83 w to ht0 ht1 h1 h2 h3 h4 h5 h6 h7 h8 h9 h10 h11 h12 h13 h14 h15 h16 h17 h18 h19 h20 h21 h22 h23
                                              ·
                                                exfalso; first | omega | exact hrNo to ht0 ht1 (by omega) (by omega) (by assumption)
                                          ·
                                            by_cases h22 : ((to / 262144) % 2) = 1
                                            ·
                                              exact hzf82 w to ht0 ht1 h1 h2 h3 h4 h5 h6 h7 h8 h9 h10 h11 h12 h13 h14 h15 h16 h17 h18 h19 h20 h21 h22
                                            ·
                                              exfalso; first | omega | exact hrNo to ht0 ht1 (by omega) (by omega) (by assumption)
                                        ·
                                          by_cases h21 : ((to / 524288) % 2) = 1
                                          ·
                                            exact hzf81 w to ht0 ht1 h1 h2 h3 h4 h5 h6 h7 h8 h9 h10 h11 h12 h13 h14 h15 h16 h17 h18 h19 h20 h21
                                          ·
                                            exfalso; first | omega | exact hrNo to ht0 ht1 (by omega) (by omega) (by assumption)
                                      ·
                                        by_cases h20 : ((to / 1048576) % 2) = 1
                                        ·
                                          exact hzf80 w to ht0 ht1 h1 h2 h3 h4 h5 h6 h7 h8 h9 h10 h11 h12 h13 h14 h15 h16 h17 h18 h19 h20
                                        ·
                                          exfalso; first | omega | exact hrNo to ht0 ht1 (by omega) (by omega) (by assumption)
                                    ·
                                      by_cases h19 : ((to / 2097152) % 2) = 1
                                      ·
                                        exact hzf79 w to ht0 ht1 h1 h2 h3 h4 h5 h6 h7 h8 h9 h10 h11 h12 h13 h14 h15 h16 h17 h18 h19
                                      ·
                                        exfalso; first | omega | exact hrNo to ht0 ht1 (by omega) (by omega) (by assumption)
                                  ·
                                    by_cases h18 : ((to / 4194304) % 2) = 1
                                    ·
                                      exact hzf78 w to ht0 ht1 h1 h2 h3 h4 h5 h6 h7 h8 h9 h10 h11 h12 h13 h14 h15 h16 h17 h18
                                    ·
                                      exfalso; first | omega | exact hrNo to ht0 ht1 (by omega) (by omega) (by assumption)
                                ·
                                  by_cases h17 : ((to / 8388608) % 2) = 1
                                  ·
                                    exact hzf77 w to ht0 ht1 h1 h2 h3 h4 h5 h6 h7 h8 h9 h10 h11 h12 h13 h14 h15 h16 h17
                                  ·
                                    exfalso; first | omega | exact hrNo to ht0 ht1 (by omega) (by omega) (by assumption)
                              ·
                                by_cases h16 : ((to / 16777216) % 2) = 1
                                ·
                                  exact hzf76 w to ht0 ht1 h1 h2 h3 h4 h5 h6 h7 h8 h9 h10 h11 h12 h13 h14 h15 h16
                                ·
                                  exfalso; first | omega | exact hrNo to ht0 ht1 (by omega) (by omega) (by assumption)
                            ·
                              exfalso; first | omega | exact hrNo to ht0 ht1 (by omega) (by omega) (by assumption)
                        ·
                          by_cases h13 : ((to / 67108864) % 2) = 1
                          ·
                            exact hzf74 w to ht0 ht1 h1 h2 h3 h4 h5 h6 h7 h8 h9 h10 h11 h12 h13
                          ·
                            exfalso; first | omega | exact hrNo to ht0 ht1 (by omega) (by omega) (by assumption)
                      ·
                        exfalso; first | omega | exact hrNo to ht0 ht1 (by omega) (by omega) (by assumption)
                  ·
                    by_cases h10 : ((to / 268435456) % 2) = 1
                    ·
                      exact hzf72 w to ht0 ht1 h1 h2 h3 h4 h5 h6 h7 h8 h9 h10
                    ·
                      exfalso; first | omega | exact hrNo to ht0 ht1 (by omega) (by omega) (by assumption)
                ·
                  by_cases h9 : ((to / 536870912) % 2) = 1
                  ·
                    exact hzf71 w to ht0 ht1 h1 h2 h3 h4 h5 h6 h7 h8 h9
                  ·
                    exfalso; first | omega | exact hrNo to ht0 ht1 (by omega) (by omega) (by assumption)
              ·
                by_cases h8 : ((to / 1073741824) % 2) = 1
                ·
                  exact hzf70 w to ht0 ht1 h1 h2 h3 h4 h5 h6 h7 h8
                ·
                  exfalso; first | omega | exact hrNo to ht0 ht1 (by omega) (by omega) (by assumption)
            ·
              by_cases h7 : ((to / 2147483648) % 2) = 1
              ·
                exact hzf69 w to ht0 ht1 h1 h2 h3 h4 h5 h6 h7
              ·
                exfalso; first | omega | exact hrNo to ht0 ht1 (by omega) (by omega) (by assumption)
      ·
        by_cases h4 : to = 167772161
        ·
          exfalso; first | omega | exact hrNo to ht0 ht1 (by omega) (by omega) (by assumption)
        ·
          by_cases h5 : to = 167772415
          ·
            exfalso; first | omega | exact hrNo to ht0 ht1 (by omega) (by omega) (by assumption)
          ·
            by_cases h6 : ((to / 2147483648) % 2) = 0
            ·
              by_cases h7 : ((to / 1073741824) % 2) = 0
              ·
                by_cases h8 : ((to / 536870912) % 2) = 0
                ·
                  by_cases h9 : ((to / 268435456) % 2) = 0
                  ·
                    by_cases h10 : ((to / 134217728) % 2) = 0
                    ·
                      exact hrf49 w to ht0 ht1 h1 h2 h3 h4 h5 h6 h7 h8 h9 h10
                    ·
                      by_cases h11 : ((to / 134217728) % 2) = 1
                      ·
                        by_cases h12 : ((to / 67108864) % 2) = 0
                        ·
                          by_cases h13 : ((to / 33554432) % 2) = 0
                          ·
                            exact hrf51 w to ht0 ht1 h1 h2 h3 h4 h5 h6 h7 h8 h9 h10 h11 h12 h13
                          ·
                            by_cases h14 : ((to / 33554432) % 2) = 1
                            ·
                              by_cases h15 : ((to / 16777216) % 2) = 0
                              ·
                                by_cases h16 : ((to / 8388608) % 2) = 0
                                ·
                                  by_cases h17 : ((to / 4194304) % 2) = 0
                                  ·
                                    by_cases h18 : ((to / 2097152) % 2) = 0
                                    ·
                                      by_cases h19 : ((to / 1048576) % 2) = 0
                                      ·
                                        by_cases h20 : ((to / 524288) % 2) = 0
                                        ·
                                          by_cases h21 : ((to / 262144) % 2) = 0
                                          ·
                                            by_cases h22 : ((to / 131072) % 2) = 0
                                            ·
                                              by_cases h23 : ((to / 65536) % 2) = 0
                                              ·
                                                by_cases h24 : ((to / 32768) % 2) = 0
                                                ·
                                                  by_cases h25 : ((to / 16384) % 2) = 0
                                                  ·
                                                    by_cases h26 : ((to / 8192) % 2) = 0
                                                    ·
                                                      by_cases h27 : ((to / 4096) % 2) = 0
                                                      ·
                                                        by_cases h28 : ((to / 2048) % 2) = 0
                                                        ·
                                                          by_cases h29 : ((to / 1024) % 2) = 0
                                                          ·
                                                            by_cases h30 : ((to / 512) % 2) = 0
                                                            ·
                                                              by_cases h31 : ((to / 256) % 2) = 0
                                                              ·
                                                                exfalso; first | omega | exact hrNo to ht0 ht1 (by omega) (by omega) (by assumption)
                                                              ·
                                                                by_cases h32 : ((to / 256) % 2) = 1
                                                                ·
                                                                  exact hrf68 w to ht0 ht1 h1 h2 h3 h4 h5 h6 h7 h8 h9 h10 h11 h12 h13 h14 h15 h16 h17 h18 h19 h20 h21 h22 h23 h24 h25 h26 h27 h28 h29 h30 h31 h32
                                                                ·
                                                                  exfalso; first | omega | exact hrNo to ht0 ht1 (by omega) (by omega) (by assumption)
                                                            ·
                                                              by_cases h31 : ((to / 512) % 2) = 1
                                                              ·
                                                                exact hrf67 w to ht0 ht1 h1 h2 h3 h4 h5 h6 h7 h8 h9 h10 h11 h12 h13 h14 h15 h16 h17 h18 h19 h20 h21 h22 h23 h24 h25 h26 h27 h28 h29 h30 h31
                                                              ·
                                                                exfalso; first | omega | exact hrNo to ht0 ht1 (by omega) (by omega) (by assumption)
                                                          ·
                                                            by_cases h30 : ((to / 1024) % 2) = 1
                                                            ·
                                                              exact hrf66 w to ht0 ht1 h1 h2 h3 h4 h5 h6 h7 h8 h9 h10 h11 h12 h13 h14 h15 h16 h17 h18 h19 h20 h21 h22 h23 h24 h25 h26 h27 h28 h29 h30
                                                            ·
                                                              exfalso; first | omega | exact hrNo to ht0 ht1 (by omega) (by omega) (by assumption)
                                                        ·
                                                          by_cases h29 : ((to / 2048) % 2) = 1
                                                          ·
                                                            exact hrf65 w to ht0 ht1 h1 h2 h3 h4 h5 h6 h7 h8 h9 h10 h11 h12 h13 h14 h15 h16 h17 h18 h19 h20 h21 h22 h23 h24 h25 h26 h27 h28 h29
                                                          ·
                                                            exfalso; first | omega | exact hrNo to ht0 ht1 (by omega) (by omega) (by assumption)
                                                      ·
                                                        by_cases h28 : ((to / 4096) % 2) = 1
                                                        ·
                                                          exact hrf64 w to ht0 ht1 h1 h2 h3 h4 h5 h6 h7 h8 h9 h10 h11 h12 h13 h14 h15 h16 h17 h18 h19 h20 h21 h22 h23 h24 h25 h26 h27 h28
                                                        ·
                                                          exfalso; first | omega | exact hrNo to ht0 ht1 (by omega) (by omega) (by assumption)
                                                    ·
                                                      by_cases h27 : ((to / 8192) % 2) = 1
                                                      ·
                                                        exact hrf63 w to ht0 ht1 h1 h2 h3 h4 h5 h6 h7 h8 h9 h10 h11 h12 h13 h14 h15 h16 h17 h18 h19 h20 h21 h22 h23 h24 h25 h26 h27
                                                      ·
                                                        exfalso; first | omega | exact hrNo to ht0 ht1 (by omega) (by omega) (by assumption)
                                                  ·
                                                    by_cases h26 : ((to / 16384) % 2) = 1
                                                    ·
                                                      exact hrf62 w to ht0 ht1 h1 h2 h3 h4 h5 h6 h7 h8 h9 h10 h11 h12 h13 h14 h15 h16 h17 h18 h19 h20 h21 h22 h23 h24 h25 h26
                                                    ·
                                                      exfalso; first | omega | exact hrNo to ht0 ht1 (by omega) (by omega) (by assumption)
                                                ·
                                                  by_cases h25 : ((to / 32768) % 2) = 1
                                                  ·
                                                    exact hrf61 w to ht0 ht1 h1 h2 h3 h4 h5 h6 h7 h8 h9 h10 h11 h12 h13 h14 h15 h16 h17 h18 h19 h20 h21 h22 h23 h24 h25
                                                  ·
                                                    exfalso; first | omega | exact hrNo to ht0 ht1 (by omega) (by omega) (by assumption)
                                              ·
                                                by_cases h24 : ((to / 65536) % 2) = 1
                                                ·
                                                  exact hrf60 w to ht0 ht1 h1 h2 h3 h4 h5 h6 h7 h8 h9 h10 h11 h12 h13 h14 h15 h16 h17 h18 h19 h20 h21 h22 h23 h24
                                                ·
                                                  exfalso; first | omega | exact hrNo to ht0 ht1 (by omega) (by omega) (by assumption)
                                            ·
                                              by_cases h23 : ((to / 131072) % 2) = 1
                                              ·
                                                exact hrf59 w to ht0 ht1 h1 h2 h3 h4 h5 h6 h7 h8 h9 h10 h11 h12 h13 h14 h15 h16 h17 h18 h19 h20 h21 h22 h23
                                              ·
                                                exfalso; first | omega | exact hrNo to ht0 ht1 (by omega) (by omega) (by assumption)
                                          ·
                                            by_cases h22 : ((to / 262144) % 2) = 1
                                            ·
                                              exact hrf58 w to ht0 ht1 h1 h2 h3 h4 h5 h6 h7 h8 h9 h10 h11 h12 h13 h14 h15 h16 h17 h18 h19 h20 h21 h22
                                            ·
                                              exfalso; first | omega | exact hrNo to ht0 ht1 (by omega) (by omega) (by assumption)
                                        ·
                                          by_cases h21 : ((to / 524288) % 2) = 1
                                          ·
                                            exact hrf57 w to ht0 ht1 h1 h2 h3 h4 h5 h6 h7 h8 h9 h10 h11 h12 h13 h14 h15 h16 h17 h18 h19 h20 h21
                                          ·
                                            exfalso; first | omega | exact hrNo to ht0 ht1 (by omega) (by omega) (by assumption)
                                      ·
                                        by_cases h20 : ((to / 1048576) % 2) = 1
                                        ·
                                          exact hrf56 w to ht0 ht1 h1 h2 h3 h4 h5 h6 h7 h8 h9 h10 h11 h12 h13 h14 h15 h16 h17 h18 h19 h20
                                        ·
                                          exfalso; first | omega | exact hrNo to ht0 ht1 (by omega) (by omega) (by assumption)
                                    ·
                                      by_cases h19 : ((to / 2097152) % 2) = 1
                                      ·
                                        exact hrf55 w to ht0 ht1 h1 h2 h3 h4 h5 h6 h7 h8 h9 h10 h11 h12 h13 h14 h15 h16 h17 h18 h19
                                      ·
                                        exfalso; first | omega | exact hrNo to ht0 ht1 (by omega) (by omega) (by assumption)
                                  ·
                                    by_cases h18 : ((to / 4194304) % 2) = 1
                                    ·
                                      exact hrf54 w to ht0 ht1 h1 h2 h3 h4 h5 h6 h7 h8 h9 h10 h11 h12 h13 h14 h15 h16 h17 h18
                                    ·
                                      exfalso; first | omega | exact hrNo to ht0 ht1 (by omega) (by omega) (by assumption)
                                ·
                                  by_cases h17 : ((to / 8388608) % 2) = 1
                                  ·
                                    exact hrf53 w to ht0 ht1 h1 h2 h3 h4 h5 h6 h7 h8 h9 h10 h11 h12 h13 h14 h15 h16 h17
                                  ·
                                    exfalso; first | omega | exact hrNo to ht0 ht1 (by omega) (by omega) (by assumption)
                              ·
                                by_cases h16 : ((to / 16777216) % 2) = 1
                                ·
                                  exact hrf52 w to ht0 ht1 h1 h2 h3 h4 h5 h6 h7 h8 h9 h10 h11 h12 h13 h14 h15 h16
                                ·
                                  exfalso; first | omega | exact hrNo to ht0 ht1 (by omega) (by omega) (by assumption)
                            ·
                              exfalso; first | omega | exact hrNo to ht0 ht1 (by omega) (by omega) (by assumption)
                        ·
                          by_cases h13 : ((to / 67108864) % 2) = 1
                          ·
                            exact hrf50 w to ht0 ht1 h1 h2 h3 h4 h5 h6 h7 h8 h9 h10 h11 h12 h13
                          ·
                            exfalso; first | omega | exact hrNo to ht0 ht1 (by omega) (by omega) (by assumption)
                      ·
                        exfalso; first | omega | exact hrNo to ht0 ht1 (by omega) (by omega) (by assumption)
                  ·
                    by_cases h10 : ((to / 268435456) % 2) = 1
                    ·
                      exact hrf48 w to ht0 ht1 h1 h2 h3 h4 h5 h6 h7 h8 h9 h10
                    ·
                      exfalso; first | omega | exact hrNo to ht0 ht1 (by omega) (by omega) (by assumption)
                ·
                  by_cases h9 : ((to / 536870912) % 2) = 1
                  ·
                    exact hrf47 w to ht0 ht1 h1 h2 h3 h4 h5 h6 h7 h8 h9
                  ·
                    exfalso; first | omega | exact hrNo to ht0 ht1 (by omega) (by omega) (by assumption)
              ·
                by_cases h8 : ((to / 1073741824) % 2) = 1
                ·
                  exact hrf46 w to ht0 ht1 h1 h2 h3 h4 h5 h6 h7 h8
                ·
                  exfalso; first | omega | exact hrNo to ht0 ht1 (by omega) (by omega) (by assumption)
            ·
              by_cases h7 : ((to / 2147483648) % 2) = 1
              ·
                exact hrf45 w to ht0 ht1 h1 h2 h3 h4 h5 h6 h7
              ·
                exfalso; first | omega | exact hrNo to ht0 ht1 (by omega) (by omega) (by assumption)
theorem hostRoutes (w : World) (to : Int) (g : Bool) (ht0 : 0 ≤ to) (ht1 : to ≤ 4294967295) : Calls Tryz.prog 7 #[.int .u32 to, .bool g] w (fun e w' => e = .returned (.bool true) ∧ Only [] w w') := by
  cases g
  · exact hostRoutes_false w to ht0 ht1
  · exact hostRoutes_true w to ht0 ht1
end Go.Proofs.YtjehddcgbgfhdaaGreat.ev
