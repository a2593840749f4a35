/-
  Calls worked out ahead: checked. Conditions: none.
-/
import Derived.Test.YtjljmohpgjiplaaEvC2Da
import Derived.Test.YtjljmohpgjiplaaEvC2Db
import Derived.Test.YtjljmohpgjiplaaEvC2Dc
import Derived.Test.YtjljmohpgjiplaaEvC2Dd
import Derived.KernelRfl
namespace Go.Proofs.Ytjljmohpgjiplaa.ev
set_option maxRecDepth 1000000
set_option linter.unusedVariables false
theorem mmC2202_chk : chk Try.prog noTab (spTwo (spM [mmC2201]) (spKnown 9)) 300 mmC2202 = true := by kernel_rfl
theorem mmC2179_chk : chk Try.prog noTab (spTwo (spM [mmC2178]) (spKnown 9)) 300 mmC2179 = true := by kernel_rfl
theorem chases13_says : says (fxCall Try.prog noTab (spTwo (spM [mmC2119, mmC2117]) (spKnown 9)) 300 5 [.int .i64 13] 0 .lf) = some true := by kernel_rfl
theorem mmC2156_chk : chk Try.prog noTab (spKnown 9) 300 mmC2156 = true := by kernel_rfl
theorem chases11_says : says (fxCall Try.prog noTab (spTwo (spM [mmC286, mmC284]) (spKnown 9)) 300 5 [.int .i64 11] 0 .lf) = some true := by kernel_rfl
theorem mmC2118_chk : chk Try.prog noTab (spKnown 9) 300 mmC2118 = true := by kernel_rfl
theorem chases2_says : says (fxCall Try.prog noTab (spTwo (spM [mmC21]) (spKnown 9)) 300 5 [.int .i64 2] 0 .lf) = some true := by kernel_rfl
theorem mmC271_chk : chk Try.prog noTab (spTwo (spM [mmC270]) (spKnown 9)) 300 mmC271 = true := by kernel_rfl
theorem mmC285_chk : chk Try.prog noTab (spKnown 9) 300 mmC285 = true := by kernel_rfl
theorem mmC24_chk : chk Try.prog noTab (spKnown 9) 300 mmC24 = true := by kernel_rfl
theorem mmC2250_chk : chk Try.prog noTab (spTwo (spM [mmC2249]) (spKnown 9)) 300 mmC2250 = true := by kernel_rfl
theorem mmC2225_chk : chk Try.prog noTab (spTwo (spM [mmC2224]) (spKnown 9)) 300 mmC2225 = true := by kernel_rfl
theorem mmC20_chk : chk Try.prog noTab (spKnown 9) 300 mmC20 = true := by kernel_rfl
theorem mmC243_chk : chk Try.prog noTab (spKnown 9) 300 mmC243 = true := by kernel_rfl
theorem mmC231_chk : chk Try.prog noTab (spKnown 9) 300 mmC231 = true := by kernel_rfl
theorem chases19_says : says (fxCall Try.prog noTab (spTwo (spM [mmC2251, mmC2248]) (spKnown 9)) 300 5 [.int .i64 19] 0 .lf) = some true := by kernel_rfl
theorem chases16_says : says (fxCall Try.prog noTab (spTwo (spM [mmC2179, mmC2176]) (spKnown 9)) 300 5 [.int .i64 16] 0 .lf) = some true := by kernel_rfl
theorem mmC2198_chk : chk Try.prog noTab (spTwo (spM [mmC2197, mmC2196, mmC2195, mmC2194, mmC2193, mmC2192, mmC2191, mmC2190, mmC2189, mmC2188, mmC2187, mmC2186, mmC2185, mmC2184, mmC2183, mmC2182, mmC2181, mmC2180]) (spKnown 9)) 300 mmC2198 = true := by kernel_rfl
theorem mmC2100_chk : chk Try.prog noTab (spTwo (spM [mmC299, mmC298, mmC297, mmC296, mmC295, mmC294, mmC293, mmC292, mmC291, mmC290, mmC289, mmC288, mmC287]) (spKnown 9)) 300 mmC2100 = true := by kernel_rfl
theorem mmC269_chk : chk Try.prog noTab (spTwo (spM [mmC268, mmC267, mmC266, mmC265, mmC264, mmC263, mmC262, mmC261, mmC260, mmC259, mmC258]) (spKnown 9)) 300 mmC269 = true := by kernel_rfl
theorem mmC26_chk : chk Try.prog noTab (spKnown 9) 300 mmC26 = true := by kernel_rfl
theorem mmC28_chk : chk Try.prog noTab (spKnown 9) 300 mmC28 = true := by kernel_rfl
theorem mmC215_chk : chk Try.prog noTab (spKnown 9) 300 mmC215 = true := by kernel_rfl
theorem mmC219_chk : chk Try.prog noTab (spKnown 9) 300 mmC219 = true := by kernel_rfl
theorem mmC226_chk : chk Try.prog noTab (spKnown 9) 300 mmC226 = true := by kernel_rfl
theorem mmC234_chk : chk Try.prog noTab (spKnown 9) 300 mmC234 = true := by kernel_rfl
theorem mmC238_chk : chk Try.prog noTab (spKnown 9) 300 mmC238 = true := by kernel_rfl
theorem mmC246_chk : chk Try.prog noTab (spKnown 9) 300 mmC246 = true := by kernel_rfl
theorem mmC250_chk : chk Try.prog noTab (spKnown 9) 300 mmC250 = true := by kernel_rfl
theorem mmC254_chk : chk Try.prog noTab (spKnown 9) 300 mmC254 = true := by kernel_rfl
theorem mmC262_chk : chk Try.prog noTab (spKnown 9) 300 mmC262 = true := by kernel_rfl
theorem mmC266_chk : chk Try.prog noTab (spKnown 9) 300 mmC266 = true := by kernel_rfl
theorem mmC274_chk : chk Try.prog noTab (spKnown 9) 300 mmC274 = true := by kernel_rfl
theorem mmC278_chk : chk Try.prog noTab (spKnown 9) 300 mmC278 = true := by kernel_rfl
theorem mmC282_chk : chk Try.prog noTab (spKnown 9) 300 mmC282 = true := by kernel_rfl
theorem mmC290_chk : chk Try.prog noTab (spKnown 9) 300 mmC290 = true := by kernel_rfl
theorem mmC294_chk : chk Try.prog noTab (spKnown 9) 300 mmC294 = true := by kernel_rfl
theorem mmC298_chk : chk Try.prog noTab (spKnown 9) 300 mmC298 = true := by kernel_rfl
theorem mmC2106_chk : chk Try.prog noTab (spKnown 9) 300 mmC2106 = true := by kernel_rfl
theorem mmC2110_chk : chk Try.prog noTab (spKnown 9) 300 mmC2110 = true := by kernel_rfl
theorem mmC2114_chk : chk Try.prog noTab (spKnown 9) 300 mmC2114 = true := by kernel_rfl
theorem mmC2122_chk : chk Try.prog noTab (spKnown 9) 300 mmC2122 = true := by kernel_rfl
theorem mmC2126_chk : chk Try.prog noTab (spKnown 9) 300 mmC2126 = true := by kernel_rfl
theorem mmC2130_chk : chk Try.prog noTab (spKnown 9) 300 mmC2130 = true := by kernel_rfl
theorem mmC2134_chk : chk Try.prog noTab (spKnown 9) 300 mmC2134 = true := by kernel_rfl
theorem mmC2142_chk : chk Try.prog noTab (spKnown 9) 300 mmC2142 = true := by kernel_rfl
theorem mmC2146_chk : chk Try.prog noTab (spKnown 9) 300 mmC2146 = true := by kernel_rfl
theorem mmC2150_chk : chk Try.prog noTab (spKnown 9) 300 mmC2150 = true := by kernel_rfl
theorem mmC2159_chk : chk Try.prog noTab (spKnown 9) 300 mmC2159 = true := by kernel_rfl
theorem mmC2163_chk : chk Try.prog noTab (spKnown 9) 300 mmC2163 = true := by kernel_rfl
theorem mmC2167_chk : chk Try.prog noTab (spKnown 9) 300 mmC2167 = true := by kernel_rfl
theorem mmC2171_chk : chk Try.prog noTab (spKnown 9) 300 mmC2171 = true := by kernel_rfl
theorem mmC2181_chk : chk Try.prog noTab (spKnown 9) 300 mmC2181 = true := by kernel_rfl
theorem mmC2185_chk : chk Try.prog noTab (spKnown 9) 300 mmC2185 = true := by kernel_rfl
theorem mmC2189_chk : chk Try.prog noTab (spKnown 9) 300 mmC2189 = true := by kernel_rfl
theorem mmC2193_chk : chk Try.prog noTab (spKnown 9) 300 mmC2193 = true := by kernel_rfl
theorem mmC2197_chk : chk Try.prog noTab (spKnown 9) 300 mmC2197 = true := by kernel_rfl
theorem mmC2207_chk : chk Try.prog noTab (spKnown 9) 300 mmC2207 = true := by kernel_rfl
theorem mmC2211_chk : chk Try.prog noTab (spKnown 9) 300 mmC2211 = true := by kernel_rfl
theorem mmC2215_chk : chk Try.prog noTab (spKnown 9) 300 mmC2215 = true := by kernel_rfl
theorem mmC2219_chk : chk Try.prog noTab (spKnown 9) 300 mmC2219 = true := by kernel_rfl
theorem mmC2229_chk : chk Try.prog noTab (spKnown 9) 300 mmC2229 = true := by kernel_rfl
theorem mmC2233_chk : chk Try.prog noTab (spKnown 9) 300 mmC2233 = true := by kernel_rfl
theorem mmC2237_chk : chk Try.prog noTab (spKnown 9) 300 mmC2237 = true := by kernel_rfl
theorem mmC2241_chk : chk Try.prog noTab (spKnown 9) 300 mmC2241 = true := by kernel_rfl
theorem mmC2245_chk : chk Try.prog noTab (spKnown 9) 300 mmC2245 = true := by kernel_rfl
theorem mmC2255_chk : chk Try.prog noTab (spKnown 9) 300 mmC2255 = true := by kernel_rfl
theorem mmC2259_chk : chk Try.prog noTab (spKnown 9) 300 mmC2259 = true := by kernel_rfl
theorem mmC2263_chk : chk Try.prog noTab (spKnown 9) 300 mmC2263 = true := by kernel_rfl
theorem mmC2267_chk : chk Try.prog noTab (spKnown 9) 300 mmC2267 = true := by kernel_rfl
theorem mmC2271_chk : chk Try.prog noTab (spKnown 9) 300 mmC2271 = true := by kernel_rfl
theorem mmC222_chk : chk Try.prog noTab (spKnown 9) 300 mmC222 = true := by kernel_rfl
theorem mmC272_chk : chk Try.prog noTab (spKnown 9) 300 mmC272 = true := by kernel_rfl
theorem mmC2138_chk : chk Try.prog noTab (spKnown 9) 300 mmC2138 = true := by kernel_rfl
theorem mmC2227_chk : chk Try.prog noTab (spKnown 9) 300 mmC2227 = true := by kernel_rfl
end Go.Proofs.Ytjljmohpgjiplaa.ev
