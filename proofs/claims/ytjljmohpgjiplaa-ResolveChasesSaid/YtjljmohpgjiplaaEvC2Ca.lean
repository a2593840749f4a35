/-
  Calls worked out ahead: checked. Conditions: none.
-/
import Derived.Test.YtjljmohpgjiplaaEvC2Da
import Derived.Test.YtjljmohpgjiplaaEvC2Db
import Derived.Test.YtjljmohpgjiplaaEvC2Dc
import Derived.Test.YtjljmohpgjiplaaEvC2Dd
import Derived.KernelRfl
namespace Go.Proofs.Ytjljmohpgjiplaa.ev
set_option maxRecDepth 1000000
set_option linter.unusedVariables false
theorem mmC2277_chk : chk Try.prog noTab (spTwo (spM [mmC2276]) (spKnown 9)) 300 mmC2277 = true := by kernel_rfl
theorem chases14_says : says (fxCall Try.prog noTab (spTwo (spM [mmC2137, mmC2135]) (spKnown 9)) 300 5 [.int .i64 14] 0 .lf) = some true := by kernel_rfl
theorem chases3_says : says (fxCall Try.prog noTab (spTwo (spM [mmC22]) (spKnown 9)) 300 5 [.int .i64 3] 0 .lf) = some true := by kernel_rfl
theorem mmC221_chk : chk Try.prog noTab (spKnown 9) 300 mmC221 = true := by kernel_rfl
theorem mmC2136_chk : chk Try.prog noTab (spKnown 9) 300 mmC2136 = true := by kernel_rfl
theorem chases9_says : says (fxCall Try.prog noTab (spTwo (spM [mmC257, mmC255]) (spKnown 9)) 300 5 [.int .i64 9] 0 .lf) = some true := by kernel_rfl
theorem mmC212_chk : chk Try.prog noTab (spKnown 9) 300 mmC212 = true := by kernel_rfl
theorem mmC2101_chk : chk Try.prog noTab (spKnown 9) 300 mmC2101 = true := by kernel_rfl
theorem chases1_says : says (fxCall Try.prog noTab (spTwo (spM [mmC20]) (spKnown 9)) 300 5 [.int .i64 1] 0 .lf) = some true := by kernel_rfl
theorem mmC2276_chk : chk Try.prog noTab (spTwo (spM [mmC2275]) (spKnown 9)) 300 mmC2276 = true := by kernel_rfl
theorem mmC2223_chk : chk Try.prog noTab (spTwo (spM [mmC2222]) (spKnown 9)) 300 mmC2223 = true := by kernel_rfl
theorem mmC244_chk : chk Try.prog noTab (spTwo (spM [mmC243]) (spKnown 9)) 300 mmC244 = true := by kernel_rfl
theorem mmC2201_chk : chk Try.prog noTab (spTwo (spM [mmC2200]) (spKnown 9)) 300 mmC2201 = true := by kernel_rfl
theorem mmC2275_chk : chk Try.prog noTab (spKnown 9) 300 mmC2275 = true := by kernel_rfl
theorem mmC2249_chk : chk Try.prog noTab (spKnown 9) 300 mmC2249 = true := by kernel_rfl
theorem chases18_says : says (fxCall Try.prog noTab (spTwo (spM [mmC2226, mmC2223]) (spKnown 9)) 300 5 [.int .i64 18] 0 .lf) = some true := by kernel_rfl
theorem mmC2273_chk : chk Try.prog noTab (spTwo (spM [mmC2272, mmC2271, mmC2270, mmC2269, mmC2268, mmC2267, mmC2266, mmC2265, mmC2264, mmC2263, mmC2262, mmC2261, mmC2260, mmC2259, mmC2258, mmC2257, mmC2256, mmC2255, mmC2254, mmC2253, mmC2252]) (spKnown 9)) 300 mmC2273 = true := by kernel_rfl
theorem mmC2247_chk : chk Try.prog noTab (spTwo (spM [mmC2246, mmC2245, mmC2244, mmC2243, mmC2242, mmC2241, mmC2240, mmC2239, mmC2238, mmC2237, mmC2236, mmC2235, mmC2234, mmC2233, mmC2232, mmC2231, mmC2230, mmC2229, mmC2228, mmC2227]) (spKnown 9)) 300 mmC2247 = true := by kernel_rfl
theorem mmC2154_chk : chk Try.prog noTab (spTwo (spM [mmC2153, mmC2152, mmC2151, mmC2150, mmC2149, mmC2148, mmC2147, mmC2146, mmC2145, mmC2144, mmC2143, mmC2142, mmC2141, mmC2140, mmC2139, mmC2138]) (spKnown 9)) 300 mmC2154 = true := by kernel_rfl
theorem mmC284_chk : chk Try.prog noTab (spTwo (spM [mmC283, mmC282, mmC281, mmC280, mmC279, mmC278, mmC277, mmC276, mmC275, mmC274, mmC273, mmC272]) (spKnown 9)) 300 mmC284 = true := by kernel_rfl
theorem mmC230_chk : chk Try.prog noTab (spTwo (spM [mmC229, mmC228, mmC227, mmC226, mmC225, mmC224, mmC223, mmC222]) (spKnown 9)) 300 mmC230 = true := by kernel_rfl
theorem mmC27_chk : chk Try.prog noTab (spKnown 9) 300 mmC27 = true := by kernel_rfl
theorem mmC214_chk : chk Try.prog noTab (spKnown 9) 300 mmC214 = true := by kernel_rfl
theorem mmC218_chk : chk Try.prog noTab (spKnown 9) 300 mmC218 = true := by kernel_rfl
theorem mmC225_chk : chk Try.prog noTab (spKnown 9) 300 mmC225 = true := by kernel_rfl
theorem mmC229_chk : chk Try.prog noTab (spKnown 9) 300 mmC229 = true := by kernel_rfl
theorem mmC237_chk : chk Try.prog noTab (spKnown 9) 300 mmC237 = true := by kernel_rfl
theorem mmC241_chk : chk Try.prog noTab (spKnown 9) 300 mmC241 = true := by kernel_rfl
theorem mmC249_chk : chk Try.prog noTab (spKnown 9) 300 mmC249 = true := by kernel_rfl
theorem mmC253_chk : chk Try.prog noTab (spKnown 9) 300 mmC253 = true := by kernel_rfl
theorem mmC261_chk : chk Try.prog noTab (spKnown 9) 300 mmC261 = true := by kernel_rfl
theorem mmC265_chk : chk Try.prog noTab (spKnown 9) 300 mmC265 = true := by kernel_rfl
theorem mmC273_chk : chk Try.prog noTab (spKnown 9) 300 mmC273 = true := by kernel_rfl
theorem mmC277_chk : chk Try.prog noTab (spKnown 9) 300 mmC277 = true := by kernel_rfl
theorem mmC281_chk : chk Try.prog noTab (spKnown 9) 300 mmC281 = true := by kernel_rfl
theorem mmC289_chk : chk Try.prog noTab (spKnown 9) 300 mmC289 = true := by kernel_rfl
theorem mmC293_chk : chk Try.prog noTab (spKnown 9) 300 mmC293 = true := by kernel_rfl
theorem mmC297_chk : chk Try.prog noTab (spKnown 9) 300 mmC297 = true := by kernel_rfl
theorem mmC2105_chk : chk Try.prog noTab (spKnown 9) 300 mmC2105 = true := by kernel_rfl
theorem mmC2109_chk : chk Try.prog noTab (spKnown 9) 300 mmC2109 = true := by kernel_rfl
theorem mmC2113_chk : chk Try.prog noTab (spKnown 9) 300 mmC2113 = true := by kernel_rfl
theorem mmC2121_chk : chk Try.prog noTab (spKnown 9) 300 mmC2121 = true := by kernel_rfl
theorem mmC2125_chk : chk Try.prog noTab (spKnown 9) 300 mmC2125 = true := by kernel_rfl
theorem mmC2129_chk : chk Try.prog noTab (spKnown 9) 300 mmC2129 = true := by kernel_rfl
theorem mmC2133_chk : chk Try.prog noTab (spKnown 9) 300 mmC2133 = true := by kernel_rfl
theorem mmC2141_chk : chk Try.prog noTab (spKnown 9) 300 mmC2141 = true := by kernel_rfl
theorem mmC2145_chk : chk Try.prog noTab (spKnown 9) 300 mmC2145 = true := by kernel_rfl
theorem mmC2149_chk : chk Try.prog noTab (spKnown 9) 300 mmC2149 = true := by kernel_rfl
theorem mmC2153_chk : chk Try.prog noTab (spKnown 9) 300 mmC2153 = true := by kernel_rfl
theorem mmC2162_chk : chk Try.prog noTab (spKnown 9) 300 mmC2162 = true := by kernel_rfl
theorem mmC2166_chk : chk Try.prog noTab (spKnown 9) 300 mmC2166 = true := by kernel_rfl
theorem mmC2170_chk : chk Try.prog noTab (spKnown 9) 300 mmC2170 = true := by kernel_rfl
theorem mmC2174_chk : chk Try.prog noTab (spKnown 9) 300 mmC2174 = true := by kernel_rfl
theorem mmC2184_chk : chk Try.prog noTab (spKnown 9) 300 mmC2184 = true := by kernel_rfl
theorem mmC2188_chk : chk Try.prog noTab (spKnown 9) 300 mmC2188 = true := by kernel_rfl
theorem mmC2192_chk : chk Try.prog noTab (spKnown 9) 300 mmC2192 = true := by kernel_rfl
theorem mmC2196_chk : chk Try.prog noTab (spKnown 9) 300 mmC2196 = true := by kernel_rfl
theorem mmC2206_chk : chk Try.prog noTab (spKnown 9) 300 mmC2206 = true := by kernel_rfl
theorem mmC2210_chk : chk Try.prog noTab (spKnown 9) 300 mmC2210 = true := by kernel_rfl
theorem mmC2214_chk : chk Try.prog noTab (spKnown 9) 300 mmC2214 = true := by kernel_rfl
theorem mmC2218_chk : chk Try.prog noTab (spKnown 9) 300 mmC2218 = true := by kernel_rfl
theorem mmC2228_chk : chk Try.prog noTab (spKnown 9) 300 mmC2228 = true := by kernel_rfl
theorem mmC2232_chk : chk Try.prog noTab (spKnown 9) 300 mmC2232 = true := by kernel_rfl
theorem mmC2236_chk : chk Try.prog noTab (spKnown 9) 300 mmC2236 = true := by kernel_rfl
theorem mmC2240_chk : chk Try.prog noTab (spKnown 9) 300 mmC2240 = true := by kernel_rfl
theorem mmC2244_chk : chk Try.prog noTab (spKnown 9) 300 mmC2244 = true := by kernel_rfl
theorem mmC2254_chk : chk Try.prog noTab (spKnown 9) 300 mmC2254 = true := by kernel_rfl
theorem mmC2258_chk : chk Try.prog noTab (spKnown 9) 300 mmC2258 = true := by kernel_rfl
theorem mmC2262_chk : chk Try.prog noTab (spKnown 9) 300 mmC2262 = true := by kernel_rfl
theorem mmC2266_chk : chk Try.prog noTab (spKnown 9) 300 mmC2266 = true := by kernel_rfl
theorem mmC2270_chk : chk Try.prog noTab (spKnown 9) 300 mmC2270 = true := by kernel_rfl
theorem mmC213_chk : chk Try.prog noTab (spKnown 9) 300 mmC213 = true := by kernel_rfl
theorem mmC258_chk : chk Try.prog noTab (spKnown 9) 300 mmC258 = true := by kernel_rfl
theorem mmC2120_chk : chk Try.prog noTab (spKnown 9) 300 mmC2120 = true := by kernel_rfl
theorem mmC2203_chk : chk Try.prog noTab (spKnown 9) 300 mmC2203 = true := by kernel_rfl
end Go.Proofs.Ytjljmohpgjiplaa.ev
