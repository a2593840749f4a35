/-
  Calls worked out ahead: checked. Conditions: none.
-/
import Derived.Test.YtjljmohpgjiplaaEvC2Da
import Derived.Test.YtjljmohpgjiplaaEvC2Db
import Derived.Test.YtjljmohpgjiplaaEvC2Dc
import Derived.Test.YtjljmohpgjiplaaEvC2Dd
import Derived.KernelRfl
namespace Go.Proofs.Ytjljmohpgjiplaa.ev
set_option maxRecDepth 1000000
set_option linter.unusedVariables false
theorem mmC2226_chk : chk Try.prog noTab (spTwo (spM [mmC2225]) (spKnown 9)) 300 mmC2226 = true := by kernel_rfl
theorem mmC2157_chk : chk Try.prog noTab (spTwo (spM [mmC2156]) (spKnown 9)) 300 mmC2157 = true := by kernel_rfl
theorem mmC22_chk : chk Try.prog noTab (spKnown 9) 300 mmC22 = true := by kernel_rfl
theorem mmC2119_chk : chk Try.prog noTab (spTwo (spM [mmC2118]) (spKnown 9)) 300 mmC2119 = true := by kernel_rfl
theorem mmC2102_chk : chk Try.prog noTab (spTwo (spM [mmC2101]) (spKnown 9)) 300 mmC2102 = true := by kernel_rfl
theorem chases10_says : says (fxCall Try.prog noTab (spTwo (spM [mmC271, mmC269]) (spKnown 9)) 300 5 [.int .i64 10] 0 .lf) = some true := by kernel_rfl
theorem mmC21_chk : chk Try.prog noTab (spKnown 9) 300 mmC21 = true := by kernel_rfl
theorem chases6_says : says (fxCall Try.prog noTab (spTwo (spM [mmC221, mmC220]) (spKnown 9)) 300 5 [.int .i64 6] 0 .lf) = some true := by kernel_rfl
theorem chases5_says : says (fxCall Try.prog noTab (spTwo (spM [mmC212, mmC211]) (spKnown 9)) 300 5 [.int .i64 5] 0 .lf) = some true := by kernel_rfl
theorem mmC257_chk : chk Try.prog noTab (spTwo (spM [mmC256]) (spKnown 9)) 300 mmC257 = true := by kernel_rfl
theorem mmC270_chk : chk Try.prog noTab (spKnown 9) 300 mmC270 = true := by kernel_rfl
theorem mmC2199_chk : chk Try.prog noTab (spTwo (spM [mmC2198]) (spKnown 9)) 300 mmC2199 = true := by kernel_rfl
theorem mmC2155_chk : chk Try.prog noTab (spTwo (spM [mmC2154]) (spKnown 9)) 300 mmC2155 = true := by kernel_rfl
theorem mmC2178_chk : chk Try.prog noTab (spTwo (spM [mmC2177]) (spKnown 9)) 300 mmC2178 = true := by kernel_rfl
theorem mmC2224_chk : chk Try.prog noTab (spKnown 9) 300 mmC2224 = true := by kernel_rfl
theorem mmC2177_chk : chk Try.prog noTab (spKnown 9) 300 mmC2177 = true := by kernel_rfl
theorem chases15_says : says (fxCall Try.prog noTab (spTwo (spM [mmC2157, mmC2155]) (spKnown 9)) 300 5 [.int .i64 15] 0 .lf) = some true := by kernel_rfl
theorem mmC2175_chk : chk Try.prog noTab (spTwo (spM [mmC2174, mmC2173, mmC2172, mmC2171, mmC2170, mmC2169, mmC2168, mmC2167, mmC2166, mmC2165, mmC2164, mmC2163, mmC2162, mmC2161, mmC2160, mmC2159, mmC2158]) (spKnown 9)) 300 mmC2175 = true := by kernel_rfl
theorem mmC2117_chk : chk Try.prog noTab (spTwo (spM [mmC2116, mmC2115, mmC2114, mmC2113, mmC2112, mmC2111, mmC2110, mmC2109, mmC2108, mmC2107, mmC2106, mmC2105, mmC2104, mmC2103]) (spKnown 9)) 300 mmC2117 = true := by kernel_rfl
theorem mmC255_chk : chk Try.prog noTab (spTwo (spM [mmC254, mmC253, mmC252, mmC251, mmC250, mmC249, mmC248, mmC247, mmC246, mmC245]) (spKnown 9)) 300 mmC255 = true := by kernel_rfl
theorem mmC211_chk : chk Try.prog noTab (spTwo (spM [mmC210, mmC29, mmC28, mmC27, mmC26, mmC25]) (spKnown 9)) 300 mmC211 = true := by kernel_rfl
theorem mmC29_chk : chk Try.prog noTab (spKnown 9) 300 mmC29 = true := by kernel_rfl
theorem mmC216_chk : chk Try.prog noTab (spKnown 9) 300 mmC216 = true := by kernel_rfl
theorem mmC223_chk : chk Try.prog noTab (spKnown 9) 300 mmC223 = true := by kernel_rfl
theorem mmC227_chk : chk Try.prog noTab (spKnown 9) 300 mmC227 = true := by kernel_rfl
theorem mmC235_chk : chk Try.prog noTab (spKnown 9) 300 mmC235 = true := by kernel_rfl
theorem mmC239_chk : chk Try.prog noTab (spKnown 9) 300 mmC239 = true := by kernel_rfl
theorem mmC247_chk : chk Try.prog noTab (spKnown 9) 300 mmC247 = true := by kernel_rfl
theorem mmC251_chk : chk Try.prog noTab (spKnown 9) 300 mmC251 = true := by kernel_rfl
theorem mmC259_chk : chk Try.prog noTab (spKnown 9) 300 mmC259 = true := by kernel_rfl
theorem mmC263_chk : chk Try.prog noTab (spKnown 9) 300 mmC263 = true := by kernel_rfl
theorem mmC267_chk : chk Try.prog noTab (spKnown 9) 300 mmC267 = true := by kernel_rfl
theorem mmC275_chk : chk Try.prog noTab (spKnown 9) 300 mmC275 = true := by kernel_rfl
theorem mmC279_chk : chk Try.prog noTab (spKnown 9) 300 mmC279 = true := by kernel_rfl
theorem mmC283_chk : chk Try.prog noTab (spKnown 9) 300 mmC283 = true := by kernel_rfl
theorem mmC291_chk : chk Try.prog noTab (spKnown 9) 300 mmC291 = true := by kernel_rfl
theorem mmC295_chk : chk Try.prog noTab (spKnown 9) 300 mmC295 = true := by kernel_rfl
theorem mmC299_chk : chk Try.prog noTab (spKnown 9) 300 mmC299 = true := by kernel_rfl
theorem mmC2107_chk : chk Try.prog noTab (spKnown 9) 300 mmC2107 = true := by kernel_rfl
theorem mmC2111_chk : chk Try.prog noTab (spKnown 9) 300 mmC2111 = true := by kernel_rfl
theorem mmC2115_chk : chk Try.prog noTab (spKnown 9) 300 mmC2115 = true := by kernel_rfl
theorem mmC2123_chk : chk Try.prog noTab (spKnown 9) 300 mmC2123 = true := by kernel_rfl
theorem mmC2127_chk : chk Try.prog noTab (spKnown 9) 300 mmC2127 = true := by kernel_rfl
theorem mmC2131_chk : chk Try.prog noTab (spKnown 9) 300 mmC2131 = true := by kernel_rfl
theorem mmC2139_chk : chk Try.prog noTab (spKnown 9) 300 mmC2139 = true := by kernel_rfl
theorem mmC2143_chk : chk Try.prog noTab (spKnown 9) 300 mmC2143 = true := by kernel_rfl
theorem mmC2147_chk : chk Try.prog noTab (spKnown 9) 300 mmC2147 = true := by kernel_rfl
theorem mmC2151_chk : chk Try.prog noTab (spKnown 9) 300 mmC2151 = true := by kernel_rfl
theorem mmC2160_chk : chk Try.prog noTab (spKnown 9) 300 mmC2160 = true := by kernel_rfl
theorem mmC2164_chk : chk Try.prog noTab (spKnown 9) 300 mmC2164 = true := by kernel_rfl
theorem mmC2168_chk : chk Try.prog noTab (spKnown 9) 300 mmC2168 = true := by kernel_rfl
theorem mmC2172_chk : chk Try.prog noTab (spKnown 9) 300 mmC2172 = true := by kernel_rfl
theorem mmC2182_chk : chk Try.prog noTab (spKnown 9) 300 mmC2182 = true := by kernel_rfl
theorem mmC2186_chk : chk Try.prog noTab (spKnown 9) 300 mmC2186 = true := by kernel_rfl
theorem mmC2190_chk : chk Try.prog noTab (spKnown 9) 300 mmC2190 = true := by kernel_rfl
theorem mmC2194_chk : chk Try.prog noTab (spKnown 9) 300 mmC2194 = true := by kernel_rfl
theorem mmC2204_chk : chk Try.prog noTab (spKnown 9) 300 mmC2204 = true := by kernel_rfl
theorem mmC2208_chk : chk Try.prog noTab (spKnown 9) 300 mmC2208 = true := by kernel_rfl
theorem mmC2212_chk : chk Try.prog noTab (spKnown 9) 300 mmC2212 = true := by kernel_rfl
theorem mmC2216_chk : chk Try.prog noTab (spKnown 9) 300 mmC2216 = true := by kernel_rfl
theorem mmC2220_chk : chk Try.prog noTab (spKnown 9) 300 mmC2220 = true := by kernel_rfl
theorem mmC2230_chk : chk Try.prog noTab (spKnown 9) 300 mmC2230 = true := by kernel_rfl
theorem mmC2234_chk : chk Try.prog noTab (spKnown 9) 300 mmC2234 = true := by kernel_rfl
theorem mmC2238_chk : chk Try.prog noTab (spKnown 9) 300 mmC2238 = true := by kernel_rfl
theorem mmC2242_chk : chk Try.prog noTab (spKnown 9) 300 mmC2242 = true := by kernel_rfl
theorem mmC2246_chk : chk Try.prog noTab (spKnown 9) 300 mmC2246 = true := by kernel_rfl
theorem mmC2256_chk : chk Try.prog noTab (spKnown 9) 300 mmC2256 = true := by kernel_rfl
theorem mmC2260_chk : chk Try.prog noTab (spKnown 9) 300 mmC2260 = true := by kernel_rfl
theorem mmC2264_chk : chk Try.prog noTab (spKnown 9) 300 mmC2264 = true := by kernel_rfl
theorem mmC2268_chk : chk Try.prog noTab (spKnown 9) 300 mmC2268 = true := by kernel_rfl
theorem mmC2272_chk : chk Try.prog noTab (spKnown 9) 300 mmC2272 = true := by kernel_rfl
theorem mmC245_chk : chk Try.prog noTab (spKnown 9) 300 mmC245 = true := by kernel_rfl
theorem mmC2103_chk : chk Try.prog noTab (spKnown 9) 300 mmC2103 = true := by kernel_rfl
theorem mmC2180_chk : chk Try.prog noTab (spKnown 9) 300 mmC2180 = true := by kernel_rfl
end Go.Proofs.Ytjljmohpgjiplaa.ev
