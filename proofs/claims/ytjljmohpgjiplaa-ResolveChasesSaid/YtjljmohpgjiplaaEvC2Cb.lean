/-
  Calls worked out ahead: checked. Conditions: none.
-/
import Derived.Test.YtjljmohpgjiplaaEvC2Da
import Derived.Test.YtjljmohpgjiplaaEvC2Db
import Derived.Test.YtjljmohpgjiplaaEvC2Dc
import Derived.Test.YtjljmohpgjiplaaEvC2Dd
import Derived.KernelRfl
namespace Go.Proofs.Ytjljmohpgjiplaa.ev
set_option maxRecDepth 1000000
set_option linter.unusedVariables false
theorem mmC2251_chk : chk Try.prog noTab (spTwo (spM [mmC2250]) (spKnown 9)) 300 mmC2251 = true := by kernel_rfl
theorem mmC2137_chk : chk Try.prog noTab (spTwo (spM [mmC2136]) (spKnown 9)) 300 mmC2137 = true := by kernel_rfl
theorem chases0_says : says (fxCall Try.prog noTab (spKnown 9) 300 5 [.int .i64 0] 0 .lf) = some true := by kernel_rfl
theorem chases12_says : says (fxCall Try.prog noTab (spTwo (spM [mmC2102, mmC2100]) (spKnown 9)) 300 5 [.int .i64 12] 0 .lf) = some true := by kernel_rfl
theorem mmC23_chk : chk Try.prog noTab (spKnown 9) 300 mmC23 = true := by kernel_rfl
theorem chases8_says : says (fxCall Try.prog noTab (spTwo (spM [mmC244, mmC242]) (spKnown 9)) 300 5 [.int .i64 8] 0 .lf) = some true := by kernel_rfl
theorem mmC286_chk : chk Try.prog noTab (spTwo (spM [mmC285]) (spKnown 9)) 300 mmC286 = true := by kernel_rfl
theorem chases7_says : says (fxCall Try.prog noTab (spTwo (spM [mmC232, mmC230]) (spKnown 9)) 300 5 [.int .i64 7] 0 .lf) = some true := by kernel_rfl
theorem mmC2274_chk : chk Try.prog noTab (spTwo (spM [mmC2273]) (spKnown 9)) 300 mmC2274 = true := by kernel_rfl
theorem mmC2248_chk : chk Try.prog noTab (spTwo (spM [mmC2247]) (spKnown 9)) 300 mmC2248 = true := by kernel_rfl
theorem chases4_says : says (fxCall Try.prog noTab (spTwo (spM [mmC24, mmC23]) (spKnown 9)) 300 5 [.int .i64 4] 0 .lf) = some true := by kernel_rfl
theorem mmC256_chk : chk Try.prog noTab (spKnown 9) 300 mmC256 = true := by kernel_rfl
theorem mmC2176_chk : chk Try.prog noTab (spTwo (spM [mmC2175]) (spKnown 9)) 300 mmC2176 = true := by kernel_rfl
theorem mmC232_chk : chk Try.prog noTab (spTwo (spM [mmC231]) (spKnown 9)) 300 mmC232 = true := by kernel_rfl
theorem mmC2200_chk : chk Try.prog noTab (spKnown 9) 300 mmC2200 = true := by kernel_rfl
theorem chases20_says : says (fxCall Try.prog noTab (spTwo (spM [mmC2277, mmC2274]) (spKnown 9)) 300 5 [.int .i64 20] 0 .lf) = some true := by kernel_rfl
theorem chases17_says : says (fxCall Try.prog noTab (spTwo (spM [mmC2202, mmC2199]) (spKnown 9)) 300 5 [.int .i64 17] 0 .lf) = some true := by kernel_rfl
theorem mmC2222_chk : chk Try.prog noTab (spTwo (spM [mmC2221, mmC2220, mmC2219, mmC2218, mmC2217, mmC2216, mmC2215, mmC2214, mmC2213, mmC2212, mmC2211, mmC2210, mmC2209, mmC2208, mmC2207, mmC2206, mmC2205, mmC2204, mmC2203]) (spKnown 9)) 300 mmC2222 = true := by kernel_rfl
theorem mmC2135_chk : chk Try.prog noTab (spTwo (spM [mmC2134, mmC2133, mmC2132, mmC2131, mmC2130, mmC2129, mmC2128, mmC2127, mmC2126, mmC2125, mmC2124, mmC2123, mmC2122, mmC2121, mmC2120]) (spKnown 9)) 300 mmC2135 = true := by kernel_rfl
theorem mmC242_chk : chk Try.prog noTab (spTwo (spM [mmC241, mmC240, mmC239, mmC238, mmC237, mmC236, mmC235, mmC234, mmC233]) (spKnown 9)) 300 mmC242 = true := by kernel_rfl
theorem mmC220_chk : chk Try.prog noTab (spTwo (spM [mmC219, mmC218, mmC217, mmC216, mmC215, mmC214, mmC213]) (spKnown 9)) 300 mmC220 = true := by kernel_rfl
theorem mmC210_chk : chk Try.prog noTab (spKnown 9) 300 mmC210 = true := by kernel_rfl
theorem mmC217_chk : chk Try.prog noTab (spKnown 9) 300 mmC217 = true := by kernel_rfl
theorem mmC224_chk : chk Try.prog noTab (spKnown 9) 300 mmC224 = true := by kernel_rfl
theorem mmC228_chk : chk Try.prog noTab (spKnown 9) 300 mmC228 = true := by kernel_rfl
theorem mmC236_chk : chk Try.prog noTab (spKnown 9) 300 mmC236 = true := by kernel_rfl
theorem mmC240_chk : chk Try.prog noTab (spKnown 9) 300 mmC240 = true := by kernel_rfl
theorem mmC248_chk : chk Try.prog noTab (spKnown 9) 300 mmC248 = true := by kernel_rfl
theorem mmC252_chk : chk Try.prog noTab (spKnown 9) 300 mmC252 = true := by kernel_rfl
theorem mmC260_chk : chk Try.prog noTab (spKnown 9) 300 mmC260 = true := by kernel_rfl
theorem mmC264_chk : chk Try.prog noTab (spKnown 9) 300 mmC264 = true := by kernel_rfl
theorem mmC268_chk : chk Try.prog noTab (spKnown 9) 300 mmC268 = true := by kernel_rfl
theorem mmC276_chk : chk Try.prog noTab (spKnown 9) 300 mmC276 = true := by kernel_rfl
theorem mmC280_chk : chk Try.prog noTab (spKnown 9) 300 mmC280 = true := by kernel_rfl
theorem mmC288_chk : chk Try.prog noTab (spKnown 9) 300 mmC288 = true := by kernel_rfl
theorem mmC292_chk : chk Try.prog noTab (spKnown 9) 300 mmC292 = true := by kernel_rfl
theorem mmC296_chk : chk Try.prog noTab (spKnown 9) 300 mmC296 = true := by kernel_rfl
theorem mmC2104_chk : chk Try.prog noTab (spKnown 9) 300 mmC2104 = true := by kernel_rfl
theorem mmC2108_chk : chk Try.prog noTab (spKnown 9) 300 mmC2108 = true := by kernel_rfl
theorem mmC2112_chk : chk Try.prog noTab (spKnown 9) 300 mmC2112 = true := by kernel_rfl
theorem mmC2116_chk : chk Try.prog noTab (spKnown 9) 300 mmC2116 = true := by kernel_rfl
theorem mmC2124_chk : chk Try.prog noTab (spKnown 9) 300 mmC2124 = true := by kernel_rfl
theorem mmC2128_chk : chk Try.prog noTab (spKnown 9) 300 mmC2128 = true := by kernel_rfl
theorem mmC2132_chk : chk Try.prog noTab (spKnown 9) 300 mmC2132 = true := by kernel_rfl
theorem mmC2140_chk : chk Try.prog noTab (spKnown 9) 300 mmC2140 = true := by kernel_rfl
theorem mmC2144_chk : chk Try.prog noTab (spKnown 9) 300 mmC2144 = true := by kernel_rfl
theorem mmC2148_chk : chk Try.prog noTab (spKnown 9) 300 mmC2148 = true := by kernel_rfl
theorem mmC2152_chk : chk Try.prog noTab (spKnown 9) 300 mmC2152 = true := by kernel_rfl
theorem mmC2161_chk : chk Try.prog noTab (spKnown 9) 300 mmC2161 = true := by kernel_rfl
theorem mmC2165_chk : chk Try.prog noTab (spKnown 9) 300 mmC2165 = true := by kernel_rfl
theorem mmC2169_chk : chk Try.prog noTab (spKnown 9) 300 mmC2169 = true := by kernel_rfl
theorem mmC2173_chk : chk Try.prog noTab (spKnown 9) 300 mmC2173 = true := by kernel_rfl
theorem mmC2183_chk : chk Try.prog noTab (spKnown 9) 300 mmC2183 = true := by kernel_rfl
theorem mmC2187_chk : chk Try.prog noTab (spKnown 9) 300 mmC2187 = true := by kernel_rfl
theorem mmC2191_chk : chk Try.prog noTab (spKnown 9) 300 mmC2191 = true := by kernel_rfl
theorem mmC2195_chk : chk Try.prog noTab (spKnown 9) 300 mmC2195 = true := by kernel_rfl
theorem mmC2205_chk : chk Try.prog noTab (spKnown 9) 300 mmC2205 = true := by kernel_rfl
theorem mmC2209_chk : chk Try.prog noTab (spKnown 9) 300 mmC2209 = true := by kernel_rfl
theorem mmC2213_chk : chk Try.prog noTab (spKnown 9) 300 mmC2213 = true := by kernel_rfl
theorem mmC2217_chk : chk Try.prog noTab (spKnown 9) 300 mmC2217 = true := by kernel_rfl
theorem mmC2221_chk : chk Try.prog noTab (spKnown 9) 300 mmC2221 = true := by kernel_rfl
theorem mmC2231_chk : chk Try.prog noTab (spKnown 9) 300 mmC2231 = true := by kernel_rfl
theorem mmC2235_chk : chk Try.prog noTab (spKnown 9) 300 mmC2235 = true := by kernel_rfl
theorem mmC2239_chk : chk Try.prog noTab (spKnown 9) 300 mmC2239 = true := by kernel_rfl
theorem mmC2243_chk : chk Try.prog noTab (spKnown 9) 300 mmC2243 = true := by kernel_rfl
theorem mmC2253_chk : chk Try.prog noTab (spKnown 9) 300 mmC2253 = true := by kernel_rfl
theorem mmC2257_chk : chk Try.prog noTab (spKnown 9) 300 mmC2257 = true := by kernel_rfl
theorem mmC2261_chk : chk Try.prog noTab (spKnown 9) 300 mmC2261 = true := by kernel_rfl
theorem mmC2265_chk : chk Try.prog noTab (spKnown 9) 300 mmC2265 = true := by kernel_rfl
theorem mmC2269_chk : chk Try.prog noTab (spKnown 9) 300 mmC2269 = true := by kernel_rfl
theorem mmC25_chk : chk Try.prog noTab (spKnown 9) 300 mmC25 = true := by kernel_rfl
theorem mmC233_chk : chk Try.prog noTab (spKnown 9) 300 mmC233 = true := by kernel_rfl
theorem mmC287_chk : chk Try.prog noTab (spKnown 9) 300 mmC287 = true := by kernel_rfl
theorem mmC2158_chk : chk Try.prog noTab (spKnown 9) 300 mmC2158 = true := by kernel_rfl
theorem mmC2252_chk : chk Try.prog noTab (spKnown 9) 300 mmC2252 = true := by kernel_rfl
end Go.Proofs.Ytjljmohpgjiplaa.ev
