/-
  Put together. Conditions: none.
-/
import Derived.Test.YtjljmohpgjiplaaEvC2Ca
import Derived.Test.YtjljmohpgjiplaaEvC2Cb
import Derived.Test.YtjljmohpgjiplaaEvC2Cc
import Derived.Test.YtjljmohpgjiplaaEvC2Cd
namespace Go.Proofs.Ytjljmohpgjiplaa.ev
set_option maxRecDepth 1000000
set_option linter.unusedVariables false
theorem mmC20_ok : @MemoOK E0 Try.prog mmC20 := letI : Env := E0; memo (spKnown_ok knownBody known) noTab_ok mmC20_chk
theorem mmC21_ok : @MemoOK E0 Try.prog mmC21 := letI : Env := E0; memo (spKnown_ok knownBody known) noTab_ok mmC21_chk
theorem mmC22_ok : @MemoOK E0 Try.prog mmC22 := letI : Env := E0; memo (spKnown_ok knownBody known) noTab_ok mmC22_chk
theorem mmC23_ok : @MemoOK E0 Try.prog mmC23 := letI : Env := E0; memo (spKnown_ok knownBody known) noTab_ok mmC23_chk
theorem mmC24_ok : @MemoOK E0 Try.prog mmC24 := letI : Env := E0; memo (spKnown_ok knownBody known) noTab_ok mmC24_chk
theorem mmC25_ok : @MemoOK E0 Try.prog mmC25 := letI : Env := E0; memo (spKnown_ok knownBody known) noTab_ok mmC25_chk
theorem mmC26_ok : @MemoOK E0 Try.prog mmC26 := letI : Env := E0; memo (spKnown_ok knownBody known) noTab_ok mmC26_chk
theorem mmC27_ok : @MemoOK E0 Try.prog mmC27 := letI : Env := E0; memo (spKnown_ok knownBody known) noTab_ok mmC27_chk
theorem mmC28_ok : @MemoOK E0 Try.prog mmC28 := letI : Env := E0; memo (spKnown_ok knownBody known) noTab_ok mmC28_chk
theorem mmC29_ok : @MemoOK E0 Try.prog mmC29 := letI : Env := E0; memo (spKnown_ok knownBody known) noTab_ok mmC29_chk
theorem mmC210_ok : @MemoOK E0 Try.prog mmC210 := letI : Env := E0; memo (spKnown_ok knownBody known) noTab_ok mmC210_chk
theorem mmC211_ok : @MemoOK E0 Try.prog mmC211 := letI : Env := E0; memo (spTwo_ok (spM_ok (allCons mmC210_ok (allCons mmC29_ok (allCons mmC28_ok (allCons mmC27_ok (allCons mmC26_ok (allCons mmC25_ok allNil))))))) (spKnown_ok knownBody known)) noTab_ok mmC211_chk
theorem mmC212_ok : @MemoOK E0 Try.prog mmC212 := letI : Env := E0; memo (spKnown_ok knownBody known) noTab_ok mmC212_chk
theorem mmC213_ok : @MemoOK E0 Try.prog mmC213 := letI : Env := E0; memo (spKnown_ok knownBody known) noTab_ok mmC213_chk
theorem mmC214_ok : @MemoOK E0 Try.prog mmC214 := letI : Env := E0; memo (spKnown_ok knownBody known) noTab_ok mmC214_chk
theorem mmC215_ok : @MemoOK E0 Try.prog mmC215 := letI : Env := E0; memo (spKnown_ok knownBody known) noTab_ok mmC215_chk
theorem mmC216_ok : @MemoOK E0 Try.prog mmC216 := letI : Env := E0; memo (spKnown_ok knownBody known) noTab_ok mmC216_chk
theorem mmC217_ok : @MemoOK E0 Try.prog mmC217 := letI : Env := E0; memo (spKnown_ok knownBody known) noTab_ok mmC217_chk
theorem mmC218_ok : @MemoOK E0 Try.prog mmC218 := letI : Env := E0; memo (spKnown_ok knownBody known) noTab_ok mmC218_chk
theorem mmC219_ok : @MemoOK E0 Try.prog mmC219 := letI : Env := E0; memo (spKnown_ok knownBody known) noTab_ok mmC219_chk
theorem mmC220_ok : @MemoOK E0 Try.prog mmC220 := letI : Env := E0; memo (spTwo_ok (spM_ok (allCons mmC219_ok (allCons mmC218_ok (allCons mmC217_ok (allCons mmC216_ok (allCons mmC215_ok (allCons mmC214_ok (allCons mmC213_ok allNil)))))))) (spKnown_ok knownBody known)) noTab_ok mmC220_chk
theorem mmC221_ok : @MemoOK E0 Try.prog mmC221 := letI : Env := E0; memo (spKnown_ok knownBody known) noTab_ok mmC221_chk
theorem mmC222_ok : @MemoOK E0 Try.prog mmC222 := letI : Env := E0; memo (spKnown_ok knownBody known) noTab_ok mmC222_chk
theorem mmC223_ok : @MemoOK E0 Try.prog mmC223 := letI : Env := E0; memo (spKnown_ok knownBody known) noTab_ok mmC223_chk
theorem mmC224_ok : @MemoOK E0 Try.prog mmC224 := letI : Env := E0; memo (spKnown_ok knownBody known) noTab_ok mmC224_chk
theorem mmC225_ok : @MemoOK E0 Try.prog mmC225 := letI : Env := E0; memo (spKnown_ok knownBody known) noTab_ok mmC225_chk
theorem mmC226_ok : @MemoOK E0 Try.prog mmC226 := letI : Env := E0; memo (spKnown_ok knownBody known) noTab_ok mmC226_chk
theorem mmC227_ok : @MemoOK E0 Try.prog mmC227 := letI : Env := E0; memo (spKnown_ok knownBody known) noTab_ok mmC227_chk
theorem mmC228_ok : @MemoOK E0 Try.prog mmC228 := letI : Env := E0; memo (spKnown_ok knownBody known) noTab_ok mmC228_chk
theorem mmC229_ok : @MemoOK E0 Try.prog mmC229 := letI : Env := E0; memo (spKnown_ok knownBody known) noTab_ok mmC229_chk
theorem mmC230_ok : @MemoOK E0 Try.prog mmC230 := letI : Env := E0; memo (spTwo_ok (spM_ok (allCons mmC229_ok (allCons mmC228_ok (allCons mmC227_ok (allCons mmC226_ok (allCons mmC225_ok (allCons mmC224_ok (allCons mmC223_ok (allCons mmC222_ok allNil))))))))) (spKnown_ok knownBody known)) noTab_ok mmC230_chk
theorem mmC231_ok : @MemoOK E0 Try.prog mmC231 := letI : Env := E0; memo (spKnown_ok knownBody known) noTab_ok mmC231_chk
theorem mmC232_ok : @MemoOK E0 Try.prog mmC232 := letI : Env := E0; memo (spTwo_ok (spM_ok (allCons mmC231_ok allNil)) (spKnown_ok knownBody known)) noTab_ok mmC232_chk
theorem mmC233_ok : @MemoOK E0 Try.prog mmC233 := letI : Env := E0; memo (spKnown_ok knownBody known) noTab_ok mmC233_chk
theorem mmC234_ok : @MemoOK E0 Try.prog mmC234 := letI : Env := E0; memo (spKnown_ok knownBody known) noTab_ok mmC234_chk
theorem mmC235_ok : @MemoOK E0 Try.prog mmC235 := letI : Env := E0; memo (spKnown_ok knownBody known) noTab_ok mmC235_chk
theorem mmC236_ok : @MemoOK E0 Try.prog mmC236 := letI : Env := E0; memo (spKnown_ok knownBody known) noTab_ok mmC236_chk
theorem mmC237_ok : @MemoOK E0 Try.prog mmC237 := letI : Env := E0; memo (spKnown_ok knownBody known) noTab_ok mmC237_chk
theorem mmC238_ok : @MemoOK E0 Try.prog mmC238 := letI : Env := E0; memo (spKnown_ok knownBody known) noTab_ok mmC238_chk
theorem mmC239_ok : @MemoOK E0 Try.prog mmC239 := letI : Env := E0; memo (spKnown_ok knownBody known) noTab_ok mmC239_chk
theorem mmC240_ok : @MemoOK E0 Try.prog mmC240 := letI : Env := E0; memo (spKnown_ok knownBody known) noTab_ok mmC240_chk
theorem mmC241_ok : @MemoOK E0 Try.prog mmC241 := letI : Env := E0; memo (spKnown_ok knownBody known) noTab_ok mmC241_chk
theorem mmC242_ok : @MemoOK E0 Try.prog mmC242 := letI : Env := E0; memo (spTwo_ok (spM_ok (allCons mmC241_ok (allCons mmC240_ok (allCons mmC239_ok (allCons mmC238_ok (allCons mmC237_ok (allCons mmC236_ok (allCons mmC235_ok (allCons mmC234_ok (allCons mmC233_ok allNil)))))))))) (spKnown_ok knownBody known)) noTab_ok mmC242_chk
theorem mmC243_ok : @MemoOK E0 Try.prog mmC243 := letI : Env := E0; memo (spKnown_ok knownBody known) noTab_ok mmC243_chk
theorem mmC244_ok : @MemoOK E0 Try.prog mmC244 := letI : Env := E0; memo (spTwo_ok (spM_ok (allCons mmC243_ok allNil)) (spKnown_ok knownBody known)) noTab_ok mmC244_chk
theorem mmC245_ok : @MemoOK E0 Try.prog mmC245 := letI : Env := E0; memo (spKnown_ok knownBody known) noTab_ok mmC245_chk
theorem mmC246_ok : @MemoOK E0 Try.prog mmC246 := letI : Env := E0; memo (spKnown_ok knownBody known) noTab_ok mmC246_chk
theorem mmC247_ok : @MemoOK E0 Try.prog mmC247 := letI : Env := E0; memo (spKnown_ok knownBody known) noTab_ok mmC247_chk
theorem mmC248_ok : @MemoOK E0 Try.prog mmC248 := letI : Env := E0; memo (spKnown_ok knownBody known) noTab_ok mmC248_chk
theorem mmC249_ok : @MemoOK E0 Try.prog mmC249 := letI : Env := E0; memo (spKnown_ok knownBody known) noTab_ok mmC249_chk
theorem mmC250_ok : @MemoOK E0 Try.prog mmC250 := letI : Env := E0; memo (spKnown_ok knownBody known) noTab_ok mmC250_chk
theorem mmC251_ok : @MemoOK E0 Try.prog mmC251 := letI : Env := E0; memo (spKnown_ok knownBody known) noTab_ok mmC251_chk
theorem mmC252_ok : @MemoOK E0 Try.prog mmC252 := letI : Env := E0; memo (spKnown_ok knownBody known) noTab_ok mmC252_chk
theorem mmC253_ok : @MemoOK E0 Try.prog mmC253 := letI : Env := E0; memo (spKnown_ok knownBody known) noTab_ok mmC253_chk
theorem mmC254_ok : @MemoOK E0 Try.prog mmC254 := letI : Env := E0; memo (spKnown_ok knownBody known) noTab_ok mmC254_chk
theorem mmC255_ok : @MemoOK E0 Try.prog mmC255 := letI : Env := E0; memo (spTwo_ok (spM_ok (allCons mmC254_ok (allCons mmC253_ok (allCons mmC252_ok (allCons mmC251_ok (allCons mmC250_ok (allCons mmC249_ok (allCons mmC248_ok (allCons mmC247_ok (allCons mmC246_ok (allCons mmC245_ok allNil))))))))))) (spKnown_ok knownBody known)) noTab_ok mmC255_chk
theorem mmC256_ok : @MemoOK E0 Try.prog mmC256 := letI : Env := E0; memo (spKnown_ok knownBody known) noTab_ok mmC256_chk
theorem mmC257_ok : @MemoOK E0 Try.prog mmC257 := letI : Env := E0; memo (spTwo_ok (spM_ok (allCons mmC256_ok allNil)) (spKnown_ok knownBody known)) noTab_ok mmC257_chk
theorem mmC258_ok : @MemoOK E0 Try.prog mmC258 := letI : Env := E0; memo (spKnown_ok knownBody known) noTab_ok mmC258_chk
theorem mmC259_ok : @MemoOK E0 Try.prog mmC259 := letI : Env := E0; memo (spKnown_ok knownBody known) noTab_ok mmC259_chk
theorem mmC260_ok : @MemoOK E0 Try.prog mmC260 := letI : Env := E0; memo (spKnown_ok knownBody known) noTab_ok mmC260_chk
theorem mmC261_ok : @MemoOK E0 Try.prog mmC261 := letI : Env := E0; memo (spKnown_ok knownBody known) noTab_ok mmC261_chk
theorem mmC262_ok : @MemoOK E0 Try.prog mmC262 := letI : Env := E0; memo (spKnown_ok knownBody known) noTab_ok mmC262_chk
theorem mmC263_ok : @MemoOK E0 Try.prog mmC263 := letI : Env := E0; memo (spKnown_ok knownBody known) noTab_ok mmC263_chk
theorem mmC264_ok : @MemoOK E0 Try.prog mmC264 := letI : Env := E0; memo (spKnown_ok knownBody known) noTab_ok mmC264_chk
theorem mmC265_ok : @MemoOK E0 Try.prog mmC265 := letI : Env := E0; memo (spKnown_ok knownBody known) noTab_ok mmC265_chk
theorem mmC266_ok : @MemoOK E0 Try.prog mmC266 := letI : Env := E0; memo (spKnown_ok knownBody known) noTab_ok mmC266_chk
theorem mmC267_ok : @MemoOK E0 Try.prog mmC267 := letI : Env := E0; memo (spKnown_ok knownBody known) noTab_ok mmC267_chk
theorem mmC268_ok : @MemoOK E0 Try.prog mmC268 := letI : Env := E0; memo (spKnown_ok knownBody known) noTab_ok mmC268_chk
theorem mmC269_ok : @MemoOK E0 Try.prog mmC269 := letI : Env := E0; memo (spTwo_ok (spM_ok (allCons mmC268_ok (allCons mmC267_ok (allCons mmC266_ok (allCons mmC265_ok (allCons mmC264_ok (allCons mmC263_ok (allCons mmC262_ok (allCons mmC261_ok (allCons mmC260_ok (allCons mmC259_ok (allCons mmC258_ok allNil)))))))))))) (spKnown_ok knownBody known)) noTab_ok mmC269_chk
theorem mmC270_ok : @MemoOK E0 Try.prog mmC270 := letI : Env := E0; memo (spKnown_ok knownBody known) noTab_ok mmC270_chk
theorem mmC271_ok : @MemoOK E0 Try.prog mmC271 := letI : Env := E0; memo (spTwo_ok (spM_ok (allCons mmC270_ok allNil)) (spKnown_ok knownBody known)) noTab_ok mmC271_chk
theorem mmC272_ok : @MemoOK E0 Try.prog mmC272 := letI : Env := E0; memo (spKnown_ok knownBody known) noTab_ok mmC272_chk
theorem mmC273_ok : @MemoOK E0 Try.prog mmC273 := letI : Env := E0; memo (spKnown_ok knownBody known) noTab_ok mmC273_chk
theorem mmC274_ok : @MemoOK E0 Try.prog mmC274 := letI : Env := E0; memo (spKnown_ok knownBody known) noTab_ok mmC274_chk
theorem mmC275_ok : @MemoOK E0 Try.prog mmC275 := letI : Env := E0; memo (spKnown_ok knownBody known) noTab_ok mmC275_chk
theorem mmC276_ok : @MemoOK E0 Try.prog mmC276 := letI : Env := E0; memo (spKnown_ok knownBody known) noTab_ok mmC276_chk
theorem mmC277_ok : @MemoOK E0 Try.prog mmC277 := letI : Env := E0; memo (spKnown_ok knownBody known) noTab_ok mmC277_chk
theorem mmC278_ok : @MemoOK E0 Try.prog mmC278 := letI : Env := E0; memo (spKnown_ok knownBody known) noTab_ok mmC278_chk
theorem mmC279_ok : @MemoOK E0 Try.prog mmC279 := letI : Env := E0; memo (spKnown_ok knownBody known) noTab_ok mmC279_chk
theorem mmC280_ok : @MemoOK E0 Try.prog mmC280 := letI : Env := E0; memo (spKnown_ok knownBody known) noTab_ok mmC280_chk
theorem mmC281_ok : @MemoOK E0 Try.prog mmC281 := letI : Env := E0; memo (spKnown_ok knownBody known) noTab_ok mmC281_chk
theorem mmC282_ok : @MemoOK E0 Try.prog mmC282 := letI : Env := E0; memo (spKnown_ok knownBody known) noTab_ok mmC282_chk
theorem mmC283_ok : @MemoOK E0 Try.prog mmC283 := letI : Env := E0; memo (spKnown_ok knownBody known) noTab_ok mmC283_chk
theorem mmC284_ok : @MemoOK E0 Try.prog mmC284 := letI : Env := E0; memo (spTwo_ok (spM_ok (allCons mmC283_ok (allCons mmC282_ok (allCons mmC281_ok (allCons mmC280_ok (allCons mmC279_ok (allCons mmC278_ok (allCons mmC277_ok (allCons mmC276_ok (allCons mmC275_ok (allCons mmC274_ok (allCons mmC273_ok (allCons mmC272_ok allNil))))))))))))) (spKnown_ok knownBody known)) noTab_ok mmC284_chk
theorem mmC285_ok : @MemoOK E0 Try.prog mmC285 := letI : Env := E0; memo (spKnown_ok knownBody known) noTab_ok mmC285_chk
theorem mmC286_ok : @MemoOK E0 Try.prog mmC286 := letI : Env := E0; memo (spTwo_ok (spM_ok (allCons mmC285_ok allNil)) (spKnown_ok knownBody known)) noTab_ok mmC286_chk
theorem mmC287_ok : @MemoOK E0 Try.prog mmC287 := letI : Env := E0; memo (spKnown_ok knownBody known) noTab_ok mmC287_chk
theorem mmC288_ok : @MemoOK E0 Try.prog mmC288 := letI : Env := E0; memo (spKnown_ok knownBody known) noTab_ok mmC288_chk
theorem mmC289_ok : @MemoOK E0 Try.prog mmC289 := letI : Env := E0; memo (spKnown_ok knownBody known) noTab_ok mmC289_chk
theorem mmC290_ok : @MemoOK E0 Try.prog mmC290 := letI : Env := E0; memo (spKnown_ok knownBody known) noTab_ok mmC290_chk
theorem mmC291_ok : @MemoOK E0 Try.prog mmC291 := letI : Env := E0; memo (spKnown_ok knownBody known) noTab_ok mmC291_chk
theorem mmC292_ok : @MemoOK E0 Try.prog mmC292 := letI : Env := E0; memo (spKnown_ok knownBody known) noTab_ok mmC292_chk
theorem mmC293_ok : @MemoOK E0 Try.prog mmC293 := letI : Env := E0; memo (spKnown_ok knownBody known) noTab_ok mmC293_chk
theorem mmC294_ok : @MemoOK E0 Try.prog mmC294 := letI : Env := E0; memo (spKnown_ok knownBody known) noTab_ok mmC294_chk
theorem mmC295_ok : @MemoOK E0 Try.prog mmC295 := letI : Env := E0; memo (spKnown_ok knownBody known) noTab_ok mmC295_chk
theorem mmC296_ok : @MemoOK E0 Try.prog mmC296 := letI : Env := E0; memo (spKnown_ok knownBody known) noTab_ok mmC296_chk
theorem mmC297_ok : @MemoOK E0 Try.prog mmC297 := letI : Env := E0; memo (spKnown_ok knownBody known) noTab_ok mmC297_chk
theorem mmC298_ok : @MemoOK E0 Try.prog mmC298 := letI : Env := E0; memo (spKnown_ok knownBody known) noTab_ok mmC298_chk
theorem mmC299_ok : @MemoOK E0 Try.prog mmC299 := letI : Env := E0; memo (spKnown_ok knownBody known) noTab_ok mmC299_chk
theorem mmC2100_ok : @MemoOK E0 Try.prog mmC2100 := letI : Env := E0; memo (spTwo_ok (spM_ok (allCons mmC299_ok (allCons mmC298_ok (allCons mmC297_ok (allCons mmC296_ok (allCons mmC295_ok (allCons mmC294_ok (allCons mmC293_ok (allCons mmC292_ok (allCons mmC291_ok (allCons mmC290_ok (allCons mmC289_ok (allCons mmC288_ok (allCons mmC287_ok allNil)))))))))))))) (spKnown_ok knownBody known)) noTab_ok mmC2100_chk
theorem mmC2101_ok : @MemoOK E0 Try.prog mmC2101 := letI : Env := E0; memo (spKnown_ok knownBody known) noTab_ok mmC2101_chk
theorem mmC2102_ok : @MemoOK E0 Try.prog mmC2102 := letI : Env := E0; memo (spTwo_ok (spM_ok (allCons mmC2101_ok allNil)) (spKnown_ok knownBody known)) noTab_ok mmC2102_chk
theorem mmC2103_ok : @MemoOK E0 Try.prog mmC2103 := letI : Env := E0; memo (spKnown_ok knownBody known) noTab_ok mmC2103_chk
theorem mmC2104_ok : @MemoOK E0 Try.prog mmC2104 := letI : Env := E0; memo (spKnown_ok knownBody known) noTab_ok mmC2104_chk
theorem mmC2105_ok : @MemoOK E0 Try.prog mmC2105 := letI : Env := E0; memo (spKnown_ok knownBody known) noTab_ok mmC2105_chk
theorem mmC2106_ok : @MemoOK E0 Try.prog mmC2106 := letI : Env := E0; memo (spKnown_ok knownBody known) noTab_ok mmC2106_chk
theorem mmC2107_ok : @MemoOK E0 Try.prog mmC2107 := letI : Env := E0; memo (spKnown_ok knownBody known) noTab_ok mmC2107_chk
theorem mmC2108_ok : @MemoOK E0 Try.prog mmC2108 := letI : Env := E0; memo (spKnown_ok knownBody known) noTab_ok mmC2108_chk
theorem mmC2109_ok : @MemoOK E0 Try.prog mmC2109 := letI : Env := E0; memo (spKnown_ok knownBody known) noTab_ok mmC2109_chk
theorem mmC2110_ok : @MemoOK E0 Try.prog mmC2110 := letI : Env := E0; memo (spKnown_ok knownBody known) noTab_ok mmC2110_chk
theorem mmC2111_ok : @MemoOK E0 Try.prog mmC2111 := letI : Env := E0; memo (spKnown_ok knownBody known) noTab_ok mmC2111_chk
theorem mmC2112_ok : @MemoOK E0 Try.prog mmC2112 := letI : Env := E0; memo (spKnown_ok knownBody known) noTab_ok mmC2112_chk
theorem mmC2113_ok : @MemoOK E0 Try.prog mmC2113 := letI : Env := E0; memo (spKnown_ok knownBody known) noTab_ok mmC2113_chk
theorem mmC2114_ok : @MemoOK E0 Try.prog mmC2114 := letI : Env := E0; memo (spKnown_ok knownBody known) noTab_ok mmC2114_chk
theorem mmC2115_ok : @MemoOK E0 Try.prog mmC2115 := letI : Env := E0; memo (spKnown_ok knownBody known) noTab_ok mmC2115_chk
theorem mmC2116_ok : @MemoOK E0 Try.prog mmC2116 := letI : Env := E0; memo (spKnown_ok knownBody known) noTab_ok mmC2116_chk
theorem mmC2117_ok : @MemoOK E0 Try.prog mmC2117 := letI : Env := E0; memo (spTwo_ok (spM_ok (allCons mmC2116_ok (allCons mmC2115_ok (allCons mmC2114_ok (allCons mmC2113_ok (allCons mmC2112_ok (allCons mmC2111_ok (allCons mmC2110_ok (allCons mmC2109_ok (allCons mmC2108_ok (allCons mmC2107_ok (allCons mmC2106_ok (allCons mmC2105_ok (allCons mmC2104_ok (allCons mmC2103_ok allNil))))))))))))))) (spKnown_ok knownBody known)) noTab_ok mmC2117_chk
theorem mmC2118_ok : @MemoOK E0 Try.prog mmC2118 := letI : Env := E0; memo (spKnown_ok knownBody known) noTab_ok mmC2118_chk
theorem mmC2119_ok : @MemoOK E0 Try.prog mmC2119 := letI : Env := E0; memo (spTwo_ok (spM_ok (allCons mmC2118_ok allNil)) (spKnown_ok knownBody known)) noTab_ok mmC2119_chk
theorem mmC2120_ok : @MemoOK E0 Try.prog mmC2120 := letI : Env := E0; memo (spKnown_ok knownBody known) noTab_ok mmC2120_chk
theorem mmC2121_ok : @MemoOK E0 Try.prog mmC2121 := letI : Env := E0; memo (spKnown_ok knownBody known) noTab_ok mmC2121_chk
theorem mmC2122_ok : @MemoOK E0 Try.prog mmC2122 := letI : Env := E0; memo (spKnown_ok knownBody known) noTab_ok mmC2122_chk
theorem mmC2123_ok : @MemoOK E0 Try.prog mmC2123 := letI : Env := E0; memo (spKnown_ok knownBody known) noTab_ok mmC2123_chk
theorem mmC2124_ok : @MemoOK E0 Try.prog mmC2124 := letI : Env := E0; memo (spKnown_ok knownBody known) noTab_ok mmC2124_chk
theorem mmC2125_ok : @MemoOK E0 Try.prog mmC2125 := letI : Env := E0; memo (spKnown_ok knownBody known) noTab_ok mmC2125_chk
theorem mmC2126_ok : @MemoOK E0 Try.prog mmC2126 := letI : Env := E0; memo (spKnown_ok knownBody known) noTab_ok mmC2126_chk
theorem mmC2127_ok : @MemoOK E0 Try.prog mmC2127 := letI : Env := E0; memo (spKnown_ok knownBody known) noTab_ok mmC2127_chk
theorem mmC2128_ok : @MemoOK E0 Try.prog mmC2128 := letI : Env := E0; memo (spKnown_ok knownBody known) noTab_ok mmC2128_chk
theorem mmC2129_ok : @MemoOK E0 Try.prog mmC2129 := letI : Env := E0; memo (spKnown_ok knownBody known) noTab_ok mmC2129_chk
theorem mmC2130_ok : @MemoOK E0 Try.prog mmC2130 := letI : Env := E0; memo (spKnown_ok knownBody known) noTab_ok mmC2130_chk
theorem mmC2131_ok : @MemoOK E0 Try.prog mmC2131 := letI : Env := E0; memo (spKnown_ok knownBody known) noTab_ok mmC2131_chk
theorem mmC2132_ok : @MemoOK E0 Try.prog mmC2132 := letI : Env := E0; memo (spKnown_ok knownBody known) noTab_ok mmC2132_chk
theorem mmC2133_ok : @MemoOK E0 Try.prog mmC2133 := letI : Env := E0; memo (spKnown_ok knownBody known) noTab_ok mmC2133_chk
theorem mmC2134_ok : @MemoOK E0 Try.prog mmC2134 := letI : Env := E0; memo (spKnown_ok knownBody known) noTab_ok mmC2134_chk
theorem mmC2135_ok : @MemoOK E0 Try.prog mmC2135 := letI : Env := E0; memo (spTwo_ok (spM_ok (allCons mmC2134_ok (allCons mmC2133_ok (allCons mmC2132_ok (allCons mmC2131_ok (allCons mmC2130_ok (allCons mmC2129_ok (allCons mmC2128_ok (allCons mmC2127_ok (allCons mmC2126_ok (allCons mmC2125_ok (allCons mmC2124_ok (allCons mmC2123_ok (allCons mmC2122_ok (allCons mmC2121_ok (allCons mmC2120_ok allNil)))))))))))))))) (spKnown_ok knownBody known)) noTab_ok mmC2135_chk
theorem mmC2136_ok : @MemoOK E0 Try.prog mmC2136 := letI : Env := E0; memo (spKnown_ok knownBody known) noTab_ok mmC2136_chk
theorem mmC2137_ok : @MemoOK E0 Try.prog mmC2137 := letI : Env := E0; memo (spTwo_ok (spM_ok (allCons mmC2136_ok allNil)) (spKnown_ok knownBody known)) noTab_ok mmC2137_chk
theorem mmC2138_ok : @MemoOK E0 Try.prog mmC2138 := letI : Env := E0; memo (spKnown_ok knownBody known) noTab_ok mmC2138_chk
theorem mmC2139_ok : @MemoOK E0 Try.prog mmC2139 := letI : Env := E0; memo (spKnown_ok knownBody known) noTab_ok mmC2139_chk
theorem mmC2140_ok : @MemoOK E0 Try.prog mmC2140 := letI : Env := E0; memo (spKnown_ok knownBody known) noTab_ok mmC2140_chk
theorem mmC2141_ok : @MemoOK E0 Try.prog mmC2141 := letI : Env := E0; memo (spKnown_ok knownBody known) noTab_ok mmC2141_chk
theorem mmC2142_ok : @MemoOK E0 Try.prog mmC2142 := letI : Env := E0; memo (spKnown_ok knownBody known) noTab_ok mmC2142_chk
theorem mmC2143_ok : @MemoOK E0 Try.prog mmC2143 := letI : Env := E0; memo (spKnown_ok knownBody known) noTab_ok mmC2143_chk
theorem mmC2144_ok : @MemoOK E0 Try.prog mmC2144 := letI : Env := E0; memo (spKnown_ok knownBody known) noTab_ok mmC2144_chk
theorem mmC2145_ok : @MemoOK E0 Try.prog mmC2145 := letI : Env := E0; memo (spKnown_ok knownBody known) noTab_ok mmC2145_chk
theorem mmC2146_ok : @MemoOK E0 Try.prog mmC2146 := letI : Env := E0; memo (spKnown_ok knownBody known) noTab_ok mmC2146_chk
theorem mmC2147_ok : @MemoOK E0 Try.prog mmC2147 := letI : Env := E0; memo (spKnown_ok knownBody known) noTab_ok mmC2147_chk
theorem mmC2148_ok : @MemoOK E0 Try.prog mmC2148 := letI : Env := E0; memo (spKnown_ok knownBody known) noTab_ok mmC2148_chk
theorem mmC2149_ok : @MemoOK E0 Try.prog mmC2149 := letI : Env := E0; memo (spKnown_ok knownBody known) noTab_ok mmC2149_chk
theorem mmC2150_ok : @MemoOK E0 Try.prog mmC2150 := letI : Env := E0; memo (spKnown_ok knownBody known) noTab_ok mmC2150_chk
theorem mmC2151_ok : @MemoOK E0 Try.prog mmC2151 := letI : Env := E0; memo (spKnown_ok knownBody known) noTab_ok mmC2151_chk
theorem mmC2152_ok : @MemoOK E0 Try.prog mmC2152 := letI : Env := E0; memo (spKnown_ok knownBody known) noTab_ok mmC2152_chk
theorem mmC2153_ok : @MemoOK E0 Try.prog mmC2153 := letI : Env := E0; memo (spKnown_ok knownBody known) noTab_ok mmC2153_chk
theorem mmC2154_ok : @MemoOK E0 Try.prog mmC2154 := letI : Env := E0; memo (spTwo_ok (spM_ok (allCons mmC2153_ok (allCons mmC2152_ok (allCons mmC2151_ok (allCons mmC2150_ok (allCons mmC2149_ok (allCons mmC2148_ok (allCons mmC2147_ok (allCons mmC2146_ok (allCons mmC2145_ok (allCons mmC2144_ok (allCons mmC2143_ok (allCons mmC2142_ok (allCons mmC2141_ok (allCons mmC2140_ok (allCons mmC2139_ok (allCons mmC2138_ok allNil))))))))))))))))) (spKnown_ok knownBody known)) noTab_ok mmC2154_chk
theorem mmC2155_ok : @MemoOK E0 Try.prog mmC2155 := letI : Env := E0; memo (spTwo_ok (spM_ok (allCons mmC2154_ok allNil)) (spKnown_ok knownBody known)) noTab_ok mmC2155_chk
theorem mmC2156_ok : @MemoOK E0 Try.prog mmC2156 := letI : Env := E0; memo (spKnown_ok knownBody known) noTab_ok mmC2156_chk
theorem mmC2157_ok : @MemoOK E0 Try.prog mmC2157 := letI : Env := E0; memo (spTwo_ok (spM_ok (allCons mmC2156_ok allNil)) (spKnown_ok knownBody known)) noTab_ok mmC2157_chk
theorem mmC2158_ok : @MemoOK E0 Try.prog mmC2158 := letI : Env := E0; memo (spKnown_ok knownBody known) noTab_ok mmC2158_chk
theorem mmC2159_ok : @MemoOK E0 Try.prog mmC2159 := letI : Env := E0; memo (spKnown_ok knownBody known) noTab_ok mmC2159_chk
theorem mmC2160_ok : @MemoOK E0 Try.prog mmC2160 := letI : Env := E0; memo (spKnown_ok knownBody known) noTab_ok mmC2160_chk
theorem mmC2161_ok : @MemoOK E0 Try.prog mmC2161 := letI : Env := E0; memo (spKnown_ok knownBody known) noTab_ok mmC2161_chk
theorem mmC2162_ok : @MemoOK E0 Try.prog mmC2162 := letI : Env := E0; memo (spKnown_ok knownBody known) noTab_ok mmC2162_chk
theorem mmC2163_ok : @MemoOK E0 Try.prog mmC2163 := letI : Env := E0; memo (spKnown_ok knownBody known) noTab_ok mmC2163_chk
theorem mmC2164_ok : @MemoOK E0 Try.prog mmC2164 := letI : Env := E0; memo (spKnown_ok knownBody known) noTab_ok mmC2164_chk
theorem mmC2165_ok : @MemoOK E0 Try.prog mmC2165 := letI : Env := E0; memo (spKnown_ok knownBody known) noTab_ok mmC2165_chk
theorem mmC2166_ok : @MemoOK E0 Try.prog mmC2166 := letI : Env := E0; memo (spKnown_ok knownBody known) noTab_ok mmC2166_chk
theorem mmC2167_ok : @MemoOK E0 Try.prog mmC2167 := letI : Env := E0; memo (spKnown_ok knownBody known) noTab_ok mmC2167_chk
theorem mmC2168_ok : @MemoOK E0 Try.prog mmC2168 := letI : Env := E0; memo (spKnown_ok knownBody known) noTab_ok mmC2168_chk
theorem mmC2169_ok : @MemoOK E0 Try.prog mmC2169 := letI : Env := E0; memo (spKnown_ok knownBody known) noTab_ok mmC2169_chk
theorem mmC2170_ok : @MemoOK E0 Try.prog mmC2170 := letI : Env := E0; memo (spKnown_ok knownBody known) noTab_ok mmC2170_chk
theorem mmC2171_ok : @MemoOK E0 Try.prog mmC2171 := letI : Env := E0; memo (spKnown_ok knownBody known) noTab_ok mmC2171_chk
theorem mmC2172_ok : @MemoOK E0 Try.prog mmC2172 := letI : Env := E0; memo (spKnown_ok knownBody known) noTab_ok mmC2172_chk
theorem mmC2173_ok : @MemoOK E0 Try.prog mmC2173 := letI : Env := E0; memo (spKnown_ok knownBody known) noTab_ok mmC2173_chk
theorem mmC2174_ok : @MemoOK E0 Try.prog mmC2174 := letI : Env := E0; memo (spKnown_ok knownBody known) noTab_ok mmC2174_chk
theorem mmC2175_ok : @MemoOK E0 Try.prog mmC2175 := letI : Env := E0; memo (spTwo_ok (spM_ok (allCons mmC2174_ok (allCons mmC2173_ok (allCons mmC2172_ok (allCons mmC2171_ok (allCons mmC2170_ok (allCons mmC2169_ok (allCons mmC2168_ok (allCons mmC2167_ok (allCons mmC2166_ok (allCons mmC2165_ok (allCons mmC2164_ok (allCons mmC2163_ok (allCons mmC2162_ok (allCons mmC2161_ok (allCons mmC2160_ok (allCons mmC2159_ok (allCons mmC2158_ok allNil)))))))))))))))))) (spKnown_ok knownBody known)) noTab_ok mmC2175_chk
theorem mmC2176_ok : @MemoOK E0 Try.prog mmC2176 := letI : Env := E0; memo (spTwo_ok (spM_ok (allCons mmC2175_ok allNil)) (spKnown_ok knownBody known)) noTab_ok mmC2176_chk
theorem mmC2177_ok : @MemoOK E0 Try.prog mmC2177 := letI : Env := E0; memo (spKnown_ok knownBody known) noTab_ok mmC2177_chk
theorem mmC2178_ok : @MemoOK E0 Try.prog mmC2178 := letI : Env := E0; memo (spTwo_ok (spM_ok (allCons mmC2177_ok allNil)) (spKnown_ok knownBody known)) noTab_ok mmC2178_chk
theorem mmC2179_ok : @MemoOK E0 Try.prog mmC2179 := letI : Env := E0; memo (spTwo_ok (spM_ok (allCons mmC2178_ok allNil)) (spKnown_ok knownBody known)) noTab_ok mmC2179_chk
theorem mmC2180_ok : @MemoOK E0 Try.prog mmC2180 := letI : Env := E0; memo (spKnown_ok knownBody known) noTab_ok mmC2180_chk
theorem mmC2181_ok : @MemoOK E0 Try.prog mmC2181 := letI : Env := E0; memo (spKnown_ok knownBody known) noTab_ok mmC2181_chk
theorem mmC2182_ok : @MemoOK E0 Try.prog mmC2182 := letI : Env := E0; memo (spKnown_ok knownBody known) noTab_ok mmC2182_chk
theorem mmC2183_ok : @MemoOK E0 Try.prog mmC2183 := letI : Env := E0; memo (spKnown_ok knownBody known) noTab_ok mmC2183_chk
theorem mmC2184_ok : @MemoOK E0 Try.prog mmC2184 := letI : Env := E0; memo (spKnown_ok knownBody known) noTab_ok mmC2184_chk
theorem mmC2185_ok : @MemoOK E0 Try.prog mmC2185 := letI : Env := E0; memo (spKnown_ok knownBody known) noTab_ok mmC2185_chk
theorem mmC2186_ok : @MemoOK E0 Try.prog mmC2186 := letI : Env := E0; memo (spKnown_ok knownBody known) noTab_ok mmC2186_chk
theorem mmC2187_ok : @MemoOK E0 Try.prog mmC2187 := letI : Env := E0; memo (spKnown_ok knownBody known) noTab_ok mmC2187_chk
theorem mmC2188_ok : @MemoOK E0 Try.prog mmC2188 := letI : Env := E0; memo (spKnown_ok knownBody known) noTab_ok mmC2188_chk
theorem mmC2189_ok : @MemoOK E0 Try.prog mmC2189 := letI : Env := E0; memo (spKnown_ok knownBody known) noTab_ok mmC2189_chk
theorem mmC2190_ok : @MemoOK E0 Try.prog mmC2190 := letI : Env := E0; memo (spKnown_ok knownBody known) noTab_ok mmC2190_chk
theorem mmC2191_ok : @MemoOK E0 Try.prog mmC2191 := letI : Env := E0; memo (spKnown_ok knownBody known) noTab_ok mmC2191_chk
theorem mmC2192_ok : @MemoOK E0 Try.prog mmC2192 := letI : Env := E0; memo (spKnown_ok knownBody known) noTab_ok mmC2192_chk
theorem mmC2193_ok : @MemoOK E0 Try.prog mmC2193 := letI : Env := E0; memo (spKnown_ok knownBody known) noTab_ok mmC2193_chk
theorem mmC2194_ok : @MemoOK E0 Try.prog mmC2194 := letI : Env := E0; memo (spKnown_ok knownBody known) noTab_ok mmC2194_chk
theorem mmC2195_ok : @MemoOK E0 Try.prog mmC2195 := letI : Env := E0; memo (spKnown_ok knownBody known) noTab_ok mmC2195_chk
theorem mmC2196_ok : @MemoOK E0 Try.prog mmC2196 := letI : Env := E0; memo (spKnown_ok knownBody known) noTab_ok mmC2196_chk
theorem mmC2197_ok : @MemoOK E0 Try.prog mmC2197 := letI : Env := E0; memo (spKnown_ok knownBody known) noTab_ok mmC2197_chk
theorem mmC2198_ok : @MemoOK E0 Try.prog mmC2198 := letI : Env := E0; memo (spTwo_ok (spM_ok (allCons mmC2197_ok (allCons mmC2196_ok (allCons mmC2195_ok (allCons mmC2194_ok (allCons mmC2193_ok (allCons mmC2192_ok (allCons mmC2191_ok (allCons mmC2190_ok (allCons mmC2189_ok (allCons mmC2188_ok (allCons mmC2187_ok (allCons mmC2186_ok (allCons mmC2185_ok (allCons mmC2184_ok (allCons mmC2183_ok (allCons mmC2182_ok (allCons mmC2181_ok (allCons mmC2180_ok allNil))))))))))))))))))) (spKnown_ok knownBody known)) noTab_ok mmC2198_chk
theorem mmC2199_ok : @MemoOK E0 Try.prog mmC2199 := letI : Env := E0; memo (spTwo_ok (spM_ok (allCons mmC2198_ok allNil)) (spKnown_ok knownBody known)) noTab_ok mmC2199_chk
theorem mmC2200_ok : @MemoOK E0 Try.prog mmC2200 := letI : Env := E0; memo (spKnown_ok knownBody known) noTab_ok mmC2200_chk
theorem mmC2201_ok : @MemoOK E0 Try.prog mmC2201 := letI : Env := E0; memo (spTwo_ok (spM_ok (allCons mmC2200_ok allNil)) (spKnown_ok knownBody known)) noTab_ok mmC2201_chk
theorem mmC2202_ok : @MemoOK E0 Try.prog mmC2202 := letI : Env := E0; memo (spTwo_ok (spM_ok (allCons mmC2201_ok allNil)) (spKnown_ok knownBody known)) noTab_ok mmC2202_chk
theorem mmC2203_ok : @MemoOK E0 Try.prog mmC2203 := letI : Env := E0; memo (spKnown_ok knownBody known) noTab_ok mmC2203_chk
theorem mmC2204_ok : @MemoOK E0 Try.prog mmC2204 := letI : Env := E0; memo (spKnown_ok knownBody known) noTab_ok mmC2204_chk
theorem mmC2205_ok : @MemoOK E0 Try.prog mmC2205 := letI : Env := E0; memo (spKnown_ok knownBody known) noTab_ok mmC2205_chk
theorem mmC2206_ok : @MemoOK E0 Try.prog mmC2206 := letI : Env := E0; memo (spKnown_ok knownBody known) noTab_ok mmC2206_chk
theorem mmC2207_ok : @MemoOK E0 Try.prog mmC2207 := letI : Env := E0; memo (spKnown_ok knownBody known) noTab_ok mmC2207_chk
theorem mmC2208_ok : @MemoOK E0 Try.prog mmC2208 := letI : Env := E0; memo (spKnown_ok knownBody known) noTab_ok mmC2208_chk
theorem mmC2209_ok : @MemoOK E0 Try.prog mmC2209 := letI : Env := E0; memo (spKnown_ok knownBody known) noTab_ok mmC2209_chk
theorem mmC2210_ok : @MemoOK E0 Try.prog mmC2210 := letI : Env := E0; memo (spKnown_ok knownBody known) noTab_ok mmC2210_chk
theorem mmC2211_ok : @MemoOK E0 Try.prog mmC2211 := letI : Env := E0; memo (spKnown_ok knownBody known) noTab_ok mmC2211_chk
theorem mmC2212_ok : @MemoOK E0 Try.prog mmC2212 := letI : Env := E0; memo (spKnown_ok knownBody known) noTab_ok mmC2212_chk
theorem mmC2213_ok : @MemoOK E0 Try.prog mmC2213 := letI : Env := E0; memo (spKnown_ok knownBody known) noTab_ok mmC2213_chk
theorem mmC2214_ok : @MemoOK E0 Try.prog mmC2214 := letI : Env := E0; memo (spKnown_ok knownBody known) noTab_ok mmC2214_chk
theorem mmC2215_ok : @MemoOK E0 Try.prog mmC2215 := letI : Env := E0; memo (spKnown_ok knownBody known) noTab_ok mmC2215_chk
theorem mmC2216_ok : @MemoOK E0 Try.prog mmC2216 := letI : Env := E0; memo (spKnown_ok knownBody known) noTab_ok mmC2216_chk
theorem mmC2217_ok : @MemoOK E0 Try.prog mmC2217 := letI : Env := E0; memo (spKnown_ok knownBody known) noTab_ok mmC2217_chk
theorem mmC2218_ok : @MemoOK E0 Try.prog mmC2218 := letI : Env := E0; memo (spKnown_ok knownBody known) noTab_ok mmC2218_chk
theorem mmC2219_ok : @MemoOK E0 Try.prog mmC2219 := letI : Env := E0; memo (spKnown_ok knownBody known) noTab_ok mmC2219_chk
theorem mmC2220_ok : @MemoOK E0 Try.prog mmC2220 := letI : Env := E0; memo (spKnown_ok knownBody known) noTab_ok mmC2220_chk
theorem mmC2221_ok : @MemoOK E0 Try.prog mmC2221 := letI : Env := E0; memo (spKnown_ok knownBody known) noTab_ok mmC2221_chk
theorem mmC2222_ok : @MemoOK E0 Try.prog mmC2222 := letI : Env := E0; memo (spTwo_ok (spM_ok (allCons mmC2221_ok (allCons mmC2220_ok (allCons mmC2219_ok (allCons mmC2218_ok (allCons mmC2217_ok (allCons mmC2216_ok (allCons mmC2215_ok (allCons mmC2214_ok (allCons mmC2213_ok (allCons mmC2212_ok (allCons mmC2211_ok (allCons mmC2210_ok (allCons mmC2209_ok (allCons mmC2208_ok (allCons mmC2207_ok (allCons mmC2206_ok (allCons mmC2205_ok (allCons mmC2204_ok (allCons mmC2203_ok allNil)))))))))))))))))))) (spKnown_ok knownBody known)) noTab_ok mmC2222_chk
theorem mmC2223_ok : @MemoOK E0 Try.prog mmC2223 := letI : Env := E0; memo (spTwo_ok (spM_ok (allCons mmC2222_ok allNil)) (spKnown_ok knownBody known)) noTab_ok mmC2223_chk
theorem mmC2224_ok : @MemoOK E0 Try.prog mmC2224 := letI : Env := E0; memo (spKnown_ok knownBody known) noTab_ok mmC2224_chk
theorem mmC2225_ok : @MemoOK E0 Try.prog mmC2225 := letI : Env := E0; memo (spTwo_ok (spM_ok (allCons mmC2224_ok allNil)) (spKnown_ok knownBody known)) noTab_ok mmC2225_chk
theorem mmC2226_ok : @MemoOK E0 Try.prog mmC2226 := letI : Env := E0; memo (spTwo_ok (spM_ok (allCons mmC2225_ok allNil)) (spKnown_ok knownBody known)) noTab_ok mmC2226_chk
theorem mmC2227_ok : @MemoOK E0 Try.prog mmC2227 := letI : Env := E0; memo (spKnown_ok knownBody known) noTab_ok mmC2227_chk
theorem mmC2228_ok : @MemoOK E0 Try.prog mmC2228 := letI : Env := E0; memo (spKnown_ok knownBody known) noTab_ok mmC2228_chk
theorem mmC2229_ok : @MemoOK E0 Try.prog mmC2229 := letI : Env := E0; memo (spKnown_ok knownBody known) noTab_ok mmC2229_chk
theorem mmC2230_ok : @MemoOK E0 Try.prog mmC2230 := letI : Env := E0; memo (spKnown_ok knownBody known) noTab_ok mmC2230_chk
theorem mmC2231_ok : @MemoOK E0 Try.prog mmC2231 := letI : Env := E0; memo (spKnown_ok knownBody known) noTab_ok mmC2231_chk
theorem mmC2232_ok : @MemoOK E0 Try.prog mmC2232 := letI : Env := E0; memo (spKnown_ok knownBody known) noTab_ok mmC2232_chk
theorem mmC2233_ok : @MemoOK E0 Try.prog mmC2233 := letI : Env := E0; memo (spKnown_ok knownBody known) noTab_ok mmC2233_chk
theorem mmC2234_ok : @MemoOK E0 Try.prog mmC2234 := letI : Env := E0; memo (spKnown_ok knownBody known) noTab_ok mmC2234_chk
theorem mmC2235_ok : @MemoOK E0 Try.prog mmC2235 := letI : Env := E0; memo (spKnown_ok knownBody known) noTab_ok mmC2235_chk
theorem mmC2236_ok : @MemoOK E0 Try.prog mmC2236 := letI : Env := E0; memo (spKnown_ok knownBody known) noTab_ok mmC2236_chk
theorem mmC2237_ok : @MemoOK E0 Try.prog mmC2237 := letI : Env := E0; memo (spKnown_ok knownBody known) noTab_ok mmC2237_chk
theorem mmC2238_ok : @MemoOK E0 Try.prog mmC2238 := letI : Env := E0; memo (spKnown_ok knownBody known) noTab_ok mmC2238_chk
theorem mmC2239_ok : @MemoOK E0 Try.prog mmC2239 := letI : Env := E0; memo (spKnown_ok knownBody known) noTab_ok mmC2239_chk
theorem mmC2240_ok : @MemoOK E0 Try.prog mmC2240 := letI : Env := E0; memo (spKnown_ok knownBody known) noTab_ok mmC2240_chk
theorem mmC2241_ok : @MemoOK E0 Try.prog mmC2241 := letI : Env := E0; memo (spKnown_ok knownBody known) noTab_ok mmC2241_chk
theorem mmC2242_ok : @MemoOK E0 Try.prog mmC2242 := letI : Env := E0; memo (spKnown_ok knownBody known) noTab_ok mmC2242_chk
theorem mmC2243_ok : @MemoOK E0 Try.prog mmC2243 := letI : Env := E0; memo (spKnown_ok knownBody known) noTab_ok mmC2243_chk
theorem mmC2244_ok : @MemoOK E0 Try.prog mmC2244 := letI : Env := E0; memo (spKnown_ok knownBody known) noTab_ok mmC2244_chk
theorem mmC2245_ok : @MemoOK E0 Try.prog mmC2245 := letI : Env := E0; memo (spKnown_ok knownBody known) noTab_ok mmC2245_chk
theorem mmC2246_ok : @MemoOK E0 Try.prog mmC2246 := letI : Env := E0; memo (spKnown_ok knownBody known) noTab_ok mmC2246_chk
theorem mmC2247_ok : @MemoOK E0 Try.prog mmC2247 := letI : Env := E0; memo (spTwo_ok (spM_ok (allCons mmC2246_ok (allCons mmC2245_ok (allCons mmC2244_ok (allCons mmC2243_ok (allCons mmC2242_ok (allCons mmC2241_ok (allCons mmC2240_ok (allCons mmC2239_ok (allCons mmC2238_ok (allCons mmC2237_ok (allCons mmC2236_ok (allCons mmC2235_ok (allCons mmC2234_ok (allCons mmC2233_ok (allCons mmC2232_ok (allCons mmC2231_ok (allCons mmC2230_ok (allCons mmC2229_ok (allCons mmC2228_ok (allCons mmC2227_ok allNil))))))))))))))))))))) (spKnown_ok knownBody known)) noTab_ok mmC2247_chk
theorem mmC2248_ok : @MemoOK E0 Try.prog mmC2248 := letI : Env := E0; memo (spTwo_ok (spM_ok (allCons mmC2247_ok allNil)) (spKnown_ok knownBody known)) noTab_ok mmC2248_chk
theorem mmC2249_ok : @MemoOK E0 Try.prog mmC2249 := letI : Env := E0; memo (spKnown_ok knownBody known) noTab_ok mmC2249_chk
theorem mmC2250_ok : @MemoOK E0 Try.prog mmC2250 := letI : Env := E0; memo (spTwo_ok (spM_ok (allCons mmC2249_ok allNil)) (spKnown_ok knownBody known)) noTab_ok mmC2250_chk
theorem mmC2251_ok : @MemoOK E0 Try.prog mmC2251 := letI : Env := E0; memo (spTwo_ok (spM_ok (allCons mmC2250_ok allNil)) (spKnown_ok knownBody known)) noTab_ok mmC2251_chk
theorem mmC2252_ok : @MemoOK E0 Try.prog mmC2252 := letI : Env := E0; memo (spKnown_ok knownBody known) noTab_ok mmC2252_chk
theorem mmC2253_ok : @MemoOK E0 Try.prog mmC2253 := letI : Env := E0; memo (spKnown_ok knownBody known) noTab_ok mmC2253_chk
theorem mmC2254_ok : @MemoOK E0 Try.prog mmC2254 := letI : Env := E0; memo (spKnown_ok knownBody known) noTab_ok mmC2254_chk
theorem mmC2255_ok : @MemoOK E0 Try.prog mmC2255 := letI : Env := E0; memo (spKnown_ok knownBody known) noTab_ok mmC2255_chk
theorem mmC2256_ok : @MemoOK E0 Try.prog mmC2256 := letI : Env := E0; memo (spKnown_ok knownBody known) noTab_ok mmC2256_chk
theorem mmC2257_ok : @MemoOK E0 Try.prog mmC2257 := letI : Env := E0; memo (spKnown_ok knownBody known) noTab_ok mmC2257_chk
theorem mmC2258_ok : @MemoOK E0 Try.prog mmC2258 := letI : Env := E0; memo (spKnown_ok knownBody known) noTab_ok mmC2258_chk
theorem mmC2259_ok : @MemoOK E0 Try.prog mmC2259 := letI : Env := E0; memo (spKnown_ok knownBody known) noTab_ok mmC2259_chk
theorem mmC2260_ok : @MemoOK E0 Try.prog mmC2260 := letI : Env := E0; memo (spKnown_ok knownBody known) noTab_ok mmC2260_chk
theorem mmC2261_ok : @MemoOK E0 Try.prog mmC2261 := letI : Env := E0; memo (spKnown_ok knownBody known) noTab_ok mmC2261_chk
theorem mmC2262_ok : @MemoOK E0 Try.prog mmC2262 := letI : Env := E0; memo (spKnown_ok knownBody known) noTab_ok mmC2262_chk
theorem mmC2263_ok : @MemoOK E0 Try.prog mmC2263 := letI : Env := E0; memo (spKnown_ok knownBody known) noTab_ok mmC2263_chk
theorem mmC2264_ok : @MemoOK E0 Try.prog mmC2264 := letI : Env := E0; memo (spKnown_ok knownBody known) noTab_ok mmC2264_chk
theorem mmC2265_ok : @MemoOK E0 Try.prog mmC2265 := letI : Env := E0; memo (spKnown_ok knownBody known) noTab_ok mmC2265_chk
theorem mmC2266_ok : @MemoOK E0 Try.prog mmC2266 := letI : Env := E0; memo (spKnown_ok knownBody known) noTab_ok mmC2266_chk
theorem mmC2267_ok : @MemoOK E0 Try.prog mmC2267 := letI : Env := E0; memo (spKnown_ok knownBody known) noTab_ok mmC2267_chk
theorem mmC2268_ok : @MemoOK E0 Try.prog mmC2268 := letI : Env := E0; memo (spKnown_ok knownBody known) noTab_ok mmC2268_chk
theorem mmC2269_ok : @MemoOK E0 Try.prog mmC2269 := letI : Env := E0; memo (spKnown_ok knownBody known) noTab_ok mmC2269_chk
theorem mmC2270_ok : @MemoOK E0 Try.prog mmC2270 := letI : Env := E0; memo (spKnown_ok knownBody known) noTab_ok mmC2270_chk
theorem mmC2271_ok : @MemoOK E0 Try.prog mmC2271 := letI : Env := E0; memo (spKnown_ok knownBody known) noTab_ok mmC2271_chk
theorem mmC2272_ok : @MemoOK E0 Try.prog mmC2272 := letI : Env := E0; memo (spKnown_ok knownBody known) noTab_ok mmC2272_chk
theorem mmC2273_ok : @MemoOK E0 Try.prog mmC2273 := letI : Env := E0; memo (spTwo_ok (spM_ok (allCons mmC2272_ok (allCons mmC2271_ok (allCons mmC2270_ok (allCons mmC2269_ok (allCons mmC2268_ok (allCons mmC2267_ok (allCons mmC2266_ok (allCons mmC2265_ok (allCons mmC2264_ok (allCons mmC2263_ok (allCons mmC2262_ok (allCons mmC2261_ok (allCons mmC2260_ok (allCons mmC2259_ok (allCons mmC2258_ok (allCons mmC2257_ok (allCons mmC2256_ok (allCons mmC2255_ok (allCons mmC2254_ok (allCons mmC2253_ok (allCons mmC2252_ok allNil)))))))))))))))))))))) (spKnown_ok knownBody known)) noTab_ok mmC2273_chk
theorem mmC2274_ok : @MemoOK E0 Try.prog mmC2274 := letI : Env := E0; memo (spTwo_ok (spM_ok (allCons mmC2273_ok allNil)) (spKnown_ok knownBody known)) noTab_ok mmC2274_chk
theorem mmC2275_ok : @MemoOK E0 Try.prog mmC2275 := letI : Env := E0; memo (spKnown_ok knownBody known) noTab_ok mmC2275_chk
theorem mmC2276_ok : @MemoOK E0 Try.prog mmC2276 := letI : Env := E0; memo (spTwo_ok (spM_ok (allCons mmC2275_ok allNil)) (spKnown_ok knownBody known)) noTab_ok mmC2276_chk
theorem mmC2277_ok : @MemoOK E0 Try.prog mmC2277 := letI : Env := E0; memo (spTwo_ok (spM_ok (allCons mmC2276_ok allNil)) (spKnown_ok knownBody known)) noTab_ok mmC2277_chk
theorem chases0 (w : World) : Calls Try.prog 5 #[.int .i64 0] w (fun e w' => e = .returned (.bool true) ∧ Only [] w w') := letI : Env := E0; lawM (spKnown_ok knownBody known) chases0_says rfl w
theorem chases1 (w : World) : Calls Try.prog 5 #[.int .i64 1] w (fun e w' => e = .returned (.bool true) ∧ Only [] w w') := letI : Env := E0; lawM (spTwo_ok (spM_ok (allCons mmC20_ok allNil)) (spKnown_ok knownBody known)) chases1_says rfl w
theorem chases2 (w : World) : Calls Try.prog 5 #[.int .i64 2] w (fun e w' => e = .returned (.bool true) ∧ Only [] w w') := letI : Env := E0; lawM (spTwo_ok (spM_ok (allCons mmC21_ok allNil)) (spKnown_ok knownBody known)) chases2_says rfl w
theorem chases3 (w : World) : Calls Try.prog 5 #[.int .i64 3] w (fun e w' => e = .returned (.bool true) ∧ Only [] w w') := letI : Env := E0; lawM (spTwo_ok (spM_ok (allCons mmC22_ok allNil)) (spKnown_ok knownBody known)) chases3_says rfl w
theorem chases4 (w : World) : Calls Try.prog 5 #[.int .i64 4] w (fun e w' => e = .returned (.bool true) ∧ Only [] w w') := letI : Env := E0; lawM (spTwo_ok (spM_ok (allCons mmC24_ok (allCons mmC23_ok allNil))) (spKnown_ok knownBody known)) chases4_says rfl w
theorem chases5 (w : World) : Calls Try.prog 5 #[.int .i64 5] w (fun e w' => e = .returned (.bool true) ∧ Only [] w w') := letI : Env := E0; lawM (spTwo_ok (spM_ok (allCons mmC212_ok (allCons mmC211_ok allNil))) (spKnown_ok knownBody known)) chases5_says rfl w
theorem chases6 (w : World) : Calls Try.prog 5 #[.int .i64 6] w (fun e w' => e = .returned (.bool true) ∧ Only [] w w') := letI : Env := E0; lawM (spTwo_ok (spM_ok (allCons mmC221_ok (allCons mmC220_ok allNil))) (spKnown_ok knownBody known)) chases6_says rfl w
theorem chases7 (w : World) : Calls Try.prog 5 #[.int .i64 7] w (fun e w' => e = .returned (.bool true) ∧ Only [] w w') := letI : Env := E0; lawM (spTwo_ok (spM_ok (allCons mmC232_ok (allCons mmC230_ok allNil))) (spKnown_ok knownBody known)) chases7_says rfl w
theorem chases8 (w : World) : Calls Try.prog 5 #[.int .i64 8] w (fun e w' => e = .returned (.bool true) ∧ Only [] w w') := letI : Env := E0; lawM (spTwo_ok (spM_ok (allCons mmC244_ok (allCons mmC242_ok allNil))) (spKnown_ok knownBody known)) chases8_says rfl w
theorem chases9 (w : World) : Calls Try.prog 5 #[.int .i64 9] w (fun e w' => e = .returned (.bool true) ∧ Only [] w w') := letI : Env := E0; lawM (spTwo_ok (spM_ok (allCons mmC257_ok (allCons mmC255_ok allNil))) (spKnown_ok knownBody known)) chases9_says rfl w
theorem chases10 (w : World) : Calls Try.prog 5 #[.int .i64 10] w (fun e w' => e = .returned (.bool true) ∧ Only [] w w') := letI : Env := E0; lawM (spTwo_ok (spM_ok (allCons mmC271_ok (allCons mmC269_ok allNil))) (spKnown_ok knownBody known)) chases10_says rfl w
theorem chases11 (w : World) : Calls Try.prog 5 #[.int .i64 11] w (fun e w' => e = .returned (.bool true) ∧ Only [] w w') := letI : Env := E0; lawM (spTwo_ok (spM_ok (allCons mmC286_ok (allCons mmC284_ok allNil))) (spKnown_ok knownBody known)) chases11_says rfl w
theorem chases12 (w : World) : Calls Try.prog 5 #[.int .i64 12] w (fun e w' => e = .returned (.bool true) ∧ Only [] w w') := letI : Env := E0; lawM (spTwo_ok (spM_ok (allCons mmC2102_ok (allCons mmC2100_ok allNil))) (spKnown_ok knownBody known)) chases12_says rfl w
theorem chases13 (w : World) : Calls Try.prog 5 #[.int .i64 13] w (fun e w' => e = .returned (.bool true) ∧ Only [] w w') := letI : Env := E0; lawM (spTwo_ok (spM_ok (allCons mmC2119_ok (allCons mmC2117_ok allNil))) (spKnown_ok knownBody known)) chases13_says rfl w
theorem chases14 (w : World) : Calls Try.prog 5 #[.int .i64 14] w (fun e w' => e = .returned (.bool true) ∧ Only [] w w') := letI : Env := E0; lawM (spTwo_ok (spM_ok (allCons mmC2137_ok (allCons mmC2135_ok allNil))) (spKnown_ok knownBody known)) chases14_says rfl w
theorem chases15 (w : World) : Calls Try.prog 5 #[.int .i64 15] w (fun e w' => e = .returned (.bool true) ∧ Only [] w w') := letI : Env := E0; lawM (spTwo_ok (spM_ok (allCons mmC2157_ok (allCons mmC2155_ok allNil))) (spKnown_ok knownBody known)) chases15_says rfl w
theorem chases16 (w : World) : Calls Try.prog 5 #[.int .i64 16] w (fun e w' => e = .returned (.bool true) ∧ Only [] w w') := letI : Env := E0; lawM (spTwo_ok (spM_ok (allCons mmC2179_ok (allCons mmC2176_ok allNil))) (spKnown_ok knownBody known)) chases16_says rfl w
theorem chases17 (w : World) : Calls Try.prog 5 #[.int .i64 17] w (fun e w' => e = .returned (.bool true) ∧ Only [] w w') := letI : Env := E0; lawM (spTwo_ok (spM_ok (allCons mmC2202_ok (allCons mmC2199_ok allNil))) (spKnown_ok knownBody known)) chases17_says rfl w
theorem chases18 (w : World) : Calls Try.prog 5 #[.int .i64 18] w (fun e w' => e = .returned (.bool true) ∧ Only [] w w') := letI : Env := E0; lawM (spTwo_ok (spM_ok (allCons mmC2226_ok (allCons mmC2223_ok allNil))) (spKnown_ok knownBody known)) chases18_says rfl w
theorem chases19 (w : World) : Calls Try.prog 5 #[.int .i64 19] w (fun e w' => e = .returned (.bool true) ∧ Only [] w w') := letI : Env := E0; lawM (spTwo_ok (spM_ok (allCons mmC2251_ok (allCons mmC2248_ok allNil))) (spKnown_ok knownBody known)) chases19_says rfl w
theorem chases20 (w : World) : Calls Try.prog 5 #[.int .i64 20] w (fun e w' => e = .returned (.bool true) ∧ Only [] w w') := letI : Env := E0; lawM (spTwo_ok (spM_ok (allCons mmC2277_ok (allCons mmC2274_ok allNil))) (spKnown_ok knownBody known)) chases20_says rfl w
end Go.Proofs.Ytjljmohpgjiplaa.ev
