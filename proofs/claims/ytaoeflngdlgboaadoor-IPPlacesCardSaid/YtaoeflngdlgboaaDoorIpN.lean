/-
  Chapter 6 (ipv4): a law: each part of a packet stands at its place. Conditions: none but those typed.
-/
import Derived.Test.YtaoeflngdlgboaaDoorIpM
import Derived.Test.YtaoeflngdlgboaaDoorRgt
namespace Go.Proofs.YtaoeflngdlgboaaDoor.ip
set_option linter.unusedVariables false
set_option linter.unusedSimpArgs false
open Go.ChangeShapes Go.WideShapes Go.ChangeAt Go.RowKit Go.IntWalk Go.Lib
theorem flags_at (x a : Int) (wh mo : Bool) (h : x = a + (if wh then 64 else 0) + (if mo then 32 else 0)) (ha : 0 ≤ a ∧ a ≤ 31) :
    (bits .and .u8 x 64 = if wh then 64 else 0) ∧ (bits .and .u8 x 32 = if mo then 32 else 0) ∧ bits .and .u8 x 128 = 0 := by
  subst h
  obtain ⟨n, rfl⟩ := Int.eq_ofNat_of_zero_le ha.1
  have key : ∀ m : Fin 32, ∀ wh mo : Bool, (bits .and .u8 ((m.val : Int) + (if wh then 64 else 0) + (if mo then 32 else 0)) 64 = if wh then 64 else 0) ∧ (bits .and .u8 ((m.val : Int) + (if wh then 64 else 0) + (if mo then 32 else 0)) 32 = if mo then 32 else 0) ∧ bits .and .u8 ((m.val : Int) + (if wh then 64 else 0) + (if mo then 32 else 0)) 128 = 0 := by decide +kernel
  exact key ⟨n, by omega⟩ wh mo
theorem four_or (a b c d : Int) (ha : 0 ≤ a ∧ a ≤ 255) (hb : 0 ≤ b ∧ b ≤ 255) (hc : 0 ≤ c ∧ c ≤ 255) (hd : 0 ≤ d ∧ d ≤ 255) :
    bits .or .u32 (a * 16777216) (b * 65536) = a * 16777216 + b * 65536 ∧ bits .or .u32 (a * 16777216 + b * 65536) (c * 256) = a * 16777216 + b * 65536 + c * 256 ∧ bits .or .u32 (a * 16777216 + b * 65536 + c * 256) d = a * 16777216 + b * 65536 + c * 256 + d := by
  have h1 := u32_or_mul a (b * 65536) 24 16777216 rfl (by omega) (by omega) (by omega) (by omega)
  have h2 := u32_or_mul (a * 256 + b) (c * 256) 16 65536 rfl (by omega) (by omega) (by omega) (by omega)
  have h3 := u32_or_mul (a * 65536 + b * 256 + c) d 8 256 rfl (by omega) (by omega) (by omega) (by omega)
  rw [show (a * 256 + b) * ((65536 : Nat) : Int) = a * 16777216 + b * 65536 from by omega] at h2
  rw [show (a * 65536 + b * 256 + c) * ((256 : Nat) : Int) = a * 16777216 + b * 65536 + c * 256 from by omega] at h3
  exact ⟨h1, h2, h3⟩
theorem at16 (x : Int) (h : 0 ≤ x ∧ x ≤ 65535) : x / 256 % 256 * 256 + x % 256 = x := by omega
theorem at32 (x : Int) (h : 0 ≤ x ∧ x ≤ 4294967295) : x / 16777216 % 256 * 16777216 + x / 65536 % 256 * 65536 + x / 256 % 256 * 256 + x % 256 = x := by omega
theorem at8 (x : Int) (h : 0 ≤ x ∧ x ≤ 255) : x % 256 = x := by omega
theorem pbs_at (off : Int) (wh mo : Bool) (h : 0 ≤ off ∧ off ≤ 65528) : (0 ≤ pbs off wh mo ∧ pbs off wh mo ≤ 65535) ∧ pbs off wh mo / 256 % 256 = off / 8 / 256 + (if wh then 64 else 0) + (if mo then 32 else 0) ∧ pbs off wh mo % 8192 = off / 8 := by
  unfold pbs
  cases wh <;> cases mo <;> simp only [if_true, if_false, Bool.false_eq_true] <;> omega
theorem at20 (a0 a1 a2 a3 a4 a5 a6 a7 a8 a9 a10 a11 a12 a13 a14 a15 a16 a17 a18 a19 : Int) (t : List Int) : (a0 :: a1 :: a2 :: a3 :: a4 :: a5 :: a6 :: a7 :: a8 :: a9 :: a10 :: a11 :: a12 :: a13 :: a14 :: a15 :: a16 :: a17 :: a18 :: a19 :: t).getD 1 0 = a1 ∧ (a0 :: a1 :: a2 :: a3 :: a4 :: a5 :: a6 :: a7 :: a8 :: a9 :: a10 :: a11 :: a12 :: a13 :: a14 :: a15 :: a16 :: a17 :: a18 :: a19 :: t).getD 2 0 = a2 ∧ (a0 :: a1 :: a2 :: a3 :: a4 :: a5 :: a6 :: a7 :: a8 :: a9 :: a10 :: a11 :: a12 :: a13 :: a14 :: a15 :: a16 :: a17 :: a18 :: a19 :: t).getD 3 0 = a3 ∧ (a0 :: a1 :: a2 :: a3 :: a4 :: a5 :: a6 :: a7 :: a8 :: a9 :: a10 :: a11 :: a12 :: a13 :: a14 :: a15 :: a16 :: a17 :: a18 :: a19 :: t).getD 4 0 = a4 ∧ (a0 :: a1 :: a2 :: a3 :: a4 :: a5 :: a6 :: a7 :: a8 :: a9 :: a10 :: a11 :: a12 :: a13 :: a14 :: a15 :: a16 :: a17 :: a18 :: a19 :: t).getD 5 0 = a5 ∧ (a0 :: a1 :: a2 :: a3 :: a4 :: a5 :: a6 :: a7 :: a8 :: a9 :: a10 :: a11 :: a12 :: a13 :: a14 :: a15 :: a16 :: a17 :: a18 :: a19 :: t).getD 6 0 = a6 ∧ (a0 :: a1 :: a2 :: a3 :: a4 :: a5 :: a6 :: a7 :: a8 :: a9 :: a10 :: a11 :: a12 :: a13 :: a14 :: a15 :: a16 :: a17 :: a18 :: a19 :: t).getD 7 0 = a7 ∧ (a0 :: a1 :: a2 :: a3 :: a4 :: a5 :: a6 :: a7 :: a8 :: a9 :: a10 :: a11 :: a12 :: a13 :: a14 :: a15 :: a16 :: a17 :: a18 :: a19 :: t).getD 8 0 = a8 ∧ (a0 :: a1 :: a2 :: a3 :: a4 :: a5 :: a6 :: a7 :: a8 :: a9 :: a10 :: a11 :: a12 :: a13 :: a14 :: a15 :: a16 :: a17 :: a18 :: a19 :: t).getD 9 0 = a9 ∧ (a0 :: a1 :: a2 :: a3 :: a4 :: a5 :: a6 :: a7 :: a8 :: a9 :: a10 :: a11 :: a12 :: a13 :: a14 :: a15 :: a16 :: a17 :: a18 :: a19 :: t).getD 12 0 = a12 ∧ (a0 :: a1 :: a2 :: a3 :: a4 :: a5 :: a6 :: a7 :: a8 :: a9 :: a10 :: a11 :: a12 :: a13 :: a14 :: a15 :: a16 :: a17 :: a18 :: a19 :: t).getD 13 0 = a13 ∧ (a0 :: a1 :: a2 :: a3 :: a4 :: a5 :: a6 :: a7 :: a8 :: a9 :: a10 :: a11 :: a12 :: a13 :: a14 :: a15 :: a16 :: a17 :: a18 :: a19 :: t).getD 14 0 = a14 ∧ (a0 :: a1 :: a2 :: a3 :: a4 :: a5 :: a6 :: a7 :: a8 :: a9 :: a10 :: a11 :: a12 :: a13 :: a14 :: a15 :: a16 :: a17 :: a18 :: a19 :: t).getD 15 0 = a15 ∧ (a0 :: a1 :: a2 :: a3 :: a4 :: a5 :: a6 :: a7 :: a8 :: a9 :: a10 :: a11 :: a12 :: a13 :: a14 :: a15 :: a16 :: a17 :: a18 :: a19 :: t).getD 16 0 = a16 ∧ (a0 :: a1 :: a2 :: a3 :: a4 :: a5 :: a6 :: a7 :: a8 :: a9 :: a10 :: a11 :: a12 :: a13 :: a14 :: a15 :: a16 :: a17 :: a18 :: a19 :: t).getD 17 0 = a17 ∧ (a0 :: a1 :: a2 :: a3 :: a4 :: a5 :: a6 :: a7 :: a8 :: a9 :: a10 :: a11 :: a12 :: a13 :: a14 :: a15 :: a16 :: a17 :: a18 :: a19 :: t).getD 18 0 = a18 ∧ (a0 :: a1 :: a2 :: a3 :: a4 :: a5 :: a6 :: a7 :: a8 :: a9 :: a10 :: a11 :: a12 :: a13 :: a14 :: a15 :: a16 :: a17 :: a18 :: a19 :: t).getD 19 0 = a19 := ⟨rfl, rfl, rfl, rfl, rfl, rfl, rfl, rfl, rfl, rfl, rfl, rfl, rfl, rfl, rfl, rfl, rfl⟩
theorem places_at {sv pid off lf pr : Int} {wh mo : Bool} {fr to : Int} {o d : List Int} (h : chk sv pid off lf pr o d.length = 0) (hf : 0 ≤ fr ∧ fr ≤ 4294967295) (ht : 0 ≤ to ∧ to ≤ 4294967295) (E : List Int) (hE : E = encP sv pid off lf pr wh mo fr to o d) :
    at1 E 1 = sv ∧ at1 E 2 * 256 + at1 E 3 = (hl o.length : Int) + d.length ∧ at1 E 4 * 256 + at1 E 5 = pid ∧ at1 E 6 * 256 + at1 E 7 = pbs off wh mo ∧ at1 E 8 = lf ∧ at1 E 9 = pr ∧ at1 E 12 * 16777216 + at1 E 13 * 65536 + at1 E 14 * 256 + at1 E 15 = fr ∧ at1 E 16 * 16777216 + at1 E 17 * 65536 + at1 E 18 * 256 + at1 E 19 = to ∧ at1 E 6 = off / 8 / 256 + (if wh then 64 else 0) + (if mo then 32 else 0) ∧ E.drop (hl o.length) = d := by
  obtain ⟨hN, hn40, hok, hll⟩ := chk0 h
  unfold Nums at hN
  have hb := hl_bd o.length
  subst hE
  simp only [← at1_eq]
  obtain ⟨a0, a10, a11, t, hc⟩ : ∃ a0 a10 a11 t, encP sv pid off lf pr wh mo fr to o d = (a0) :: (sv % 256) :: (((hl o.length : Nat) + (d.length : Int)) / 256 % 256) :: (((hl o.length : Nat) + (d.length : Int)) % 256) :: (pid / 256 % 256) :: (pid % 256) :: (pbs off wh mo / 256 % 256) :: (pbs off wh mo % 256) :: (lf % 256) :: (pr % 256) :: (a10) :: (a11) :: (fr / 16777216 % 256) :: (fr / 65536 % 256) :: (fr / 256 % 256) :: (fr % 256) :: (to / 16777216 % 256) :: (to / 65536 % 256) :: (to / 256 % 256) :: (to % 256) :: t :=
    ⟨(64 + (hl o.length : Nat) / 4 : Int) % 256, sumH sv pid off lf pr wh mo fr to o d.length / 256 % 256, sumH sv pid off lf pr wh mo fr to o d.length % 256, o ++ (List.replicate (hl o.length - 20 - o.length) 0 ++ d), by simp only [encP, hdr, b2, b4, List.append_assoc, List.cons_append, List.nil_append, List.singleton_append]⟩
  obtain ⟨e1, e2, e3, e4, e5, e6, e7, e8, e9, e12, e13, e14, e15, e16, e17, e18, e19⟩ := at20 (a0) (sv % 256) (((hl o.length : Nat) + (d.length : Int)) / 256 % 256) (((hl o.length : Nat) + (d.length : Int)) % 256) (pid / 256 % 256) (pid % 256) (pbs off wh mo / 256 % 256) (pbs off wh mo % 256) (lf % 256) (pr % 256) (a10) (a11) (fr / 16777216 % 256) (fr / 65536 % 256) (fr / 256 % 256) (fr % 256) (to / 16777216 % 256) (to / 65536 % 256) (to / 256 % 256) (to % 256) t
  rw [← hc] at e1 e2 e3 e4 e5 e6 e7 e8 e9 e12 e13 e14 e15 e16 e17 e18 e19
  rw [e1, e2, e3, e4, e5, e6, e7, e8, e9, e12, e13, e14, e15, e16, e17, e18, e19]
  have hdr' : (encP sv pid off lf pr wh mo fr to o d).drop (hl o.length) = d := by
    unfold encP
    rw [← hdr_len sv pid off lf pr wh mo fr to o d.length (sumH sv pid off lf pr wh mo fr to o d.length)]
    exact List.drop_left
  clear e1 e2 e3 e4 e5 e6 e7 e8 e9 e12 e13 e14 e15 e16 e17 e18 e19 hc
  obtain ⟨hpb, hpf, _⟩ := pbs_at off wh mo hN.2.2.2.2.1
  exact ⟨at8 _ hN.1, at16 _ (by omega), at16 _ hN.2.2.2.1, at16 _ hpb, at8 _ hN.2.1, at8 _ hN.2.2.1, at32 _ hf, at32 _ ht, hpf, hdr'⟩
def tbP : List rgn.Tb := [⟨0, 110, 8⟩, ⟨1, 111, 649037107316853453566312041152512⟩, ⟨2, 112, 1298074214633706907132624082305024⟩, ⟨4, 113, 2596148429267413814265248164610048⟩, ⟨8, 114, 5192296858534827628530496329220096⟩, ⟨16, 115, 10384593717069655257060992658440192⟩, ⟨32, 116, 20769187434139310514121985316880448⟩, ⟨32, 117, 20769187434139310514121985316880392⟩, ⟨160, 118, 103845937170696552570609926584401920⟩, ⟨352, 119, 228461061775532415655341838485684224⟩, ⟨544, 120, 353076186380368278740073750386966528⟩, ⟨1056, 121, 664613997892457936451903530140172288⟩, ⟨2048, 122, 1329227995784915872903807060280344584⟩, ⟨6144, 123, 3987683987354747618711421180841033728⟩, ⟨10240, 124, 6646139978924579364519035301401722880⟩, ⟨18432, 125, 11963051962064242856134263542523101184⟩, ⟨2048, 126, 1329227995784915872903807060280344578⟩, ⟨67584, 127, 43864523860902223805825632989251371008⟩, ⟨165888, 128, 107667467658578185705208371882707910656⟩, ⟨264192, 129, 171470411456254147604591110776164450304⟩, ⟨526336, 130, 340282366920938463463374607431768211456⟩, ⟨1048576, 131, 680564733841876926926749214863536423040⟩, ⟨1048576, 132, 680564733841876926926749214863536422914⟩, ⟨5242880, 133, 3402823669209384634633746074317682114560⟩, ⟨11534336, 134, 7486212072260646196194241363498900652032⟩, ⟨17825792, 135, 11569600475311907757754736652680119189504⟩, ⟨34603008, 136, 21778071482940061661655974875633165533184⟩, ⟨67108864, 137, 43556142965880123323311949751266331066624⟩, ⟨67108864, 138, 43556142965880123323311949751266331066370⟩, ⟨335544320, 139, 217780714829400616616559748756331655331840⟩, ⟨738197504, 140, 479117572624681356556431447263929641730048⟩, ⟨1140850688, 141, 740454430419962096496303145771527628128256⟩, ⟨2214592512, 142, 1393796574908163946345982392040522594123776⟩, ⟨4294967296, 143, 2787593149816327892691964784081045188247560⟩, ⟨12884901888, 144, 8362779449448983678075894352243135564742656⟩, ⟨21474836480, 145, 13937965749081639463459823920405225941237760⟩, ⟨38654705664, 146, 25088338348346951034227683056729406694227968⟩, ⟨73014444032, 147, 47389083546877574175763401329377768200208384⟩, ⟨4294967296, 148, 2787593149816327892691964784081045188247554⟩, ⟨279172874240, 149, 181193554738061313024977710965267937236090880⟩, ⟨691489734656, 150, 448802497120428790723406330237048275307855872⟩, ⟨1103806595072, 151, 716411439502796268421834949508828613379620864⟩, ⟨2203318222848, 152, 1427247692705959881058285969449495136382746624⟩, ⟨4398046511104, 153, 2854495385411919762116571938898990272765493256⟩, ⟨13194139533312, 154, 8563486156235759286349715816696970818296479744⟩, ⟨21990232555520, 155, 14272476927059598810582859694494951363827466240⟩, ⟨39582418599936, 156, 25690458468707277859049147450090912454889439232⟩, ⟨74766790688768, 157, 48526421552002635955981722961282834637013385216⟩, ⟨4398046511104, 158, 2854495385411919762116571938898990272765493250⟩, ⟨285873023221760, 159, 185542200051774784537577176028434367729757061120⟩, ⟨708085488287744, 160, 459573757051319081700768082162737433915244412928⟩, ⟨1130297953353728, 161, 733605314050863378863958988297040500100731764736⟩, ⟨2256197860196352, 162, 1461501637330902918203684832716283019655932542976⟩, ⟨4503599627370496, 163, 2923003274661805836407369665432566039311865085960⟩, ⟨13510798882111488, 164, 8769009823985417509222108996297698117935595257856⟩, ⟨22517998136852480, 165, 14615016373309029182036848327162830196559325429760⟩, ⟨40532396646334464, 166, 26307029471956252527666326988893094353806785773568⟩, ⟨76561193665298432, 167, 49691055669250699218925284312353622668301706461184⟩, ⟨148618787703226368, 168, 96459108063839592601443198959274679297291547836416⟩, ⟨292733975779082240, 169, 187072209578355573530071658587684226515959365500928⟩, ⟨576460752303423488, 170, 374144419156711147060143317175368453031918731001864⟩, ⟨1729382256910270464, 171, 1122433257470133441180429951526105359095756193005568⟩, ⟨2882303761517117440, 172, 1870722095783555735300716585876842265159593655009280⟩, ⟨5188146770730811392, 173, 3367299772410400323541289854578316077287268579016704⟩, ⟨576460752303423488, 174, 374144419156711147060143317175368453031918731001858⟩, ⟨19023204826012975104, 175, 12346765832171467852984729466787158950053318123061248⟩, ⟨46693320936577302528, 176, 30305697951693602911871608691204844695585417211150336⟩, ⟨74363437047141629952, 177, 48264630071215737970758487915622530441117516299239424⟩, ⟨148150413341979836416, 178, 95780971304118053647396689196894323976171195136475136⟩, ⟨295147905179352825856, 179, 191561942608236107294793378393788647952342390272950280⟩, ⟨885443715538058477568, 180, 574685827824708321884380135181365943857027170818850816⟩, ⟨1475739525896764129280, 181, 957809713041180536473966891968943239761711951364751360⟩, ⟨2656331146614175432704, 182, 1724057483474124965653140405544097831571081512456552448⟩, ⟨295147905179352825856, 183, 191561942608236107294793378393788647952342390272950274⟩, ⟨9739880870918643253248, 184, 6321544106071791540728181486995025382427298879007358976⟩, ⟨23906980319527578894336, 185, 15516517351267124690878263649896880484139733612108972032⟩, ⟨38074079768136514535424, 186, 24711490596462457841028345812798735585852168345210585088⟩, ⟨75853011631093676244992, 187, 49039857307708443467467104868809893875799651909875269632⟩, ⟨151115727451828646838272, 188, 98079714615416886934934209737619787751599303819750539776⟩, ⟨151115727451828646838272, 189, 98079714615416886934934209737619787751599303819750539266⟩, ⟨755578637259143234191360, 190, 490398573077084434674671048688098938757996519098752696320⟩, ⟨1662273001970115115220992, 191, 1078876860769585756284276307113817665267592342017255931904⟩, ⟨2568967366681086996250624, 192, 1667355148462087077893881565539536391777188164935759167488⟩, ⟨4986819005910345345662976, 193, 3138550867693340381917894711603833208051177722232017256448⟩, ⟨9671406556917033397649408, 194, 6277101735386680763835789423207666416102355444464034513920⟩, ⟨9671406556917033397649408, 195, 6277101735386680763835789423207666416102355444464034512898⟩, ⟨48357032784585166988247040, 196, 31385508676933403819178947116038332080511777222320172564480⟩, ⟨106385472126087367374143488, 197, 69048119089253488402193683655284330577125909889104379641856⟩, ⟨164413911467589567760039936, 198, 106710729501573572985208420194530329073740042555888586719232⟩, ⟨319156416378262102122430464, 199, 200867255532373784442745261542645325315275374222849104412672⟩, ⟨618970019642690137449562112, 200, 401734511064747568885490523085290650630550748445698208825352⟩, ⟨618970019642690137449562112, 201, 401734511064747568885490523085290650630550748445698208825376⟩, ⟨4332790137498830962146934784, 202, 2812141577453232982198433661597034554413855239119887461777408⟩, ⟨618970019642690137449562112, 203, 401734511064747568885490523085290650630550748445698208825346⟩, ⟨10522490333925732336642555904, 204, 6829486688100708671053338892449941060719362723576869550030848⟩, ⟨25377770805350295635432046592, 205, 16471114953654650324305111446496916675852580686273626561839104⟩, ⟨40233051276774858934221537280, 206, 26112743219208591977556884000543892290985798648970383573647360⟩, ⟨118842243771396506390315925504, 207, 51422017416287688817342786954917203280710495801049370729644032⟩, ⟨158456325028528675187087900672, 208, 102844034832575377634685573909834406561420991602098741459288064⟩, ⟨475368975085586025561263702016, 209, 308532104497726132904056721729503219684262974806296224377864192⟩, ⟨1267650600228229401496703205375, 3, 411376139330301510538742295639337626245683966408394965837152256⟩]
set_option maxRecDepth 100000 in
set_option maxHeartbeats 8000000 in
theorem places (w : World) (sv pid off lf pr : Int) (wh mo : Bool) (fr to : Int) (oA : Option Addr) (on oc : Nat) (dA : Option Addr) (dn dc : Nat) (m : Int) (o d : List Int) (ho : Rd .u8 w oA on o) (hoc : oA = none → oc = 0) (hnc : on ≤ oc) (hcm : oc ≤ maxLen) (hd : Rd .u8 w dA dn d) (hdc : dA = none → dc = 0) (hm : w.cell? ⟨1, 0, none⟩ = some (.int .i64 m)) (ht : Lib.TabIs Tryd.prog w "internal/strconv.uint64pow10" .u64 Lib.pow10Tab) (hfr : 0 ≤ fr ∧ fr ≤ 4294967295) (hto : 0 ≤ to ∧ to ≤ 4294967295) :
    Calls Tryd.prog 10 #[.agg #[.int .i64 sv, .int .i64 pid, .bool wh, .bool mo, .int .i64 off, .int .i64 lf, .int .i64 pr, .int .u32 fr, .int .u32 to, .slice oA on oc, .slice dA dn dc]] w fun x w' => x = .returned (.bool true) ∧ Only [] w w' := by
  have HM := hid hm; have HT := hid ht; clear hm ht
  have HO := hid ho; have HD := hid hd; have HOC := hid hoc; have HDC := hid hdc
  have HOL := hid ho.len; have HDL := hid hd.len; have HOW := hid ho.wf
  have HCM := hid hcm
  clear ho hd hoc hdc hcm
  have QB : Hid (Only [] w (w.alloc (.cells #[.int .i64 sv, .int .i64 pid, .bool wh, .bool mo, .int .i64 off, .int .i64 lf, .int .i64 pr, .int .u32 fr, .int .u32 to, .slice oA on oc, .slice dA dn dc] 26))) := hid ((Only.refl [] w).alloc _)
  have OB : Hid (Ob (w.alloc (.cells #[.int .i64 sv, .int .i64 pid, .bool wh, .bool mo, .int .i64 off, .int .i64 lf, .int .i64 pr, .int .u32 fr, .int .u32 to, .slice oA on oc, .slice dA dn dc] 26)) w.heap.size 26 #[.int .i64 sv, .int .i64 pid, .bool wh, .bool mo, .int .i64 off, .int .i64 lf, .int .i64 pr, .int .u32 fr, .int .u32 to, .slice oA on oc, .slice dA dn dc]) := hid (Ob.new _ _ _)
  have k0 := OB.out.cell 0; have k1 := OB.out.cell 1; have k2 := OB.out.cell 2; have k3 := OB.out.cell 3; have k4 := OB.out.cell 4; have k5 := OB.out.cell 5; have k6 := OB.out.cell 6; have k7 := OB.out.cell 7; have k8 := OB.out.cell 8; have k9 := OB.out.cell 9; have k10 := OB.out.cell 10
  have hLong := long1 (w.alloc (.cells #[.int .i64 sv, .int .i64 pid, .bool wh, .bool mo, .int .i64 off, .int .i64 lf, .int .i64 pr, .int .u32 fr, .int .u32 to, .slice oA on oc, .slice dA dn dc] 26)) sv pid off lf pr wh mo fr to oA on oc dA dn dc
  by_cases hlong : 70000 < dn ∨ 4000 < on
  · rw [show decide (70000 < dn ∨ 4000 < on) = true from decide_eq_true hlong] at hLong
    have hLong := hid hLong
    go_enter Tryd.func10, Tryd.ntmps10
    go_wp2_with fail
    refine hLong.out.mono ?_
    rintro x w1 ⟨rfl, o1⟩
    have QB := hid (QB.out.trans o1)
    go_wp2
    go_ret
    exact ⟨rfl, QB.out⟩
  · rw [show decide (70000 < dn ∨ 4000 < on) = false from decide_eq_false hlong] at hLong
    have hLong := hid hLong
    have hd7 : dn ≤ 70000 := by omega
    have ho4 : on ≤ 4000 := by omega
    clear hlong
    go_enter Tryd.func10, Tryd.ntmps10
    go_wp2_with fail
    refine hLong.out.mono ?_
    rintro x w1 ⟨rfl, o1⟩
    have QB := hid (QB.out.trans o1); have OB := hid (OB.out.only o1 (by simp)); clear o1 k0 k1 k2 k3 k4 k5 k6 k7 k8 k9 k10
    have k0 := OB.out.cell 0; have k1 := OB.out.cell 1; have k2 := OB.out.cell 2; have k3 := OB.out.cell 3; have k4 := OB.out.cell 4; have k5 := OB.out.cell 5; have k6 := OB.out.cell 6; have k7 := OB.out.cell 7; have k8 := OB.out.cell 8; have k9 := OB.out.cell 9; have k10 := OB.out.cell 10
    by_cases hch : chk sv pid off lf pr o dn = 0
    · go_wp2_with fail
      clear k0 k1 k2 k3 k4 k5 k6 k7 k8 k9 k10
      refine (enc1 _ sv pid off lf pr wh mo fr to oA on oc dA dn dc o d (HO.out.only_nil QB.out) HOC.out hnc HCM.out (by omega) (HD.out.only_nil QB.out) HDC.out (by omega) hch).mono ?_
      rintro x w5 ⟨v5, rfl, hv5, q5⟩
      have HLE : Hid ((encP sv pid off lf pr wh mo fr to o d).length = hl on + dn) := hid (by unfold encP; rw [List.length_append, hdr_len, HOL.out, HDL.out])
      have hhb := hl_bd on
      have hm4 : hl on % 4 = 0 := by unfold hl; omega
      obtain ⟨hN, hn40, _, _⟩ := chk0 hch
      unfold Nums at hN
      have hon40 : on ≤ 40 := by rw [← HOL.out]; exact hn40
      obtain ⟨g, cap, rfl⟩ := hv5.some_form (by rw [HLE.out]; omega)
      have HG1 : Hid ((encP sv pid off lf pr wh mo fr to o d).getD 0 0 = (64 + (hl on : Nat) / 4 : Int) % 256) := hid (by rw [← HOL.out]; rfl)
      have HPL := places_at (by rw [HDL.out]; exact hch) hfr hto (encP sv pid off lf pr wh mo fr to o d) rfl
      rw [HOL.out, HDL.out] at HPL
      have HB := hid hv5
      have hcc := hv5.len
      have OB := hid (OB.out.only q5 (by simp)); have QB := hid (QB.out.trans q5); clear q5 hv5 hch hn40
      generalize encP sv pid off lf pr wh mo fr to o d = E at *
      obtain ⟨hh, hhe⟩ : ∃ q, q = hl on := ⟨_, rfl⟩
      rw [← hhe] at HPL HG1 hhb hm4 HLE
      obtain ⟨L, hL⟩ : ∃ L, L = hh + dn := ⟨_, rfl⟩
      rw [← hL] at HLE
      obtain ⟨p1, p2, p4, p6, p8, p9, p12, p16, pf, pd⟩ := HPL
      have HDP := hid pd
      obtain ⟨b64, b32, b128⟩ := flags_at _ (off / 8 / 256) wh mo pf (by omega)
      have p2' : at1 E 2 * 256 + at1 E 3 = (L : Int) := by omega
      clear p2
      have hpb := pbs_at off wh mo hN.2.2.2.2.1
      have z6 : (at1 E 6 * 256 + at1 E 7) % 8192 = off / 8 := by rw [p6]; exact hpb.2.2
      have z6' : (at1 E 6 * 256 + at1 E 7).tmod 8192 = off / 8 := by
        have : 0 ≤ at1 E 6 * 256 + at1 E 7 := by rw [p6]; exact hpb.1.1
        rw [Int.tmod_eq_emod_of_nonneg this]; exact z6
      have z8 : off / 8 * 8 = off := by omega
      have hL20 : hh ≤ L := by omega
      have hLb : L ≤ 100000 := by omega
      rw [HLE.out] at hcc HB
      rw [HLE.out]
      obtain ⟨q, hq⟩ : ∃ q : Nat, hh = 4 * q := ⟨hh / 4, by omega⟩
      have hx0 : E.getD 0 0 = 64 + (q : Int) := by rw [HG1.out]; omega
      have c0 := HB.out.cellD 0 (by omega); rw [hx0] at c0
      have c1 := HB.out.cellD 1 (by omega); rw [at1_eq, p1] at c1
      have c2 := HB.out.cellD 2 (by omega); rw [at1_eq] at c2
      have c3 := HB.out.cellD 3 (by omega); rw [at1_eq] at c3
      have c4 := HB.out.cellD 4 (by omega); rw [at1_eq] at c4
      have c5 := HB.out.cellD 5 (by omega); rw [at1_eq] at c5
      have c6 := HB.out.cellD 6 (by omega); rw [at1_eq] at c6
      have c7 := HB.out.cellD 7 (by omega); rw [at1_eq] at c7
      have c8 := HB.out.cellD 8 (by omega); rw [at1_eq, p8] at c8
      have c9 := HB.out.cellD 9 (by omega); rw [at1_eq, p9] at c9
      have c12 := HB.out.cellD 12 (by omega); rw [at1_eq] at c12
      have c13 := HB.out.cellD 13 (by omega); rw [at1_eq] at c13
      have c14 := HB.out.cellD 14 (by omega); rw [at1_eq] at c14
      have c15 := HB.out.cellD 15 (by omega); rw [at1_eq] at c15
      have c16 := HB.out.cellD 16 (by omega); rw [at1_eq] at c16
      have c17 := HB.out.cellD 17 (by omega); rw [at1_eq] at c17
      have c18 := HB.out.cellD 18 (by omega); rw [at1_eq] at c18
      have c19 := HB.out.cellD 19 (by omega); rw [at1_eq] at c19
      have x2 := u8Bd (HB.out.rd.getD_wf 2 (by omega)); rw [at1_eq] at x2
      have x3 := u8Bd (HB.out.rd.getD_wf 3 (by omega)); rw [at1_eq] at x3
      have x4 := u8Bd (HB.out.rd.getD_wf 4 (by omega)); rw [at1_eq] at x4
      have x5 := u8Bd (HB.out.rd.getD_wf 5 (by omega)); rw [at1_eq] at x5
      have x6 := u8Bd (HB.out.rd.getD_wf 6 (by omega)); rw [at1_eq] at x6
      have x7 := u8Bd (HB.out.rd.getD_wf 7 (by omega)); rw [at1_eq] at x7
      have x12 := u8Bd (HB.out.rd.getD_wf 12 (by omega)); rw [at1_eq] at x12
      have x13 := u8Bd (HB.out.rd.getD_wf 13 (by omega)); rw [at1_eq] at x13
      have x14 := u8Bd (HB.out.rd.getD_wf 14 (by omega)); rw [at1_eq] at x14
      have x15 := u8Bd (HB.out.rd.getD_wf 15 (by omega)); rw [at1_eq] at x15
      have x16 := u8Bd (HB.out.rd.getD_wf 16 (by omega)); rw [at1_eq] at x16
      have x17 := u8Bd (HB.out.rd.getD_wf 17 (by omega)); rw [at1_eq] at x17
      have x18 := u8Bd (HB.out.rd.getD_wf 18 (by omega)); rw [at1_eq] at x18
      have x19 := u8Bd (HB.out.rd.getD_wf 19 (by omega)); rw [at1_eq] at x19
      have i0 : (0 : Int) < (L : Int) := by omega
      have i1 : (1 : Int) < (L : Int) := by omega
      have i2 : (2 : Int) < (L : Int) := by omega
      have i3 : (3 : Int) < (L : Int) := by omega
      have i4 : (4 : Int) < (L : Int) := by omega
      have i5 : (5 : Int) < (L : Int) := by omega
      have i6 : (6 : Int) < (L : Int) := by omega
      have i7 : (7 : Int) < (L : Int) := by omega
      have i8 : (8 : Int) < (L : Int) := by omega
      have i9 : (9 : Int) < (L : Int) := by omega
      have i12 : (12 : Int) < (L : Int) := by omega
      have i13 : (13 : Int) < (L : Int) := by omega
      have i14 : (14 : Int) < (L : Int) := by omega
      have i15 : (15 : Int) < (L : Int) := by omega
      have i16 : (16 : Int) < (L : Int) := by omega
      have i17 : (17 : Int) < (L : Int) := by omega
      have i18 : (18 : Int) < (L : Int) := by omega
      have i19 : (19 : Int) < (L : Int) := by omega
      clear hpb hx0 pf p6 p8 p9 p1 pd
      obtain ⟨r1, r2, r3⟩ := four_or _ _ _ _ x12 x13 x14 x15
      obtain ⟨s1, s2, s3⟩ := four_or _ _ _ _ x16 x17 x18 x19
      rw [p12] at r3
      rw [p16] at s3
      have hge : ¬ (L : Int) < 20 := by omega
      have hmin : min (L : Int) (hh : Int) = hh := by omega
      have hhc : hh ≤ cap := by omega
      have hLd : L - hh = dn := by omega
      have m1 : (64 + (q : Int)) % 16 = q := by omega
      have m2 : (q : Int) * 4 = hh := by omega
      have m4 : (64 + (q : Int)) / 16 = 4 := by omega
      have m5 : (64 + (q : Int)).tdiv 16 = 4 := by rw [Int.tdiv_eq_ediv_of_nonneg (by omega)]; exact m4
      have n64 : (bits .and .u8 (at1 E 6) 64 != 0) = wh := by rw [b64]; cases wh <;> rfl
      have n32 : (bits .and .u8 (at1 E 6) 32 != 0) = mo := by rw [b32]; cases mo <;> rfl
      have n128 : (bits .and .u8 (at1 E 6) 128 == 0) = true := by rw [b128]; rfl
      clear hq hm4 hL hhe p12 p16 b64 b32
      have hsl : ∃ A' c', (∀ W : World, (Instr.slice 24 (.slice (some ⟨g, 0, none⟩) L cap) (some (.int .i64 (hh : Int))) none none).run Tryd.prog W = .ok (.slice A' (L - hh) c') W) ∧ Rd .u8 w5 A' (L - hh) (E.drop hh) := by
        have h0 := HB.out.rd.drop hh (by omega)
        by_cases hce : cap = hh
        · subst hce
          obtain rfl : L = cap := by omega
          refine ⟨some ⟨g, 0, none⟩, 0, fun W => ?_, ?_⟩
          · go_simp
            all_goals omega
          · rw [Nat.sub_self, List.drop_of_length_le (by rw [HB.out.rd.len]; exact Nat.le_refl _)]; exact Rd.nil _ _ _
        · have g1 : ¬ (cap : Int) = (hh : Int) := by omega
          have g2 : (hh : Int) ≤ (L : Int) := by omega
          exact ⟨some ⟨g, 0 + hh, none⟩, cap - hh, fun W => by go_simp, h0⟩
      obtain ⟨A', c', hsl, hrd⟩ := hsl
      rw [hLd] at hsl hrd
      have HSL := hid hsl; have HRD := hid hrd; clear hsl hrd
      have HLB : Hid (dn ≤ 140737488355328) := hid (by omega)
      go_wp2_with fail
      go_quiet (fail)
      go_wp2_with fail
      go_quiet (fail)
      go_wp2_with fail
      go_quiet (fail)
      go_wp2_with fail
      go_quiet (fail)
      go_wp2_with fail
      go_quiet (fail)
      go_wp2_with fail
      refine wp_region_noPanic ?_
      refine rgn.regionM (R := Only []) tbP (by kernel_rfl) (by kernel_rfl) (Only.refl []) (fun _ _ _ => Only.trans) (fun _ _ _ _ _ h => h) (.y 0 (.y 1 (.y 2 (.y 3 (.y 4 (.y 5 (.y 6 (.y 7 (.y 8 (.y 9 (.y 10 (.y 11 (.y 12 (.y 13 (.y 14 (.y 15 (.y 16 (.y 17 (.y 18 (.y 19 (.y 20 (.y 21 (.y 22 (.y 23 (.y 24 (.y 25 (.y 26 (.y 27 (.y 28 (.y 29 (.y 30 (.y 31 (.y 32 (.y 33 (.y 34 (.y 35 (.y 36 (.y 37 (.y 38 (.y 39 (.y 40 (.y 41 (.y 42 (.y 43 (.y 44 (.y 45 (.y 46 (.y 47 (.y 48 (.y 49 (.y 50 (.y 51 (.y 52 (.y 53 (.y 54 (.y 55 (.y 56 (.y 57 (.y 58 (.y 59 (.y 60 (.y 61 (.y 62 (.y 63 (.y 64 (.y 65 (.y 66 (.y 67 (.y 68 (.y 69 (.y 70 (.y 71 (.y 72 (.y 73 (.y 74 (.y 75 (.y 76 (.y 77 (.y 78 (.y 79 (.y 80 (.y 81 (.y 82 (.y 83 (.y 84 (.y 85 (.y 86 (.y 87 (.y 88 (.y 89 (.y 90 (.y 91 (.y 92 (.y 93 (.y 94 (.e 95 (.y 96 (.y 97 (.e 98 (.y 99 (.e 100 .z))))))))))))))))))))))))))))))))))))))))))))))))))))))))))))))))))))))))))))))))))))))))))))))))))))) (by kernel_rfl) (fun W hWd => ?_)
      have HWd := hid hWd; clear hWd
      have oW : Only [] w5 W := (by rw [HWd.out]; repeat' (first | with_reducible exact Only.refl [] _ | with_reducible refine Only.drew ?_ | with_reducible refine Only.drewN ?_ _))
      clear HWd
      have QW := hid (QB.out.trans oW); have OBW := hid (OB.out.only oW (by simp)); have HDR := hid (HRD.out.only_nil oW); have HD2 := hid (HD.out.only_nil QW.out)
      rw [HDP.out] at HDR
      have C0 := hid (oW.keep c0)
      have C1 := hid (oW.keep c1)
      have C6 := hid (oW.keep c6)
      have C8 := hid (oW.keep c8)
      have C9 := hid (oW.keep c9)
      have asv : IntKind.i64.wrap sv = sv := i64_in _ (by omega)
      have alf : IntKind.i64.wrap lf = lf := i64_in _ (by omega)
      have apr : IntKind.i64.wrap pr = pr := i64_in _ (by omega)
      have j0 : 0 < L := by omega
      have j1 : 1 < L := by omega
      have j6 : 6 < L := by omega
      have j8 : 8 < L := by omega
      have j9 : 9 < L := by omega
      clear oW i2 i3 i4 i5 i7 i12 i13 i14 i15 i16 i17 i18 i19 c0 c1 c2 c3 c4 c5 c6 c7 c8 c9 c12 c13 c14 c15 c16 c17 c18 c19
      refine rgn.Walk.ys (v := ?_) rfl rfl rfl ?_ ?_
      rotate_left 1
      · intro W' hW'
        go_simp
        try with_reducible rfl
      try simp only [Act.put, List.setIfInBounds_toArray, List.set_cons_zero, List.set_cons_succ]
      refine rgn.Walk.ys (v := ?_) rfl rfl rfl ?_ ?_
      rotate_left 1
      · intro W' hW'
        go_simp
        try with_reducible rfl
      try simp only [Act.put, List.setIfInBounds_toArray, List.set_cons_zero, List.set_cons_succ]
      refine rgn.Walk.ys (v := ?_) rfl rfl rfl ?_ ?_
      rotate_left 1
      · intro W' hW'
        have q0 := hW'.keep C0.out
        go_simp
        try with_reducible rfl
      try simp only [Act.put, List.setIfInBounds_toArray, List.set_cons_zero, List.set_cons_succ]
      refine rgn.Walk.ys (v := ?_) rfl rfl rfl ?_ ?_
      rotate_left 1
      · intro W' hW'
        go_simp
        try with_reducible rfl
      try simp only [Act.put, List.setIfInBounds_toArray, List.set_cons_zero, List.set_cons_succ]
      refine rgn.Walk.ys (v := ?_) rfl rfl rfl ?_ ?_
      rotate_left 1
      · intro W' hW'
        go_simp
        try with_reducible rfl
      try simp only [Act.put, List.setIfInBounds_toArray, List.set_cons_zero, List.set_cons_succ]
      refine rgn.Walk.ys (v := ?_) rfl rfl rfl ?_ ?_
      rotate_left 1
      · intro W' hW'
        go_simp
        try with_reducible rfl
      try simp only [Act.put, List.setIfInBounds_toArray, List.set_cons_zero, List.set_cons_succ]
      refine rgn.Walk.ys (v := ?_) rfl rfl rfl ?_ ?_
      rotate_left 1
      · intro W' hW'
        go_simp
        try with_reducible rfl
      try simp only [Act.put, List.setIfInBounds_toArray, List.set_cons_zero, List.set_cons_succ]
      refine rgn.Walk.ys (v := ?_) rfl rfl rfl ?_ ?_
      rotate_left 1
      · intro W' hW'
        go_simp
        try with_reducible rfl
      try simp only [Act.put, List.setIfInBounds_toArray, List.set_cons_zero, List.set_cons_succ]
      refine rgn.Walk.ys (v := ?_) rfl rfl rfl ?_ ?_
      rotate_left 1
      · intro W' hW'
        go_simp
        try with_reducible rfl
      try simp only [Act.put, List.setIfInBounds_toArray, List.set_cons_zero, List.set_cons_succ]
      refine rgn.Walk.ys (v := ?_) rfl rfl rfl ?_ ?_
      rotate_left 1
      · intro W' hW'
        go_simp
        try with_reducible rfl
      try simp only [Act.put, List.setIfInBounds_toArray, List.set_cons_zero, List.set_cons_succ]
      refine rgn.Walk.ys (v := ?_) rfl rfl rfl ?_ ?_
      rotate_left 1
      · intro W' hW'
        go_simp
        try with_reducible rfl
      try simp only [Act.put, List.setIfInBounds_toArray, List.set_cons_zero, List.set_cons_succ]
      refine rgn.Walk.ys (v := ?_) rfl rfl rfl ?_ ?_
      rotate_left 1
      · intro W' hW'
        go_simp
        try with_reducible rfl
      try simp only [Act.put, List.setIfInBounds_toArray, List.set_cons_zero, List.set_cons_succ]
      refine rgn.Walk.ys (v := ?_) rfl rfl rfl ?_ ?_
      rotate_left 1
      · intro W' hW'
        go_simp
        try with_reducible rfl
      try simp only [Act.put, List.setIfInBounds_toArray, List.set_cons_zero, List.set_cons_succ]
      refine rgn.Walk.ys (v := ?_) rfl rfl rfl ?_ ?_
      rotate_left 1
      · intro W' hW'
        go_simp
        try with_reducible rfl
      try simp only [Act.put, List.setIfInBounds_toArray, List.set_cons_zero, List.set_cons_succ]
      refine rgn.Walk.ys (v := ?_) rfl rfl rfl ?_ ?_
      rotate_left 1
      · intro W' hW'
        have q0 := hW'.keep C1.out
        go_simp
        try with_reducible rfl
      try simp only [Act.put, List.setIfInBounds_toArray, List.set_cons_zero, List.set_cons_succ]
      refine rgn.Walk.ys (v := ?_) rfl rfl rfl ?_ ?_
      rotate_left 1
      · intro W' hW'
        go_simp
        try with_reducible rfl
      try simp only [Act.put, List.setIfInBounds_toArray, List.set_cons_zero, List.set_cons_succ]
      refine rgn.Walk.ys (v := ?_) rfl rfl rfl ?_ ?_
      rotate_left 1
      · intro W' hW'
        go_simp
        try with_reducible rfl
      try simp only [Act.put, List.setIfInBounds_toArray, List.set_cons_zero, List.set_cons_succ]
      refine rgn.Walk.ys (v := ?_) rfl rfl rfl ?_ ?_
      rotate_left 1
      · intro W' hW'
        have q0 := (OBW.out.only hW' (by simp)).cell 0
        go_simp
        try with_reducible rfl
      try simp only [Act.put, List.setIfInBounds_toArray, List.set_cons_zero, List.set_cons_succ]
      refine rgn.Walk.ys (v := ?_) rfl rfl rfl ?_ ?_
      rotate_left 1
      · intro W' hW'
        go_simp
        try with_reducible rfl
      try simp only [Act.put, List.setIfInBounds_toArray, List.set_cons_zero, List.set_cons_succ]
      refine rgn.Walk.ys (v := ?_) rfl rfl rfl ?_ ?_
      rotate_left 1
      · intro W' hW'
        go_simp
        try with_reducible rfl
      try simp only [Act.put, List.setIfInBounds_toArray, List.set_cons_zero, List.set_cons_succ]
      refine rgn.Walk.ys (v := ?_) rfl rfl rfl ?_ ?_
      rotate_left 1
      · intro W' hW'
        go_simp
        try with_reducible rfl
      try simp only [Act.put, List.setIfInBounds_toArray, List.set_cons_zero, List.set_cons_succ]
      refine rgn.Walk.ys (v := ?_) rfl rfl rfl ?_ ?_
      rotate_left 1
      · intro W' hW'
        go_simp
        try with_reducible rfl
      try simp only [Act.put, List.setIfInBounds_toArray, List.set_cons_zero, List.set_cons_succ]
      refine rgn.Walk.ys (v := ?_) rfl rfl rfl ?_ ?_
      rotate_left 1
      · intro W' hW'
        go_simp
        try with_reducible rfl
      try simp only [Act.put, List.setIfInBounds_toArray, List.set_cons_zero, List.set_cons_succ]
      refine rgn.Walk.ys (v := ?_) rfl rfl rfl ?_ ?_
      rotate_left 1
      · intro W' hW'
        have q0 := (OBW.out.only hW' (by simp)).cell 1
        go_simp
        try with_reducible rfl
      try simp only [Act.put, List.setIfInBounds_toArray, List.set_cons_zero, List.set_cons_succ]
      refine rgn.Walk.ys (v := ?_) rfl rfl rfl ?_ ?_
      rotate_left 1
      · intro W' hW'
        go_simp
        try with_reducible rfl
      try simp only [Act.put, List.setIfInBounds_toArray, List.set_cons_zero, List.set_cons_succ]
      refine rgn.Walk.ys (v := ?_) rfl rfl rfl ?_ ?_
      rotate_left 1
      · intro W' hW'
        go_simp
        try with_reducible rfl
      try simp only [Act.put, List.setIfInBounds_toArray, List.set_cons_zero, List.set_cons_succ]
      refine rgn.Walk.ys (v := ?_) rfl rfl rfl ?_ ?_
      rotate_left 1
      · intro W' hW'
        go_simp
        try with_reducible rfl
      try simp only [Act.put, List.setIfInBounds_toArray, List.set_cons_zero, List.set_cons_succ]
      refine rgn.Walk.ys (v := ?_) rfl rfl rfl ?_ ?_
      rotate_left 1
      · intro W' hW'
        go_simp
        try with_reducible rfl
      try simp only [Act.put, List.setIfInBounds_toArray, List.set_cons_zero, List.set_cons_succ]
      refine rgn.Walk.ys (v := ?_) rfl rfl rfl ?_ ?_
      rotate_left 1
      · intro W' hW'
        go_simp
        try with_reducible rfl
      try simp only [Act.put, List.setIfInBounds_toArray, List.set_cons_zero, List.set_cons_succ]
      refine rgn.Walk.ys (v := ?_) rfl rfl rfl ?_ ?_
      rotate_left 1
      · intro W' hW'
        have q0 := (OBW.out.only hW' (by simp)).cell 4
        go_simp
        try with_reducible rfl
      try simp only [Act.put, List.setIfInBounds_toArray, List.set_cons_zero, List.set_cons_succ]
      refine rgn.Walk.ys (v := ?_) rfl rfl rfl ?_ ?_
      rotate_left 1
      · intro W' hW'
        go_simp
        try with_reducible rfl
      try simp only [Act.put, List.setIfInBounds_toArray, List.set_cons_zero, List.set_cons_succ]
      refine rgn.Walk.ys (v := ?_) rfl rfl rfl ?_ ?_
      rotate_left 1
      · intro W' hW'
        go_simp
        try with_reducible rfl
      try simp only [Act.put, List.setIfInBounds_toArray, List.set_cons_zero, List.set_cons_succ]
      refine rgn.Walk.ys (v := ?_) rfl rfl rfl ?_ ?_
      rotate_left 1
      · intro W' hW'
        go_simp
        try with_reducible rfl
      try simp only [Act.put, List.setIfInBounds_toArray, List.set_cons_zero, List.set_cons_succ]
      refine rgn.Walk.ys (v := ?_) rfl rfl rfl ?_ ?_
      rotate_left 1
      · intro W' hW'
        go_simp
        try with_reducible rfl
      try simp only [Act.put, List.setIfInBounds_toArray, List.set_cons_zero, List.set_cons_succ]
      refine rgn.Walk.ys (v := ?_) rfl rfl rfl ?_ ?_
      rotate_left 1
      · intro W' hW'
        go_simp
        try with_reducible rfl
      try simp only [Act.put, List.setIfInBounds_toArray, List.set_cons_zero, List.set_cons_succ]
      refine rgn.Walk.ys (v := ?_) rfl rfl rfl ?_ ?_
      rotate_left 1
      · intro W' hW'
        have q0 := hW'.keep C6.out
        go_simp
        try with_reducible rfl
      try simp only [Act.put, List.setIfInBounds_toArray, List.set_cons_zero, List.set_cons_succ]
      refine rgn.Walk.ys (v := ?_) rfl rfl rfl ?_ ?_
      rotate_left 1
      · intro W' hW'
        go_simp
        try with_reducible rfl
      try simp only [Act.put, List.setIfInBounds_toArray, List.set_cons_zero, List.set_cons_succ]
      refine rgn.Walk.ys (v := ?_) rfl rfl rfl ?_ ?_
      rotate_left 1
      · intro W' hW'
        go_simp
        try with_reducible rfl
      try simp only [Act.put, List.setIfInBounds_toArray, List.set_cons_zero, List.set_cons_succ]
      refine rgn.Walk.ys (v := ?_) rfl rfl rfl ?_ ?_
      rotate_left 1
      · intro W' hW'
        go_simp
        try with_reducible rfl
      try simp only [Act.put, List.setIfInBounds_toArray, List.set_cons_zero, List.set_cons_succ]
      refine rgn.Walk.ys (v := ?_) rfl rfl rfl ?_ ?_
      rotate_left 1
      · intro W' hW'
        have q0 := (OBW.out.only hW' (by simp)).cell 2
        go_simp
        try with_reducible rfl
      try simp only [Act.put, List.setIfInBounds_toArray, List.set_cons_zero, List.set_cons_succ]
      refine rgn.Walk.ys (v := ?_) rfl rfl rfl ?_ ?_
      rotate_left 1
      · intro W' hW'
        go_simp
        try with_reducible rfl
      try simp only [Act.put, List.setIfInBounds_toArray, List.set_cons_zero, List.set_cons_succ]
      refine rgn.Walk.ys (v := ?_) rfl rfl rfl ?_ ?_
      rotate_left 1
      · intro W' hW'
        go_simp
        try with_reducible rfl
      try simp only [Act.put, List.setIfInBounds_toArray, List.set_cons_zero, List.set_cons_succ]
      refine rgn.Walk.ys (v := ?_) rfl rfl rfl ?_ ?_
      rotate_left 1
      · intro W' hW'
        go_simp
        try with_reducible rfl
      try simp only [Act.put, List.setIfInBounds_toArray, List.set_cons_zero, List.set_cons_succ]
      refine rgn.Walk.ys (v := ?_) rfl rfl rfl ?_ ?_
      rotate_left 1
      · intro W' hW'
        go_simp
        try with_reducible rfl
      try simp only [Act.put, List.setIfInBounds_toArray, List.set_cons_zero, List.set_cons_succ]
      refine rgn.Walk.ys (v := ?_) rfl rfl rfl ?_ ?_
      rotate_left 1
      · intro W' hW'
        go_simp
        try with_reducible rfl
      try simp only [Act.put, List.setIfInBounds_toArray, List.set_cons_zero, List.set_cons_succ]
      refine rgn.Walk.ys (v := ?_) rfl rfl rfl ?_ ?_
      rotate_left 1
      · intro W' hW'
        have q0 := hW'.keep C6.out
        go_simp
        try with_reducible rfl
      try simp only [Act.put, List.setIfInBounds_toArray, List.set_cons_zero, List.set_cons_succ]
      refine rgn.Walk.ys (v := ?_) rfl rfl rfl ?_ ?_
      rotate_left 1
      · intro W' hW'
        go_simp
        try with_reducible rfl
      try simp only [Act.put, List.setIfInBounds_toArray, List.set_cons_zero, List.set_cons_succ]
      refine rgn.Walk.ys (v := ?_) rfl rfl rfl ?_ ?_
      rotate_left 1
      · intro W' hW'
        go_simp
        try with_reducible rfl
      try simp only [Act.put, List.setIfInBounds_toArray, List.set_cons_zero, List.set_cons_succ]
      refine rgn.Walk.ys (v := ?_) rfl rfl rfl ?_ ?_
      rotate_left 1
      · intro W' hW'
        go_simp
        try with_reducible rfl
      try simp only [Act.put, List.setIfInBounds_toArray, List.set_cons_zero, List.set_cons_succ]
      refine rgn.Walk.ys (v := ?_) rfl rfl rfl ?_ ?_
      rotate_left 1
      · intro W' hW'
        have q0 := (OBW.out.only hW' (by simp)).cell 3
        go_simp
        try with_reducible rfl
      try simp only [Act.put, List.setIfInBounds_toArray, List.set_cons_zero, List.set_cons_succ]
      refine rgn.Walk.ys (v := ?_) rfl rfl rfl ?_ ?_
      rotate_left 1
      · intro W' hW'
        go_simp
        try with_reducible rfl
      try simp only [Act.put, List.setIfInBounds_toArray, List.set_cons_zero, List.set_cons_succ]
      refine rgn.Walk.ys (v := ?_) rfl rfl rfl ?_ ?_
      rotate_left 1
      · intro W' hW'
        go_simp
        try with_reducible rfl
      try simp only [Act.put, List.setIfInBounds_toArray, List.set_cons_zero, List.set_cons_succ]
      refine rgn.Walk.ys (v := ?_) rfl rfl rfl ?_ ?_
      rotate_left 1
      · intro W' hW'
        go_simp
        try with_reducible rfl
      try simp only [Act.put, List.setIfInBounds_toArray, List.set_cons_zero, List.set_cons_succ]
      refine rgn.Walk.ys (v := ?_) rfl rfl rfl ?_ ?_
      rotate_left 1
      · intro W' hW'
        go_simp
        try with_reducible rfl
      try simp only [Act.put, List.setIfInBounds_toArray, List.set_cons_zero, List.set_cons_succ]
      refine rgn.Walk.ys (v := ?_) rfl rfl rfl ?_ ?_
      rotate_left 1
      · intro W' hW'
        go_simp
        try with_reducible rfl
      try simp only [Act.put, List.setIfInBounds_toArray, List.set_cons_zero, List.set_cons_succ]
      refine rgn.Walk.ys (v := ?_) rfl rfl rfl ?_ ?_
      rotate_left 1
      · intro W' hW'
        have q0 := hW'.keep C6.out
        go_simp
        try with_reducible rfl
      try simp only [Act.put, List.setIfInBounds_toArray, List.set_cons_zero, List.set_cons_succ]
      refine rgn.Walk.ys (v := ?_) rfl rfl rfl ?_ ?_
      rotate_left 1
      · intro W' hW'
        go_simp
        try with_reducible rfl
      try simp only [Act.put, List.setIfInBounds_toArray, List.set_cons_zero, List.set_cons_succ]
      refine rgn.Walk.ys (v := ?_) rfl rfl rfl ?_ ?_
      rotate_left 1
      · intro W' hW'
        go_simp
        try with_reducible rfl
      try simp only [Act.put, List.setIfInBounds_toArray, List.set_cons_zero, List.set_cons_succ]
      refine rgn.Walk.ys (v := ?_) rfl rfl rfl ?_ ?_
      rotate_left 1
      · intro W' hW'
        go_simp
        try with_reducible rfl
      try simp only [Act.put, List.setIfInBounds_toArray, List.set_cons_zero, List.set_cons_succ]
      refine rgn.Walk.ys (v := ?_) rfl rfl rfl ?_ ?_
      rotate_left 1
      · intro W' hW'
        go_simp
        try with_reducible rfl
      try simp only [Act.put, List.setIfInBounds_toArray, List.set_cons_zero, List.set_cons_succ]
      refine rgn.Walk.ys (v := ?_) rfl rfl rfl ?_ ?_
      rotate_left 1
      · intro W' hW'
        go_simp
        try with_reducible rfl
      try simp only [Act.put, List.setIfInBounds_toArray, List.set_cons_zero, List.set_cons_succ]
      refine rgn.Walk.ys (v := ?_) rfl rfl rfl ?_ ?_
      rotate_left 1
      · intro W' hW'
        go_simp
        try with_reducible rfl
      try simp only [Act.put, List.setIfInBounds_toArray, List.set_cons_zero, List.set_cons_succ]
      refine rgn.Walk.ys (v := ?_) rfl rfl rfl ?_ ?_
      rotate_left 1
      · intro W' hW'
        have q0 := hW'.keep C8.out
        go_simp
        try with_reducible rfl
      try simp only [Act.put, List.setIfInBounds_toArray, List.set_cons_zero, List.set_cons_succ]
      refine rgn.Walk.ys (v := ?_) rfl rfl rfl ?_ ?_
      rotate_left 1
      · intro W' hW'
        go_simp
        try with_reducible rfl
      try simp only [Act.put, List.setIfInBounds_toArray, List.set_cons_zero, List.set_cons_succ]
      refine rgn.Walk.ys (v := ?_) rfl rfl rfl ?_ ?_
      rotate_left 1
      · intro W' hW'
        go_simp
        try with_reducible rfl
      try simp only [Act.put, List.setIfInBounds_toArray, List.set_cons_zero, List.set_cons_succ]
      refine rgn.Walk.ys (v := ?_) rfl rfl rfl ?_ ?_
      rotate_left 1
      · intro W' hW'
        have q0 := (OBW.out.only hW' (by simp)).cell 5
        go_simp
        try with_reducible rfl
      try simp only [Act.put, List.setIfInBounds_toArray, List.set_cons_zero, List.set_cons_succ]
      refine rgn.Walk.ys (v := ?_) rfl rfl rfl ?_ ?_
      rotate_left 1
      · intro W' hW'
        go_simp
        try with_reducible rfl
      try simp only [Act.put, List.setIfInBounds_toArray, List.set_cons_zero, List.set_cons_succ]
      refine rgn.Walk.ys (v := ?_) rfl rfl rfl ?_ ?_
      rotate_left 1
      · intro W' hW'
        go_simp
        try with_reducible rfl
      try simp only [Act.put, List.setIfInBounds_toArray, List.set_cons_zero, List.set_cons_succ]
      refine rgn.Walk.ys (v := ?_) rfl rfl rfl ?_ ?_
      rotate_left 1
      · intro W' hW'
        go_simp
        try with_reducible rfl
      try simp only [Act.put, List.setIfInBounds_toArray, List.set_cons_zero, List.set_cons_succ]
      refine rgn.Walk.ys (v := ?_) rfl rfl rfl ?_ ?_
      rotate_left 1
      · intro W' hW'
        go_simp
        try with_reducible rfl
      try simp only [Act.put, List.setIfInBounds_toArray, List.set_cons_zero, List.set_cons_succ]
      refine rgn.Walk.ys (v := ?_) rfl rfl rfl ?_ ?_
      rotate_left 1
      · intro W' hW'
        go_simp
        try with_reducible rfl
      try simp only [Act.put, List.setIfInBounds_toArray, List.set_cons_zero, List.set_cons_succ]
      refine rgn.Walk.ys (v := ?_) rfl rfl rfl ?_ ?_
      rotate_left 1
      · intro W' hW'
        have q0 := hW'.keep C9.out
        go_simp
        try with_reducible rfl
      try simp only [Act.put, List.setIfInBounds_toArray, List.set_cons_zero, List.set_cons_succ]
      refine rgn.Walk.ys (v := ?_) rfl rfl rfl ?_ ?_
      rotate_left 1
      · intro W' hW'
        go_simp
        try with_reducible rfl
      try simp only [Act.put, List.setIfInBounds_toArray, List.set_cons_zero, List.set_cons_succ]
      refine rgn.Walk.ys (v := ?_) rfl rfl rfl ?_ ?_
      rotate_left 1
      · intro W' hW'
        go_simp
        try with_reducible rfl
      try simp only [Act.put, List.setIfInBounds_toArray, List.set_cons_zero, List.set_cons_succ]
      refine rgn.Walk.ys (v := ?_) rfl rfl rfl ?_ ?_
      rotate_left 1
      · intro W' hW'
        have q0 := (OBW.out.only hW' (by simp)).cell 6
        go_simp
        try with_reducible rfl
      try simp only [Act.put, List.setIfInBounds_toArray, List.set_cons_zero, List.set_cons_succ]
      refine rgn.Walk.ys (v := ?_) rfl rfl rfl ?_ ?_
      rotate_left 1
      · intro W' hW'
        go_simp
        try with_reducible rfl
      try simp only [Act.put, List.setIfInBounds_toArray, List.set_cons_zero, List.set_cons_succ]
      refine rgn.Walk.ys (v := ?_) rfl rfl rfl ?_ ?_
      rotate_left 1
      · intro W' hW'
        go_simp
        try with_reducible rfl
      try simp only [Act.put, List.setIfInBounds_toArray, List.set_cons_zero, List.set_cons_succ]
      refine rgn.Walk.ys (v := ?_) rfl rfl rfl ?_ ?_
      rotate_left 1
      · intro W' hW'
        go_simp
        try with_reducible rfl
      try simp only [Act.put, List.setIfInBounds_toArray, List.set_cons_zero, List.set_cons_succ]
      refine rgn.Walk.ys (v := ?_) rfl rfl rfl ?_ ?_
      rotate_left 1
      · intro W' hW'
        go_simp
        try with_reducible rfl
      try simp only [Act.put, List.setIfInBounds_toArray, List.set_cons_zero, List.set_cons_succ]
      refine rgn.Walk.ys (v := ?_) rfl rfl rfl ?_ ?_
      rotate_left 1
      · intro W' hW'
        go_simp
        try with_reducible rfl
      try simp only [Act.put, List.setIfInBounds_toArray, List.set_cons_zero, List.set_cons_succ]
      refine rgn.Walk.ys (v := ?_) rfl rfl rfl ?_ ?_
      rotate_left 1
      · intro W' hW'
        have q0 := (OBW.out.only hW' (by simp)).cell 7
        go_simp
        try with_reducible rfl
      try simp only [Act.put, List.setIfInBounds_toArray, List.set_cons_zero, List.set_cons_succ]
      refine rgn.Walk.ys (v := ?_) rfl rfl rfl ?_ ?_
      rotate_left 1
      · intro W' hW'
        go_simp
        try with_reducible rfl
      try simp only [Act.put, List.setIfInBounds_toArray, List.set_cons_zero, List.set_cons_succ]
      refine rgn.Walk.ys (v := ?_) rfl rfl rfl ?_ ?_
      rotate_left 1
      · intro W' hW'
        go_simp
        try with_reducible rfl
      try simp only [Act.put, List.setIfInBounds_toArray, List.set_cons_zero, List.set_cons_succ]
      refine rgn.Walk.ys (v := ?_) rfl rfl rfl ?_ ?_
      rotate_left 1
      · intro W' hW'
        go_simp
        try with_reducible rfl
      try simp only [Act.put, List.setIfInBounds_toArray, List.set_cons_zero, List.set_cons_succ]
      refine rgn.Walk.ys (v := ?_) rfl rfl rfl ?_ ?_
      rotate_left 1
      · intro W' hW'
        go_simp
        try with_reducible rfl
      try simp only [Act.put, List.setIfInBounds_toArray, List.set_cons_zero, List.set_cons_succ]
      refine rgn.Walk.ys (v := ?_) rfl rfl rfl ?_ ?_
      rotate_left 1
      · intro W' hW'
        go_simp
        try with_reducible rfl
      try simp only [Act.put, List.setIfInBounds_toArray, List.set_cons_zero, List.set_cons_succ]
      refine rgn.Walk.ys (v := ?_) rfl rfl rfl ?_ ?_
      rotate_left 1
      · intro W' hW'
        have q0 := (OBW.out.only hW' (by simp)).cell 8
        go_simp
        try with_reducible rfl
      try simp only [Act.put, List.setIfInBounds_toArray, List.set_cons_zero, List.set_cons_succ]
      refine rgn.Walk.ys (v := ?_) rfl rfl rfl ?_ ?_
      rotate_left 1
      · intro W' hW'
        go_simp
        try with_reducible rfl
      try simp only [Act.put, List.setIfInBounds_toArray, List.set_cons_zero, List.set_cons_succ]
      refine rgn.Walk.ys (v := ?_) rfl rfl rfl ?_ ?_
      rotate_left 1
      · intro W' hW'
        go_simp
        try with_reducible rfl
      try simp only [Act.put, List.setIfInBounds_toArray, List.set_cons_zero, List.set_cons_succ]
      refine rgn.Walk.ys (v := ?_) rfl rfl rfl ?_ ?_
      rotate_left 1
      · intro W' hW'
        go_simp
        try with_reducible rfl
      try simp only [Act.put, List.setIfInBounds_toArray, List.set_cons_zero, List.set_cons_succ]
      refine rgn.Walk.ys (v := ?_) rfl rfl rfl ?_ ?_
      rotate_left 1
      · intro W' hW'
        go_simp
        try with_reducible rfl
      try simp only [Act.put, List.setIfInBounds_toArray, List.set_cons_zero, List.set_cons_succ]
      refine rgn.Walk.ys (v := ?_) rfl rfl rfl ?_ ?_
      rotate_left 1
      · intro W' hW'
        go_simp
        try with_reducible rfl
      try simp only [Act.put, List.setIfInBounds_toArray, List.set_cons_zero, List.set_cons_succ]
      refine rgn.Walk.ys (v := ?_) rfl rfl rfl ?_ ?_
      rotate_left 1
      · intro W' hW'
        have hsl := HSL.out
        go_simp
        try with_reducible rfl
      try simp only [Act.put, List.setIfInBounds_toArray, List.set_cons_zero, List.set_cons_succ]
      refine rgn.Walk.ys (v := ?_) rfl rfl rfl ?_ ?_
      rotate_left 1
      · intro W' hW'
        go_simp
        try with_reducible rfl
      try simp only [Act.put, List.setIfInBounds_toArray, List.set_cons_zero, List.set_cons_succ]
      refine rgn.Walk.ys (v := ?_) rfl rfl rfl ?_ ?_
      rotate_left 1
      · intro W' hW'
        have q0 := (OBW.out.only hW' (by simp)).cell 10
        go_simp
        try with_reducible rfl
      try simp only [Act.put, List.setIfInBounds_toArray, List.set_cons_zero, List.set_cons_succ]
      refine rgn.Walk.es ?_
      refine rgn.stepE rfl rfl (fun K hK => ?_)
      go_simp
      refine (hlp.same _ _ _ _ _ _ _ d d HDR.out HD2.out HLB.out HLB.out).mono ?_
      rintro x w6 ⟨rfl, q6, hw6⟩
      have o6 : Only [] W w6 := by rw [hw6]; exact (Only.refl [] _).drewN q6
      rw [show decide (d = d) = true from decide_eq_true rfl]
      refine hK _ _ o6 ?_
      clear hK K
      try simp only [Act.put, List.setIfInBounds_toArray, List.set_cons_zero, List.set_cons_succ]
      have QW := hid (QW.out.trans o6); clear hw6 o6
      refine rgn.Walk.ys (v := ?_) rfl rfl rfl ?_ ?_
      rotate_left 1
      · intro W' hW'
        go_simp
        try with_reducible rfl
      try simp only [Act.put, List.setIfInBounds_toArray, List.set_cons_zero, List.set_cons_succ]
      refine rgn.Walk.ys (v := ?_) rfl rfl rfl ?_ ?_
      rotate_left 1
      · intro W' hW'
        go_simp
        try with_reducible rfl
      try simp only [Act.put, List.setIfInBounds_toArray, List.set_cons_zero, List.set_cons_succ]
      refine rgn.Walk.es ?_
      refine rgn.stepE rfl rfl (fun K hK => ?_)
      go_simp
      refine (known _ m (QW.out.keep HM.out) (tab_only HT.out QW.out)).mono ?_
      rintro x w7 ⟨rfl, o7⟩
      refine hK _ _ o7 ?_
      clear hK K
      try simp only [Act.put, List.setIfInBounds_toArray, List.set_cons_zero, List.set_cons_succ]
      have QW := hid (QW.out.trans o7); clear o7
      refine rgn.Walk.ys (v := ?_) rfl rfl rfl ?_ ?_
      rotate_left 1
      · intro W' hW'
        go_simp
        try with_reducible rfl
      try simp only [Act.put, List.setIfInBounds_toArray, List.set_cons_zero, List.set_cons_succ]
      refine rgn.Walk.es ?_
      refine rgn.stepE rfl rfl (fun K hK => ?_)
      go_simp
      refine hK _ _ ((Only.refl []) _) ?_
      clear hK K
      try simp only [Act.put, List.setIfInBounds_toArray, List.set_cons_zero, List.set_cons_succ]
      refine rgn.Walk.zs (NoPanic.normal ?_)
      go_wp2
      go_ret
      exact ⟨rfl, QW.out⟩
    · have E1 := fun W (h : Only [] w W) => encE W sv pid off lf pr wh mo fr to oA on oc dA dn dc o (HO.out.only_nil h) hnc HCM.out (by omega) (by omega) hch
      generalize chk sv pid off lf pr o dn = er at *
      have d1 : (er != 0) = true := by simpa using hch
      have E1 := hid E1
      go_wp2_with fail
      clear k0 k1 k2 k3 k4 k5 k6 k7 k8 k9 k10
      refine (E1.out _ QB.out).mono ?_
      rintro x w5 ⟨rfl, q5⟩
      have QB := hid (QB.out.trans q5)
      clear q5 hch
      go_wp2_with fail
      refine (known _ m (QB.out.keep HM.out) (tab_only HT.out QB.out)).mono ?_
      rintro x w12 ⟨rfl, q12⟩
      have QB := hid (QB.out.trans q12)
      go_wp2
      go_ret
      exact ⟨rfl, QB.out⟩
end Go.Proofs.YtaoeflngdlgboaaDoor.ip
