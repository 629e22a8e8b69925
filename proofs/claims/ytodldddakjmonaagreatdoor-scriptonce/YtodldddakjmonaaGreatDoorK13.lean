import Derived.Shelf.Small.Strs
import Derived.Shelf.Strconv.Atoi
import Derived.Shelf.Strconv.Itoa3
import Derived.Shelf.Strings.Prefix
import Derived.Shelf.Strings.Split
import Derived.Test.YtodldddakjmonaaGreatDoorK12
import Derived.Lib.IndexAny
import Derived.Test.YtodldddakjmonaaGreatDoorK3
set_option maxRecDepth 100000
set_option maxHeartbeats 8000000
namespace Go.Proofs
open Go.Shelf
def Tryz.lays137_ren:Go.Shelf.Ren:=⟨fun | 137=>135 | 217=>137 | 266=>189 | n=>n,fun | 9=>9 | 5=>5 | 3=>3 | n=>n,fun | n=>n⟩
theorem Tryz.lays137:Go.Proofs.Lays.n137 Tryz.prog Tryz.lays137_ren:={
 mixed:=by kernel_rfl
 f137:=Tryz.func135.trans (congrArg some (by kernel_rfl))
 f217:=Tryz.func137.trans (congrArg some (by kernel_rfl))
 f266:=Tryz.func189.trans (congrArg some (by kernel_rfl))
 t3:=Tryz.underlying3
 a3:=Tryz.isAgg3
 z3:=Tryz.sizeOf3
 v3:=Tryz.zeroValue3
 t5:=Tryz.underlying5
 a5:=Tryz.isAgg5
 z5:=Tryz.sizeOf5
 v5:=Tryz.zeroValue5
 t9:=Tryz.underlying9
 a9:=Tryz.isAgg9
 z9:=Tryz.sizeOf9
 v9:=Tryz.zeroValue9 }
open Go.RowKit in
theorem Tryz.strings_IndexByte (s:ByteArray)(c:Int)(w:World):
 Calls Tryz.prog 135 #[.string s,.int .u8 c] w fun e w'=>e = .returned (.int .i64 (Lib.indexByte s.data.toList c.toNat.toUInt8))∧w'=w:=Any.strings_IndexByte Tryz.lays137 s c w
def Tryz.lays172_ren:Go.Shelf.Ren:=⟨fun | 172=>102 | 244=>152 | 245=>153 | 247=>201 | 279=>202 | 280=>203 | 281=>204 | 282=>205 | 287=>239 | 316=>240 | 171=>75 | 205=>241 | 321=>273 | 322=>274 | 243=>116 | 246=>165 | 283=>213 | 284=>214 | 285=>215 | 286=>216 | 129=>256 | 317=>255 | 318=>257 | 319=>258 | 320=>259 | 337=>275 | 338=>276 | n=>n,fun | 9=>9 | 3=>3 | 75=>27 | 76=>164 | 4=>4 | 5=>5 | 167=>333 | 37=>76 | 0=>0 | 85=>334 | 2=>2 | 168=>336 | 53=>285 | 175=>286 | 46=>270 | 210=>384 | 127=>282 | 145=>418 | 143=>416 | 21=>21 | 171=>349 | 173=>352 | 212=>389 | 51=>324 | 20=>20 | 213=>390 | 232=>434 | 233=>435 | 80=>63 | n=>n,fun | 15=>19 | 16=>20 | 17=>21 | 18=>22 | 19=>23 | n=>n⟩
theorem Tryz.lays172:Go.Proofs.Lays.n172 Tryz.prog Tryz.lays172_ren:={
 mixed:=by kernel_rfl
 f129:=Tryz.func256.trans (congrArg some (by kernel_rfl))
 f171:=Tryz.func75.trans (congrArg some (by kernel_rfl))
 f172:=Tryz.func102.trans (congrArg some (by kernel_rfl))
 f205:=Tryz.func241.trans (congrArg some (by kernel_rfl))
 f243:=Tryz.func116.trans (congrArg some (by kernel_rfl))
 f244:=Tryz.func152.trans (congrArg some (by kernel_rfl))
 f245:=Tryz.func153.trans (congrArg some (by kernel_rfl))
 f246:=Tryz.func165.trans (congrArg some (by kernel_rfl))
 f247:=Tryz.func201.trans (congrArg some (by kernel_rfl))
 f279:=Tryz.func202.trans (congrArg some (by kernel_rfl))
 f280:=Tryz.func203.trans (congrArg some (by kernel_rfl))
 f281:=Tryz.func204.trans (congrArg some (by kernel_rfl))
 f282:=Tryz.func205.trans (congrArg some (by kernel_rfl))
 f283:=Tryz.func213.trans (congrArg some (by kernel_rfl))
 f284:=Tryz.func214.trans (congrArg some (by kernel_rfl))
 f285:=Tryz.func215.trans (congrArg some (by kernel_rfl))
 f286:=Tryz.func216.trans (congrArg some (by kernel_rfl))
 f287:=Tryz.func239.trans (congrArg some (by kernel_rfl))
 f316:=Tryz.func240.trans (congrArg some (by kernel_rfl))
 f317:=Tryz.func255.trans (congrArg some (by kernel_rfl))
 f318:=Tryz.func257.trans (congrArg some (by kernel_rfl))
 f319:=Tryz.func258.trans (congrArg some (by kernel_rfl))
 f320:=Tryz.func259.trans (congrArg some (by kernel_rfl))
 f321:=Tryz.func273.trans (congrArg some (by kernel_rfl))
 f322:=Tryz.func274.trans (congrArg some (by kernel_rfl))
 f337:=Tryz.func275.trans (congrArg some (by kernel_rfl))
 f338:=Tryz.func276.trans (congrArg some (by kernel_rfl))
 t0:=Tryz.underlying0
 a0:=Tryz.isAgg0
 z0:=Tryz.sizeOf0
 v0:=Tryz.zeroValue0
 t2:=Tryz.underlying2
 a2:=Tryz.isAgg2
 z2:=Tryz.sizeOf2
 v2:=Tryz.zeroValue2
 t3:=Tryz.underlying3
 a3:=Tryz.isAgg3
 z3:=Tryz.sizeOf3
 v3:=Tryz.zeroValue3
 t4:=Tryz.underlying4
 a4:=Tryz.isAgg4
 z4:=Tryz.sizeOf4
 v4:=Tryz.zeroValue4
 t5:=Tryz.underlying5
 a5:=Tryz.isAgg5
 z5:=Tryz.sizeOf5
 v5:=Tryz.zeroValue5
 t9:=Tryz.underlying9
 a9:=Tryz.isAgg9
 z9:=Tryz.sizeOf9
 v9:=Tryz.zeroValue9
 t20:=Tryz.underlying20
 a20:=Tryz.isAgg20
 z20:=Tryz.sizeOf20
 v20:=Tryz.zeroValue20
 t21:=Tryz.underlying21
 a21:=Tryz.isAgg21
 z21:=Tryz.sizeOf21
 v21:=Tryz.zeroValue21
 t37:=Tryz.underlying76
 a37:=Tryz.isAgg76
 z37:=Tryz.sizeOf76
 v37:=Tryz.zeroValue76
 t46:=Tryz.underlying270
 a46:=Tryz.isAgg270
 z46:=Tryz.sizeOf270
 v46:=Tryz.zeroValue270
 t51:=Tryz.underlying324
 a51:=Tryz.isAgg324
 z51:=Tryz.sizeOf324
 v51:=Tryz.zeroValue324
 t53:=Tryz.underlying285
 a53:=Tryz.isAgg285
 z53:=Tryz.sizeOf285
 v53:=Tryz.zeroValue285
 t75:=Tryz.underlying27
 a75:=Tryz.isAgg27
 z75:=Tryz.sizeOf27
 v75:=Tryz.zeroValue27
 t76:=Tryz.underlying164
 a76:=Tryz.isAgg164
 z76:=Tryz.sizeOf164
 v76:=Tryz.zeroValue164
 t85:=Tryz.underlying334
 a85:=Tryz.isAgg334
 z85:=Tryz.sizeOf334
 v85:=Tryz.zeroValue334
 t127:=Tryz.underlying282
 a127:=Tryz.isAgg282
 z127:=Tryz.sizeOf282
 v127:=Tryz.zeroValue282
 t143:=Tryz.underlying416
 a143:=Tryz.isAgg416
 z143:=Tryz.sizeOf416
 v143:=Tryz.zeroValue416
 t145:=Tryz.underlying418
 a145:=Tryz.isAgg418
 z145:=Tryz.sizeOf418
 v145:=Tryz.zeroValue418
 t167:=Tryz.underlying333
 a167:=Tryz.isAgg333
 z167:=Tryz.sizeOf333
 v167:=Tryz.zeroValue333
 t168:=Tryz.underlying336
 a168:=Tryz.isAgg336
 z168:=Tryz.sizeOf336
 v168:=Tryz.zeroValue336
 t171:=Tryz.underlying349
 a171:=Tryz.isAgg349
 z171:=Tryz.sizeOf349
 v171:=Tryz.zeroValue349
 t173:=Tryz.underlying352
 a173:=Tryz.isAgg352
 z173:=Tryz.sizeOf352
 v173:=Tryz.zeroValue352
 t175:=Tryz.underlying286
 a175:=Tryz.isAgg286
 z175:=Tryz.sizeOf286
 v175:=Tryz.zeroValue286
 t210:=Tryz.underlying384
 a210:=Tryz.isAgg384
 z210:=Tryz.sizeOf384
 v210:=Tryz.zeroValue384
 t212:=Tryz.underlying389
 a212:=Tryz.isAgg389
 z212:=Tryz.sizeOf389
 v212:=Tryz.zeroValue389
 t213:=Tryz.underlying390
 a213:=Tryz.isAgg390
 z213:=Tryz.sizeOf390
 t232:=Tryz.underlying434
 a232:=Tryz.isAgg434
 z232:=Tryz.sizeOf434
 v232:=Tryz.zeroValue434
 t233:=Tryz.underlying435
 a233:=Tryz.isAgg435
 z233:=Tryz.sizeOf435
 v233:=Tryz.zeroValue435
 g15:=by kernel_rfl
 g16:=by kernel_rfl
 g17:=by kernel_rfl
 g18:=by kernel_rfl
 g19:=by kernel_rfl }
open Go.RowKit in
theorem Tryz.strconv_Atoi (s:ByteArray)(n:Int)(hl:s.size≤18)(h:Lib.atoi s.data.toList=some n)(w:World):
 Calls Tryz.prog 102 #[.string s] w fun e w'=>e = .returned (.tuple #[.int .i64 n,.nilIface])∧∃ t,w'=Lib.bytesWorld w 5 t:=Any.strconv_Atoi Tryz.lays172 s n hl h w
def Tryz.lays171_ren:Go.Shelf.Ren:=⟨fun | 171=>75 | 243=>116 | 246=>165 | 283=>213 | 284=>214 | 285=>215 | 286=>216 | 129=>256 | 317=>255 | 318=>257 | 319=>258 | 320=>259 | 337=>275 | 338=>276 | n=>n,fun | 3=>3 | 9=>9 | 2=>2 | 4=>4 | 171=>349 | 0=>0 | 53=>285 | 37=>76 | 5=>5 | 173=>352 | 212=>389 | 51=>324 | 20=>20 | 213=>390 | 46=>270 | 232=>434 | 233=>435 | n=>n,fun | 17=>21 | 18=>22 | 19=>23 | n=>n⟩
theorem Tryz.lays171:Go.Proofs.Lays.n171 Tryz.prog Tryz.lays171_ren:={
 mixed:=by kernel_rfl
 f129:=Tryz.func256.trans (congrArg some (by kernel_rfl))
 f171:=Tryz.func75.trans (congrArg some (by kernel_rfl))
 f243:=Tryz.func116.trans (congrArg some (by kernel_rfl))
 f246:=Tryz.func165.trans (congrArg some (by kernel_rfl))
 f283:=Tryz.func213.trans (congrArg some (by kernel_rfl))
 f284:=Tryz.func214.trans (congrArg some (by kernel_rfl))
 f285:=Tryz.func215.trans (congrArg some (by kernel_rfl))
 f286:=Tryz.func216.trans (congrArg some (by kernel_rfl))
 f317:=Tryz.func255.trans (congrArg some (by kernel_rfl))
 f318:=Tryz.func257.trans (congrArg some (by kernel_rfl))
 f319:=Tryz.func258.trans (congrArg some (by kernel_rfl))
 f320:=Tryz.func259.trans (congrArg some (by kernel_rfl))
 f337:=Tryz.func275.trans (congrArg some (by kernel_rfl))
 f338:=Tryz.func276.trans (congrArg some (by kernel_rfl))
 t0:=Tryz.underlying0
 a0:=Tryz.isAgg0
 z0:=Tryz.sizeOf0
 v0:=Tryz.zeroValue0
 t2:=Tryz.underlying2
 a2:=Tryz.isAgg2
 z2:=Tryz.sizeOf2
 v2:=Tryz.zeroValue2
 t3:=Tryz.underlying3
 a3:=Tryz.isAgg3
 z3:=Tryz.sizeOf3
 v3:=Tryz.zeroValue3
 t4:=Tryz.underlying4
 a4:=Tryz.isAgg4
 z4:=Tryz.sizeOf4
 v4:=Tryz.zeroValue4
 t5:=Tryz.underlying5
 a5:=Tryz.isAgg5
 z5:=Tryz.sizeOf5
 v5:=Tryz.zeroValue5
 t9:=Tryz.underlying9
 a9:=Tryz.isAgg9
 z9:=Tryz.sizeOf9
 v9:=Tryz.zeroValue9
 t20:=Tryz.underlying20
 a20:=Tryz.isAgg20
 z20:=Tryz.sizeOf20
 v20:=Tryz.zeroValue20
 t37:=Tryz.underlying76
 a37:=Tryz.isAgg76
 z37:=Tryz.sizeOf76
 v37:=Tryz.zeroValue76
 t46:=Tryz.underlying270
 a46:=Tryz.isAgg270
 z46:=Tryz.sizeOf270
 v46:=Tryz.zeroValue270
 t51:=Tryz.underlying324
 a51:=Tryz.isAgg324
 z51:=Tryz.sizeOf324
 v51:=Tryz.zeroValue324
 t53:=Tryz.underlying285
 a53:=Tryz.isAgg285
 z53:=Tryz.sizeOf285
 v53:=Tryz.zeroValue285
 t171:=Tryz.underlying349
 a171:=Tryz.isAgg349
 z171:=Tryz.sizeOf349
 v171:=Tryz.zeroValue349
 t173:=Tryz.underlying352
 a173:=Tryz.isAgg352
 z173:=Tryz.sizeOf352
 v173:=Tryz.zeroValue352
 t212:=Tryz.underlying389
 a212:=Tryz.isAgg389
 z212:=Tryz.sizeOf389
 v212:=Tryz.zeroValue389
 t213:=Tryz.underlying390
 a213:=Tryz.isAgg390
 z213:=Tryz.sizeOf390
 t232:=Tryz.underlying434
 a232:=Tryz.isAgg434
 z232:=Tryz.sizeOf434
 v232:=Tryz.zeroValue434
 t233:=Tryz.underlying435
 a233:=Tryz.isAgg435
 z233:=Tryz.sizeOf435
 v233:=Tryz.zeroValue435
 g17:=by kernel_rfl
 g18:=by kernel_rfl
 g19:=by kernel_rfl }
open Go.RowKit Go.Sort Go.Lib in
theorem Tryz.strconv_Itoa_small (i:Nat)(hi:i < 100)(w:World):
 Calls Tryz.prog 75 #[.int .i64 i] w fun e w'=>e = .returned (.string ⟨(Lib.decDigits i).toArray⟩)∧w'=w:=Any.strconv_Itoa_small Tryz.lays171 i hi w
def Tryz.lays99_ren:Go.Shelf.Ren:=⟨fun | 99=>99 | 206=>150 | n=>n,fun | 9=>9 | 4=>4 | 3=>3 | n=>n,fun | n=>n⟩
theorem Tryz.lays99:Go.Proofs.Lays.n99 Tryz.prog Tryz.lays99_ren:={
 mixed:=by kernel_rfl
 f99:=Tryz.func99.trans (congrArg some (by kernel_rfl))
 f206:=Tryz.func150.trans (congrArg some (by kernel_rfl))
 t3:=Tryz.underlying3
 a3:=Tryz.isAgg3
 z3:=Tryz.sizeOf3
 v3:=Tryz.zeroValue3
 t4:=Tryz.underlying4
 a4:=Tryz.isAgg4
 z4:=Tryz.sizeOf4
 v4:=Tryz.zeroValue4
 t9:=Tryz.underlying9
 a9:=Tryz.isAgg9
 z9:=Tryz.sizeOf9
 v9:=Tryz.zeroValue9 }
open Go.RowKit Go.Lib in
theorem Tryz.strings_HasPrefix (s p:ByteArray)(w:World):
 Calls Tryz.prog 99 #[.string s,.string p] w fun e w'=>e = .returned (.bool (Lib.hasPrefix s.data.toList p.data.toList))∧w'=w:=Any.strings_HasPrefix Tryz.lays99 s p w
def Tryz.lays100_ren:Go.Shelf.Ren:=⟨fun | 100=>100 | 207=>151 | n=>n,fun | 9=>9 | 4=>4 | 3=>3 | n=>n,fun | n=>n⟩
theorem Tryz.lays100:Go.Proofs.Lays.n100 Tryz.prog Tryz.lays100_ren:={
 mixed:=by kernel_rfl
 f100:=Tryz.func100.trans (congrArg some (by kernel_rfl))
 f207:=Tryz.func151.trans (congrArg some (by kernel_rfl))
 t3:=Tryz.underlying3
 a3:=Tryz.isAgg3
 z3:=Tryz.sizeOf3
 v3:=Tryz.zeroValue3
 t4:=Tryz.underlying4
 a4:=Tryz.isAgg4
 z4:=Tryz.sizeOf4
 v4:=Tryz.zeroValue4
 t9:=Tryz.underlying9
 a9:=Tryz.isAgg9
 z9:=Tryz.sizeOf9
 v9:=Tryz.zeroValue9 }
open Go.RowKit Go.Lib in
theorem Tryz.strings_HasSuffix (s p:ByteArray)(w:World)(hs:s.size≤9223372036854775807):
 Calls Tryz.prog 100 #[.string s,.string p] w fun e w'=>e = .returned (.bool (Lib.hasSuffix s.data.toList p.data.toList))∧w'=w:=Any.strings_HasSuffix Tryz.lays100 s p w hs
def Tryz.lays146_ren:Go.Shelf.Ren:=⟨fun | 146=>17 | 221=>28 | 268=>62 | 138=>63 | 143=>64 | 195=>90 | 197=>91 | 218=>92 | 219=>93 | 260=>136 | 217=>137 | 225=>138 | 224=>139 | 267=>140 | 266=>189 | 314=>190 | n=>n,fun | 9=>9 | 31=>24 | 3=>3 | 4=>4 | 0=>0 | 105=>211 | 21=>21 | 5=>5 | 46=>270 | 119=>320 | 139=>323 | 138=>322 | 146=>325 | 51=>324 | n=>n,fun | 1=>8 | 3=>17 | 4=>18 | n=>n⟩
theorem Tryz.lays146:Go.Proofs.Lays.n146 Tryz.prog Tryz.lays146_ren:={
 mixed:=by kernel_rfl
 f138:=Tryz.func63.trans (congrArg some (by kernel_rfl))
 f143:=Tryz.func64.trans (congrArg some (by kernel_rfl))
 f146:=Tryz.func17.trans (congrArg some (by kernel_rfl))
 f195:=Tryz.func90.trans (congrArg some (by kernel_rfl))
 f197:=Tryz.func91.trans (congrArg some (by kernel_rfl))
 f217:=Tryz.func137.trans (congrArg some (by kernel_rfl))
 f218:=Tryz.func92.trans (congrArg some (by kernel_rfl))
 f219:=Tryz.func93.trans (congrArg some (by kernel_rfl))
 f221:=Tryz.func28.trans (congrArg some (by kernel_rfl))
 f224:=Tryz.func139.trans (congrArg some (by kernel_rfl))
 f225:=Tryz.func138.trans (congrArg some (by kernel_rfl))
 f260:=Tryz.func136.trans (congrArg some (by kernel_rfl))
 f266:=Tryz.func189.trans (congrArg some (by kernel_rfl))
 f267:=Tryz.func140.trans (congrArg some (by kernel_rfl))
 f268:=Tryz.func62.trans (congrArg some (by kernel_rfl))
 f314:=Tryz.func190.trans (congrArg some (by kernel_rfl))
 t0:=Tryz.underlying0
 a0:=Tryz.isAgg0
 z0:=Tryz.sizeOf0
 v0:=Tryz.zeroValue0
 t3:=Tryz.underlying3
 a3:=Tryz.isAgg3
 z3:=Tryz.sizeOf3
 v3:=Tryz.zeroValue3
 t4:=Tryz.underlying4
 a4:=Tryz.isAgg4
 z4:=Tryz.sizeOf4
 v4:=Tryz.zeroValue4
 t5:=Tryz.underlying5
 a5:=Tryz.isAgg5
 z5:=Tryz.sizeOf5
 v5:=Tryz.zeroValue5
 t9:=Tryz.underlying9
 a9:=Tryz.isAgg9
 z9:=Tryz.sizeOf9
 v9:=Tryz.zeroValue9
 t21:=Tryz.underlying21
 a21:=Tryz.isAgg21
 z21:=Tryz.sizeOf21
 v21:=Tryz.zeroValue21
 t31:=Tryz.underlying24
 a31:=Tryz.isAgg24
 z31:=Tryz.sizeOf24
 v31:=Tryz.zeroValue24
 t46:=Tryz.underlying270
 a46:=Tryz.isAgg270
 z46:=Tryz.sizeOf270
 v46:=Tryz.zeroValue270
 t51:=Tryz.underlying324
 a51:=Tryz.isAgg324
 z51:=Tryz.sizeOf324
 v51:=Tryz.zeroValue324
 t105:=Tryz.underlying211
 a105:=Tryz.isAgg211
 z105:=Tryz.sizeOf211
 v105:=Tryz.zeroValue211
 t119:=Tryz.underlying320
 a119:=Tryz.isAgg320
 z119:=Tryz.sizeOf320
 t138:=Tryz.underlying322
 a138:=Tryz.isAgg322
 z138:=Tryz.sizeOf322
 v138:=Tryz.zeroValue322
 t139:=Tryz.underlying323
 a139:=Tryz.isAgg323
 z139:=Tryz.sizeOf323
 v139:=Tryz.zeroValue323
 t146:=Tryz.underlying325
 a146:=Tryz.isAgg325
 z146:=Tryz.sizeOf325
 v146:=Tryz.zeroValue325
 g1:=by kernel_rfl
 g3:=by kernel_rfl
 g4:=by kernel_rfl }
open Go.RowKit Go.Lib in
theorem Tryz.strings_Split (s sep:ByteArray)(m:Int)(w:World)(hs:s.size < 4294967281)(hm:w.cell? ⟨8,0,none⟩=some (.int .i64 m))(h1:1≤sep.size):
 Calls Tryz.prog 17 #[.string s,.string sep] w fun e w' =>
  e = .returned (.slice (some ⟨w.heap.size,0,none⟩) (Lib.countB s sep+1) (Lib.countB s sep+1))∧w'=w.alloc (.cells ((Lib.splitB sep 0 (Lib.countB s sep) s).map Value.string).toArray 9):=Any.strings_Split Tryz.lays146 (by kernel_rfl) s sep m w hs hm h1
end Go.Proofs
namespace Go.Proofs.YtodldddakjmonaaGreatDoor
section
open Go Go.RowKit Go.Deep
def ix (c:Nat):Int:=if c=46 then 0 else if c=45 then 1 else if c=95 then 2 else -1
theorem ix_is (c:UInt8):Lib.indexByte [46,45,95] c=ix c.toNat:=by
 have key:∀ k:Fin 256,Lib.indexByte [46,45,95] (UInt8.ofNat k.val)=ix k.val:=by decide +kernel
 have:=key ⟨c.toNat,c.toNat_lt⟩
 simpa using this
theorem place_any (c:UInt8)(w:World):Calls Tryz.prog 135 #[.string ⟨#[46,45,95]⟩,.int .u8 c.toNat] w fun e w'=>e = .returned (.int .i64 (ix c.toNat))∧w=w' :=
 (Tryz.strings_IndexByte ⟨#[46,45,95]⟩ (c.toNat:Int) w).mono fun e w' ⟨he,hw⟩=>⟨by
  rw [he,← ix_is]
  simp,hw.symm⟩
theorem sign_any (c:UInt8)(g:Nat)(w:World)(h:w.cell? ⟨g,0,none⟩=some (.string ⟨#[46,45,95]⟩)):
  Calls Tryz.prog 134 #[.int .u8 c.toNat,.pointer (some ⟨g,0,none⟩)] w fun e w'=>e = .returned (.bool (okC c.toNat))∧w=w':=by
 have hp:=place_any c w
 have hx:∃ k,ix c.toNat=k∧(k = -1∧¬ (46≤c.toNat∧c.toNat≤46)∧¬ (45≤c.toNat∧c.toNat≤45)∧¬ (95≤c.toNat∧c.toNat≤95)∨k=0∧46≤c.toNat∧c.toNat≤46∨k=1∧45≤c.toNat∧c.toNat≤45∨k=2∧95≤c.toNat∧c.toNat≤95):=by
  refine ⟨_,rfl,?_⟩;unfold ix
  split
  · omega
  · split
    · omega
    · split<;>omega
 obtain ⟨k,hk,hk'⟩:=hx;rw [hk] at hp;clear hk;rcases classes c.toNat with ⟨hok,hcl⟩ | ⟨hok,hcl⟩
 all_goals rw [hok]
 all_goals
  clear hok;rcases hcl with ⟨hl,hu⟩ | ⟨hl,hu⟩ | ⟨hl,hu⟩ | ⟨hl,hu⟩ | ⟨hl,hu⟩ | ⟨hl,hu⟩
  all_goals
    rcases hk' with ⟨rfl,hk'⟩ | ⟨rfl,hk'⟩ | ⟨rfl,hk'⟩ | ⟨rfl,hk'⟩
    all_goals first
      | (exfalso;omega)
      | skip
    all_goals
      clear hk'
      go_enter Tryz.func134,Tryz.ntmps134
      go_wp2_with (go_at_call 135;go_must (refine hp.mono ?_);rintro e w1 ⟨rfl,rfl⟩)
      all_goals first
       | (exfalso;omega)
       | (go_ret;exact ⟨rfl,rfl⟩)
       | (go_ret;exact ⟨congrArg (fun b=>Ending.returned (Value.bool b)) (by simp;omega),rfl⟩)
theorem signs_any (s:ByteArray)(w:World):Calls Tryz.prog 89 #[.string s] w fun e w'=>e = .returned (.func (.func 134) #[] #[.pointer (some ⟨w.heap.size,0,none⟩)])∧w'=w.alloc (.cells #[.string s] 9):=by
 have hmf:∀ (fn:Fn) (first cap:Array Value) (w:World),(Instr.makeFunc fn first cap).run Tryz.prog w = .ok (.func fn first cap) w:=fun _ _ _ _=>rfl
 go_enter Tryz.func89,Tryz.ntmps89
 go_wp2
 go_ret
 exact ⟨rfl,rfl⟩
def Says (s:ByteArray)(e:Ending):Prop:=(OkN s∧e = .returned (.bool true))∨(¬ OkN s∧e = .returned (.bool false))
theorem isName_short (s:ByteArray)(w:World)(h:(s.toList==[])=true∨(s.toList==[])=false∧(s.toList==[46])=true∨(s.toList==[])=false∧(s.toList==[46])=false∧(s.toList==[46,46])=true):Calls Tryz.prog 58 #[.string s] w fun e w'=>e = .returned (.bool false)∧w=w':=by
 rcases h with h | ⟨h,h'⟩ | ⟨h,h',h''⟩
 all_goals
  go_enter Tryz.func58,Tryz.ntmps58
  go_wp2
  go_ret
  exact ⟨rfl,rfl⟩
theorem isName_long (s:ByteArray)(w:World)(h:(s.toList==[])=false)(h':(s.toList==[46])=false)(h'':(s.toList==[46,46])=false)(hl:24 < s.size):Calls Tryz.prog 58 #[.string s] w fun e w'=>e = .returned (.bool false)∧w=w':=by
 have hd:decide (24 < (s.size:Int))=true:=decide_eq_true (by omega)
 go_enter Tryz.func58,Tryz.ntmps58
 go_wp2
 go_ret
 exact ⟨rfl,rfl⟩
theorem isName_loop (s:ByteArray)(w:World)(h:(s.toList==[])=false)(h':(s.toList==[46])=false)(h'':(s.toList==[46,46])=false)(h1:1≤s.size)(h2:s.size≤24):
  Calls Tryz.prog 58 #[.string s] w fun e w'=>Says s e∧Below w.heap.size w w':=by
 have hd:decide (24 < (s.size:Int))=false:=decide_eq_false (by omega)
 have HS:Hid (∀ c:UInt8,Calls Tryz.prog 134 #[.int .u8 c.toNat,.pointer (some ⟨w.heap.size,0,none⟩)] (w.alloc (.cells #[.string ⟨#[46,45,95]⟩] 9)) fun e w'=>e = .returned (.bool (okC c.toNat))∧w.alloc (.cells #[.string ⟨#[46,45,95]⟩] 9)=w') :=
  fun c=>sign_any c _ _ (by rw [World.cell?_alloc_new];rfl)
 have hB:Hid (Below w.heap.size w (w.alloc (.cells #[.string ⟨#[46,45,95]⟩] 9))):=(Below.refl _ _).alloc (Nat.le_refl _) _;have H3:Hid ((s.toList==[46])=false∧(s.toList==[46,46])=false):=⟨h',h''⟩
 go_enter Tryz.func58,Tryz.ntmps58
 go_wp2_with (go_at_call 89;go_must (refine (signs_any _ _).mono ?_);rintro e w1 ⟨rfl,rfl⟩)
 clear h h' h'' hd
 go_loop [23] (fun i=>∃ j:Nat,j≤s.size∧i = .int .i64 j∧∀ x,(hx:x < s.size)→x < j→okC s[x].toNat=true) (fun i=>s.size - (intOf i).toNat)
 case atStart=>exact ⟨0,Nat.zero_le _,rfl,fun x _ h=>absurd h (Nat.not_lt_zero _)⟩
 case round =>
  obtain ⟨j,hj,rfl,hall⟩:=hrel;have HA:Hid _:=hall;clear hall
  by_cases hlt:j < s.size
  · have hc:=HS.out s[j]
    cases hok:okC s[j].toNat
    · rw [hok] at hc
      have HN:Hid (¬ OkN s):=fun k=>by
       have:=k.2.2.2.2 j hlt;rw [hok] at this
       cases this
      clear hok HA
      go_wp2_with (go_at_call 134;go_must (refine hc.mono ?_);rintro e w1 ⟨rfl,rfl⟩)
      go_ret
      exact ⟨Or.inr ⟨HN.out,rfl⟩,hB.out⟩
    · rw [hok] at hc
      have HN:Hid (∀ x,(hx:x < s.size)→x < j+1→okC s[x].toNat=true):=fun x hx hxj=>by
       rcases Nat.lt_or_ge x j with h1 | h1
       · exact HA.out x hx h1
       · obtain rfl:x=j:=by omega
         exact hok
      clear hok HA
      go_wp2_with (go_at_call 134;go_must (refine hc.mono ?_);rintro e w1 ⟨rfl,rfl⟩)
      go_round
      case rel=>exact ⟨j+1,by omega,by go_num,HN.out⟩
      case measure=>simp [intOf];omega
  · have HO:Hid (OkN s):=⟨h1,h2,H3.out.1,H3.out.2,fun x hx=>HA.out x hx (by omega)⟩
    clear HA
    go_wp2
    go_ret
    exact ⟨Or.inl ⟨HO.out,rfl⟩,hB.out⟩
theorem empty_toList (s:ByteArray)(h:(s.toList==[])=true):s.size=0:=by
 have h2:s.toList=[]:=by simpa using h
 have h3:s.data.toList=[]:=by rw [← h2];exact (Lib.toList_data s).symm
 have:s.data.toList.length=0:=by rw [h3];rfl
 exact this
theorem full_toList (s:ByteArray)(h:(s.toList==[])=false):1≤s.size:=by
 rcases Nat.lt_or_ge 0 s.size with h1 | h1
 · exact h1
 · exfalso
   have h3:s.data.toList=[]:=List.eq_nil_of_length_eq_zero (Nat.le_zero.1 h1);rw [Lib.toList_data,h3] at h
   cases h
theorem isName_any (s:ByteArray)(w:World):Calls Tryz.prog 58 #[.string s] w fun e w'=>Says s e∧Below w.heap.size w w':=by
 cases h:(s.toList==[])
 · cases h':(s.toList==[46])
   · cases h'':(s.toList==[46,46])
     · rcases Nat.lt_or_ge 24 s.size with hl | hl
       · exact (isName_long s w h h' h'' hl).mono fun e w' k=>⟨Or.inr ⟨fun o=>absurd o.2.1 (by omega),k.1⟩,k.2 ▸ Below.refl _ _⟩
       · exact isName_loop s w h h' h'' (full_toList s h) hl
     · exact (isName_short s w (Or.inr (Or.inr ⟨h,h',h''⟩))).mono fun e w' k=>⟨Or.inr ⟨fun o=>Bool.noConfusion (h''.symm.trans o.2.2.2.1),k.1⟩,k.2 ▸ Below.refl _ _⟩
   · exact (isName_short s w (Or.inr (Or.inl ⟨h,h'⟩))).mono fun e w' k=>⟨Or.inr ⟨fun o=>Bool.noConfusion (h'.symm.trans o.2.2.1),k.1⟩,k.2 ▸ Below.refl _ _⟩
 · exact (isName_short s w (Or.inl h)).mono fun e w' k=>⟨Or.inr ⟨fun o=>absurd o.1 (by have:=empty_toList s h;omega),k.1⟩,k.2 ▸ Below.refl _ _⟩
theorem check_any (s:ByteArray)(A:Nat→Addr)(w:World)(h:Errs w A):Calls Tryz.prog 22 #[.string s] w fun e w'=>((OkN s∧e = .returned .nilIface)∨(¬ OkN s∧e = .returned (.iface 416 (.pointer (some (A 3))))))∧Below w.heap.size w w':=by
 have H:Hid _:=h;clear h
 go_enter Tryz.func22,Tryz.ntmps22
 go_wp2_with fail
 refine (isName_any _ _).mono ?_;rintro e w1 ⟨(⟨ho,rfl⟩ | ⟨ho,rfl⟩),hb⟩
 · have HO:Hid _:=ho
   have HB:Hid _:=hb;clear ho hb
   go_wp2
   go_ret
   exact ⟨Or.inl ⟨HO.out,rfl⟩,HB.out⟩
 · have HO:Hid _:=ho
   have HB:Hid _:=hb;have hcell:w1.cell? ⟨4,0,none⟩=some (.iface 416 (.pointer (some (A 3)))):=((H.out.below hb (Nat.le_refl _)).cell 3 (by decide));clear ho hb
   go_wp2
   go_ret
   exact ⟨Or.inr ⟨HO.out,rfl⟩,HB.out⟩
end
end Go.Proofs.YtodldddakjmonaaGreatDoor
