import Derived.Shelf.Small.Strs
import Derived.Shelf.Strings.Split
import Derived.Ground.Names2Prog
import Derived.Ground.SlgmProg
import Derived.Test.YtmnidbnaneagjaaGreatDoorK1
import Derived.Lib.IndexAny
set_option maxRecDepth 100000
set_option maxHeartbeats 8000000
namespace Go.Proofs
open Go.Shelf
def Tryz.lays137_ren:Go.Shelf.Ren:=⟨fun | 137=>237 | 217=>316 | 266=>377 | n=>n,fun | 9=>9 | 5=>5 | 3=>3 | n=>n,fun | n=>n⟩
theorem Tryz.lays137:Go.Proofs.Lays.n137 Tryz.prog Tryz.lays137_ren:={
 mixed:=by kernel_rfl
 f137:=Tryz.func237.trans (congrArg some (by kernel_rfl))
 f217:=Tryz.func316.trans (congrArg some (by kernel_rfl))
 f266:=Tryz.func377.trans (congrArg some (by kernel_rfl))
 t3:=Tryz.underlying3
 a3:=Tryz.isAgg3
 z3:=Tryz.sizeOf3
 v3:=Tryz.zeroValue3
 t5:=Tryz.underlying5
 a5:=Tryz.isAgg5
 z5:=Tryz.sizeOf5
 v5:=Tryz.zeroValue5
 t9:=Tryz.underlying9
 a9:=Tryz.isAgg9
 z9:=Tryz.sizeOf9
 v9:=Tryz.zeroValue9 }
open Go.RowKit in
theorem Tryz.strings_IndexByte (s:ByteArray)(c:Int)(w:World):
 Calls Tryz.prog 237 #[.string s,.int .u8 c] w fun e w'=>e = .returned (.int .i64 (Lib.indexByte s.data.toList c.toNat.toUInt8))∧w'=w:=Any.strings_IndexByte Tryz.lays137 s c w
def Tryz.lays146_ren:Go.Shelf.Ren:=⟨fun | 146=>44 | 221=>81 | 268=>138 | 138=>139 | 143=>140 | 195=>232 | 197=>233 | 218=>234 | 219=>235 | 260=>315 | 217=>316 | 225=>317 | 224=>318 | 267=>319 | 266=>377 | 314=>378 | n=>n,fun | 9=>9 | 31=>63 | 3=>3 | 4=>4 | 0=>0 | 105=>368 | 21=>21 | 5=>5 | 46=>318 | 119=>487 | 139=>490 | 138=>489 | 146=>491 | 51=>129 | n=>n,fun | 1=>16 | 3=>17 | 4=>18 | n=>n⟩
theorem Tryz.lays146:Go.Proofs.Lays.n146 Tryz.prog Tryz.lays146_ren:={
 mixed:=by kernel_rfl
 f138:=Tryz.func139.trans (congrArg some (by kernel_rfl))
 f143:=Tryz.func140.trans (congrArg some (by kernel_rfl))
 f146:=Tryz.func44.trans (congrArg some (by kernel_rfl))
 f195:=Tryz.func232.trans (congrArg some (by kernel_rfl))
 f197:=Tryz.func233.trans (congrArg some (by kernel_rfl))
 f217:=Tryz.func316.trans (congrArg some (by kernel_rfl))
 f218:=Tryz.func234.trans (congrArg some (by kernel_rfl))
 f219:=Tryz.func235.trans (congrArg some (by kernel_rfl))
 f221:=Tryz.func81.trans (congrArg some (by kernel_rfl))
 f224:=Tryz.func318.trans (congrArg some (by kernel_rfl))
 f225:=Tryz.func317.trans (congrArg some (by kernel_rfl))
 f260:=Tryz.func315.trans (congrArg some (by kernel_rfl))
 f266:=Tryz.func377.trans (congrArg some (by kernel_rfl))
 f267:=Tryz.func319.trans (congrArg some (by kernel_rfl))
 f268:=Tryz.func138.trans (congrArg some (by kernel_rfl))
 f314:=Tryz.func378.trans (congrArg some (by kernel_rfl))
 t0:=Tryz.underlying0
 a0:=Tryz.isAgg0
 z0:=Tryz.sizeOf0
 v0:=Tryz.zeroValue0
 t3:=Tryz.underlying3
 a3:=Tryz.isAgg3
 z3:=Tryz.sizeOf3
 v3:=Tryz.zeroValue3
 t4:=Tryz.underlying4
 a4:=Tryz.isAgg4
 z4:=Tryz.sizeOf4
 v4:=Tryz.zeroValue4
 t5:=Tryz.underlying5
 a5:=Tryz.isAgg5
 z5:=Tryz.sizeOf5
 v5:=Tryz.zeroValue5
 t9:=Tryz.underlying9
 a9:=Tryz.isAgg9
 z9:=Tryz.sizeOf9
 v9:=Tryz.zeroValue9
 t21:=Tryz.underlying21
 a21:=Tryz.isAgg21
 z21:=Tryz.sizeOf21
 v21:=Tryz.zeroValue21
 t31:=Tryz.underlying63
 a31:=Tryz.isAgg63
 z31:=Tryz.sizeOf63
 v31:=Tryz.zeroValue63
 t46:=Tryz.underlying318
 a46:=Tryz.isAgg318
 z46:=Tryz.sizeOf318
 v46:=Tryz.zeroValue318
 t51:=Tryz.underlying129
 a51:=Tryz.isAgg129
 z51:=Tryz.sizeOf129
 v51:=Tryz.zeroValue129
 t105:=Tryz.underlying368
 a105:=Tryz.isAgg368
 z105:=Tryz.sizeOf368
 v105:=Tryz.zeroValue368
 t119:=Tryz.underlying487
 a119:=Tryz.isAgg487
 z119:=Tryz.sizeOf487
 t138:=Tryz.underlying489
 a138:=Tryz.isAgg489
 z138:=Tryz.sizeOf489
 v138:=Tryz.zeroValue489
 t139:=Tryz.underlying490
 a139:=Tryz.isAgg490
 z139:=Tryz.sizeOf490
 v139:=Tryz.zeroValue490
 t146:=Tryz.underlying491
 a146:=Tryz.isAgg491
 z146:=Tryz.sizeOf491
 v146:=Tryz.zeroValue491
 g1:=by kernel_rfl
 g3:=by kernel_rfl
 g4:=by kernel_rfl }
open Go.RowKit Go.Lib in
theorem Tryz.strings_Split (s sep:ByteArray)(m:Int)(w:World)(hs:s.size < 4294967281)(hm:w.cell? ⟨16,0,none⟩=some (.int .i64 m))(h1:1≤sep.size):
 Calls Tryz.prog 44 #[.string s,.string sep] w fun e w' =>
  e = .returned (.slice (some ⟨w.heap.size,0,none⟩) (Lib.countB s sep+1) (Lib.countB s sep+1))∧w'=w.alloc (.cells ((Lib.splitB sep 0 (Lib.countB s sep) s).map Value.string).toArray 9):=Any.strings_Split Tryz.lays146 (by kernel_rfl) s sep m w hs hm h1
end Go.Proofs
namespace Go.Proofs.YtmnidbnaneagjaaGreatDoor
section
open Go Go.RowKit Go.Deep
def ix (c:Nat):Int:=if c=46 then 0 else if c=45 then 1 else if c=95 then 2 else -1
theorem ix_is (c:UInt8):Lib.indexByte [46,45,95] c=ix c.toNat:=by
 have key:∀ k:Fin 256,Lib.indexByte [46,45,95] (UInt8.ofNat k.val)=ix k.val:=by decide +kernel
 have:=key ⟨c.toNat,c.toNat_lt⟩
 simpa using this
theorem place_any (c:UInt8)(w:World):Calls Tryz.prog 237 #[.string ⟨#[46,45,95]⟩,.int .u8 c.toNat] w fun e w'=>e = .returned (.int .i64 (ix c.toNat))∧w=w' :=
 (Tryz.strings_IndexByte ⟨#[46,45,95]⟩ (c.toNat:Int) w).mono fun e w' ⟨he,hw⟩=>⟨by
  rw [he,← ix_is]
  simp,hw.symm⟩
theorem sign_any (c:UInt8)(g:Nat)(w:World)(h:w.cell? ⟨g,0,none⟩=some (.string ⟨#[46,45,95]⟩)):
  Calls Tryz.prog 236 #[.int .u8 c.toNat,.pointer (some ⟨g,0,none⟩)] w fun e w'=>e = .returned (.bool (okC c.toNat))∧w=w':=by
 have hp:=place_any c w
 have hx:∃ k,ix c.toNat=k∧(k = -1∧¬ (46≤c.toNat∧c.toNat≤46)∧¬ (45≤c.toNat∧c.toNat≤45)∧¬ (95≤c.toNat∧c.toNat≤95)∨k=0∧46≤c.toNat∧c.toNat≤46∨k=1∧45≤c.toNat∧c.toNat≤45∨k=2∧95≤c.toNat∧c.toNat≤95):=by
  refine ⟨_,rfl,?_⟩;unfold ix
  split
  · omega
  · split
    · omega
    · split<;>omega
 obtain ⟨k,hk,hk'⟩:=hx;rw [hk] at hp;clear hk;rcases classes c.toNat with ⟨hok,hcl⟩ | ⟨hok,hcl⟩
 all_goals rw [hok]
 all_goals
  clear hok;rcases hcl with ⟨hl,hu⟩ | ⟨hl,hu⟩ | ⟨hl,hu⟩ | ⟨hl,hu⟩ | ⟨hl,hu⟩ | ⟨hl,hu⟩
  all_goals
    rcases hk' with ⟨rfl,hk'⟩ | ⟨rfl,hk'⟩ | ⟨rfl,hk'⟩ | ⟨rfl,hk'⟩
    all_goals first
      | (exfalso;omega)
      | skip
    all_goals
      clear hk'
      go_enter Tryz.func236,Tryz.ntmps236
      go_wp2_with (go_at_call 237;go_must (refine hp.mono ?_);rintro e w1 ⟨rfl,rfl⟩)
      all_goals first
       | (exfalso;omega)
       | (go_ret;exact ⟨rfl,rfl⟩)
       | (go_ret;exact ⟨congrArg (fun b=>Ending.returned (Value.bool b)) (by simp;omega),rfl⟩)
theorem signs_any (s:ByteArray)(w:World):Calls Tryz.prog 141 #[.string s] w fun e w'=>e = .returned (.func (.func 236) #[] #[.pointer (some ⟨w.heap.size,0,none⟩)])∧w'=w.alloc (.cells #[.string s] 9):=by
 have hmf:∀ (fn:Fn) (first cap:Array Value) (w:World),(Instr.makeFunc fn first cap).run Tryz.prog w = .ok (.func fn first cap) w:=fun _ _ _ _=>rfl
 go_enter Tryz.func141,Tryz.ntmps141
 go_wp2
 go_ret
 exact ⟨rfl,rfl⟩
def Says (s:ByteArray)(e:Ending):Prop:=(OkN s∧e = .returned (.bool true))∨(¬ OkN s∧e = .returned (.bool false))
theorem isName_short (s:ByteArray)(w:World)(h:(s.toList==[])=true∨(s.toList==[])=false∧(s.toList==[46])=true∨(s.toList==[])=false∧(s.toList==[46])=false∧(s.toList==[46,46])=true):Calls Tryz.prog 82 #[.string s] w fun e w'=>e = .returned (.bool false)∧w=w':=by
 rcases h with h | ⟨h,h'⟩ | ⟨h,h',h''⟩
 all_goals
  go_enter Tryz.func82,Tryz.ntmps82
  go_wp2
  go_ret
  exact ⟨rfl,rfl⟩
theorem isName_long (s:ByteArray)(w:World)(h:(s.toList==[])=false)(h':(s.toList==[46])=false)(h'':(s.toList==[46,46])=false)(hl:24 < s.size):Calls Tryz.prog 82 #[.string s] w fun e w'=>e = .returned (.bool false)∧w=w':=by
 have hd:decide (24 < (s.size:Int))=true:=decide_eq_true (by omega)
 go_enter Tryz.func82,Tryz.ntmps82
 go_wp2
 go_ret
 exact ⟨rfl,rfl⟩
end
end Go.Proofs.YtmnidbnaneagjaaGreatDoor
