import Derived.Shelf.Small.Strs
import Derived.Test.YtbdfjbmocifhmaaGreatDoorK16
import Derived.Lib.IndexAny
set_option maxRecDepth 100000
set_option maxHeartbeats 8000000
namespace Go.Proofs
open Go.Shelf
def Tryz.lays137_ren:Go.Shelf.Ren:=⟨fun | 137=>174 | 217=>189 | 266=>205 | n=>n,fun | 9=>9 | 5=>5 | 3=>3 | n=>n,fun | n=>n⟩
theorem Tryz.lays137:Go.Proofs.Lays.n137 Tryz.prog Tryz.lays137_ren:={
 mixed:=by kernel_rfl
 f137:=Tryz.func174.trans (congrArg some (by kernel_rfl))
 f217:=Tryz.func189.trans (congrArg some (by kernel_rfl))
 f266:=Tryz.func205.trans (congrArg some (by kernel_rfl))
 t3:=Tryz.underlying3
 a3:=Tryz.isAgg3
 z3:=Tryz.sizeOf3
 v3:=Tryz.zeroValue3
 t5:=Tryz.underlying5
 a5:=Tryz.isAgg5
 z5:=Tryz.sizeOf5
 v5:=Tryz.zeroValue5
 t9:=Tryz.underlying9
 a9:=Tryz.isAgg9
 z9:=Tryz.sizeOf9
 v9:=Tryz.zeroValue9 }
open Go.RowKit in
theorem Tryz.strings_IndexByte (s:ByteArray)(c:Int)(w:World):
 Calls Tryz.prog 174 #[.string s,.int .u8 c] w fun e w'=>e = .returned (.int .i64 (Lib.indexByte s.data.toList c.toNat.toUInt8))∧w'=w:=Any.strings_IndexByte Tryz.lays137 s c w
end Go.Proofs
namespace Go.Proofs.YtbdfjbmocifhmaaGreatDoor
section
open Go Go.RowKit Go.Deep
def ix (c:Nat):Int:=if c=46 then 0 else if c=45 then 1 else if c=95 then 2 else -1
theorem ix_is (c:UInt8):Lib.indexByte [46,45,95] c=ix c.toNat:=by
 have key:∀ k:Fin 256,Lib.indexByte [46,45,95] (UInt8.ofNat k.val)=ix k.val:=by decide +kernel
 have:=key ⟨c.toNat,c.toNat_lt⟩
 simpa using this
theorem place_any (c:UInt8)(w:World):Calls Tryz.prog 174 #[.string ⟨#[46,45,95]⟩,.int .u8 c.toNat] w fun e w'=>e = .returned (.int .i64 (ix c.toNat))∧w=w' :=
 (Tryz.strings_IndexByte ⟨#[46,45,95]⟩ (c.toNat:Int) w).mono fun e w' ⟨he,hw⟩=>⟨by
  rw [he,← ix_is]
  simp,hw.symm⟩
theorem sign_any (c:UInt8)(g:Nat)(w:World)(h:w.cell? ⟨g,0,none⟩=some (.string ⟨#[46,45,95]⟩)):
  Calls Tryz.prog 173 #[.int .u8 c.toNat,.pointer (some ⟨g,0,none⟩)] w fun e w'=>e = .returned (.bool (okC c.toNat))∧w=w':=by
 have hp:=place_any c w
 have hx:∃ k,ix c.toNat=k∧(k = -1∧¬ (46≤c.toNat∧c.toNat≤46)∧¬ (45≤c.toNat∧c.toNat≤45)∧¬ (95≤c.toNat∧c.toNat≤95)∨k=0∧46≤c.toNat∧c.toNat≤46∨k=1∧45≤c.toNat∧c.toNat≤45∨k=2∧95≤c.toNat∧c.toNat≤95):=by
  refine ⟨_,rfl,?_⟩;unfold ix
  split
  · omega
  · split
    · omega
    · split<;>omega
 obtain ⟨k,hk,hk'⟩:=hx;rw [hk] at hp;clear hk;rcases classes c.toNat with ⟨hok,hcl⟩ | ⟨hok,hcl⟩
 all_goals rw [hok]
 all_goals
  clear hok;rcases hcl with ⟨hl,hu⟩ | ⟨hl,hu⟩ | ⟨hl,hu⟩ | ⟨hl,hu⟩ | ⟨hl,hu⟩ | ⟨hl,hu⟩
  all_goals
    rcases hk' with ⟨rfl,hk'⟩ | ⟨rfl,hk'⟩ | ⟨rfl,hk'⟩ | ⟨rfl,hk'⟩
    all_goals first
      | (exfalso;omega)
      | skip
    all_goals
      clear hk'
      go_enter Tryz.func173,Tryz.ntmps173
      go_wp2_with (go_at_call 174;go_must (refine hp.mono ?_);rintro e w1 ⟨rfl,rfl⟩)
      all_goals first
       | (exfalso;omega)
       | (go_ret;exact ⟨rfl,rfl⟩)
       | (go_ret;exact ⟨congrArg (fun b=>Ending.returned (Value.bool b)) (by simp;omega),rfl⟩)
theorem signs_any (s:ByteArray)(w:World):Calls Tryz.prog 152 #[.string s] w fun e w'=>e = .returned (.func (.func 173) #[] #[.pointer (some ⟨w.heap.size,0,none⟩)])∧w'=w.alloc (.cells #[.string s] 9):=by
 have hmf:∀ (fn:Fn) (first cap:Array Value) (w:World),(Instr.makeFunc fn first cap).run Tryz.prog w = .ok (.func fn first cap) w:=fun _ _ _ _=>rfl
 go_enter Tryz.func152,Tryz.ntmps152
 go_wp2
 go_ret
 exact ⟨rfl,rfl⟩
def Says (s:ByteArray)(e:Ending):Prop:=(OkN s∧e = .returned (.bool true))∨(¬ OkN s∧e = .returned (.bool false))
theorem isName_short (s:ByteArray)(w:World)(h:(s.toList==[])=true∨(s.toList==[])=false∧(s.toList==[46])=true∨(s.toList==[])=false∧(s.toList==[46])=false∧(s.toList==[46,46])=true):Calls Tryz.prog 120 #[.string s] w fun e w'=>e = .returned (.bool false)∧w=w':=by
 rcases h with h | ⟨h,h'⟩ | ⟨h,h',h''⟩
 all_goals
  go_enter Tryz.func120,Tryz.ntmps120
  go_wp2
  go_ret
  exact ⟨rfl,rfl⟩
theorem isName_long (s:ByteArray)(w:World)(h:(s.toList==[])=false)(h':(s.toList==[46])=false)(h'':(s.toList==[46,46])=false)(hl:24 < s.size):Calls Tryz.prog 120 #[.string s] w fun e w'=>e = .returned (.bool false)∧w=w':=by
 have hd:decide (24 < (s.size:Int))=true:=decide_eq_true (by omega)
 go_enter Tryz.func120,Tryz.ntmps120
 go_wp2
 go_ret
 exact ⟨rfl,rfl⟩
end
end Go.Proofs.YtbdfjbmocifhmaaGreatDoor
