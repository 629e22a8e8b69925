import Derived.LaidLaws
import Derived.Stop.LaidErr
import Derived.Test.YtmnidbnaneagjaaGreatDoorK4
import Derived.Test.YtmnidbnaneagjaaGreatDoorK2
set_option maxRecDepth 100000
set_option maxHeartbeats 8000000
namespace Go.Proofs.YtmnidbnaneagjaaGreatDoor
section
open Go Go.RowKit Go.ChangeShapes
def sent (nm:String)(x:String×List UInt8):String×DataW Unit:=(x.1,.iface nm (.ptr (.agg [.lit (.string x.2)])))
theorem sentinels_list {P:Program}{nm:String}{W:World}{ti tp te ts:TypeId}{ms:Array (String×TypeId)}{f:Field}
  (hi:P.underlying ti=some (.interface ms)) (hrow:∀ u,P.typeName? 3 u=some nm→u=tp)
  (hp:P.underlying tp=some (.pointer te)) (he:P.underlying te=some (.struct #[f])) (hft:f.type=ts) (hfo:f.offset=0) (hs:P.underlying ts=some .string) (hc:P.cellsOf te=1) (hcs:P.cellsOf ts=1) :
  ∀ (L:List (String×List UInt8)) (G:List Nat) (ps:List MemPlace),L.length=G.length→(∀ x∈L.zip G,P.globalNamed x.1.1=some x.2∧(P.globals[x.2]?).map (·.type)=some ti) →
   DataW.LaidVars P W (L.map (sent nm)) ps →
   (∀ b off,MemPlace.cell b off∈ps→(∃ c t,W.heap[b]?=some (.cells c t (0,0)))∧∀ u v,W.cell? ⟨b,off,none⟩=some (.iface u v)→Value.okWide P W .any 0 u v) →
   ∃ As:List Addr,As.length=L.length∧(As.map fun a=>MemPlace.cell a.block a.off).Sublist ps∧(∀ a∈As,a.spot=none∧∃ c t,W.heap[a.block]?=some (.cells c t (0,0))) ∧
     (∀ x∈G.zip As,W.cell? ⟨x.1,0,none⟩=some (.iface tp (.pointer (some x.2))))∧∀ x∈L.zip As,∃ s:ByteArray,W.cell? x.2=some (.string s)∧s.data.toList=x.1.2:=by
 intro L
 induction L with
 | nil=>intro G ps hl _ _ _;exact ⟨[],rfl,List.nil_sublist _,fun a h=>by simp at h,fun x h=>by cases G<;>simp_all,fun x h=>by simp at h⟩
 | cons x L ih =>
  intro G ps hl hG hv hrows
  cases G with
  | nil=>simp at hl
  | cons g G =>
   obtain ⟨g0,t0,cs0,f0,p0,q0,hg0,ht0,hv0,hd0,hq,rfl⟩:=hv;have hG0:=hG (x,g) (by simp);obtain rfl:=Option.some.inj (hG0.1.symm.trans hg0);obtain rfl:=Option.some.inj (hG0.2.symm.trans ht0);obtain ⟨l0⟩:=cs0
   have ok0:∀ u v,l0=[.iface u v]→Value.okWide P W .any 0 u v:=fun u v e=>by
     subst e;exact (hrows g 0 (by simp [MemPlace.row])).2 u v (by simpa using World.var?_cell hg0 hv0 0)
   obtain ⟨a0,s0,rfl,hc0,hs0,hz0,rfl⟩:=errorString_of_trod hi hrow hp he hft hfo hs hc hcs hd0 ok0;obtain ⟨As,h1,h2,h3,h4,h5⟩:=ih G q0 (by simpa using hl) (fun y hy=>hG y (by simp [hy])) hq (fun b off hm=>hrows b off (List.mem_append_right _ hm));refine ⟨a0::As,by simp [h1],?_,?_,?_,?_⟩
   · rw [List.append_assoc]
     refine List.Sublist.trans ?_ (List.sublist_append_right _ _);show List.Sublist (MemPlace.cell a0.block a0.off::As.map _) (MemPlace.cell a0.block (a0.off+0)::q0);exact h2.cons_cons _
   · intro a ha
     rcases List.mem_cons.1 ha with rfl | ha
     · exact ⟨World.cell?_spot hc0,(hrows a.block a.off (by simp [MemPlace.row])).1⟩
     · exact h3 a ha
   · intro y hy
     rcases List.mem_cons.1 (by simpa using hy) with rfl | hy
     · simpa using World.var?_cell hg0 hv0 0
     · exact h4 y hy
   · intro y hy
     rcases List.mem_cons.1 (by simpa using hy) with rfl | hy
     · exact ⟨s0,hc0,hs0⟩
     · exact h5 y hy
end
section
open Go Go.RowKit
def errNames:List (String×List UInt8):=[("pigeonholes/api.ErrText",[112,105,103,101,111,110,104,111,108,101,115,58,32,116,101,120,116]),("pigeonholes/api.ErrBound",[112,105,103,101,111,110,104,111,108,101,115,58,32,98,111,117,110,100]),("pigeonholes/api.ErrShape",[112,105,103,101,111,110,104,111,108,101,115,58,32,115,104,97,112,101]),("pigeonholes/api.ErrName",[112,105,103,101,111,110,104,111,108,101,115,58,32,110,97,109,101]),("pigeonholes/api.ErrNone",[112,105,103,101,111,110,104,111,108,101,115,58,32,110,111,110,101]),("pigeonholes/api.ErrExist",[112,105,103,101,111,110,104,111,108,101,115,58,32,101,120,105,115,116]),("pigeonholes/api.ErrDir",[112,105,103,101,111,110,104,111,108,101,115,58,32,100,105,114]),("pigeonholes/api.ErrFile",[112,105,103,101,111,110,104,111,108,101,115,58,32,102,105,108,101]),("pigeonholes/api.ErrFull",[112,105,103,101,111,110,104,111,108,101,115,58,32,102,117,108,108]),("pigeonholes/api.ErrStale",[112,105,103,101,111,110,104,111,108,101,115,58,32,115,116,97,108,101]),("pigeonholes/api.ErrHeld",[112,105,103,101,111,110,104,111,108,101,115,58,32,104,101,108,100]),("pigeonholes/api.ErrSeq",[112,105,103,101,111,110,104,111,108,101,115,58,32,115,101,113]),("pigeonholes/api.ErrOld",[112,105,103,101,111,110,104,111,108,101,115,58,32,111,108,100]),("pigeonholes/api.ErrGrace",[112,105,103,101,111,110,104,111,108,101,115,58,32,103,114,97,99,101]),("pigeonholes/api.ErrPower",[112,105,103,101,111,110,104,111,108,101,115,58,32,112,111,119,101,114])]
def errGs:List Nat:=[1,0,3,4,5,6,7,8,9,10,11,12,13,2,14]
def gOf (k:Nat):Nat:=errGs.getD k 0
structure Errs (W:World)(A:Nat→Addr):Prop where
 cell:∀ k,k < 15→W.cell? ⟨gOf k,0,none⟩=some (.iface 535 (.pointer (some (A k))))
 inj:∀ i j,i < 15→j < 15→A i=A j→i=j
 row:∀ k,k < 15→∃ c t,W.heap[(A k).block]?=some (.cells c t (0,0))
 text:∀ k,k < 15→∃ s:ByteArray,W.cell? (A k)=some (.string s)∧s.data.toList=(errNames.getD k ("",[])).2
 typ:W.cell? ⟨15,0,none⟩=some (.iface 278 (.agg #[.pointer (some ⟨22,27,none⟩)]))
theorem Errs.below {W W':World}{A:Nat→Addr}{B:Nat}(h:Errs W A)(hb:Below B W W')(hB:W.heap.size≤B):Errs W' A:=by
 refine ⟨fun k hk=>?_,h.inj,fun k hk=>?_,fun k hk=>?_,?_⟩
 · have:=h.cell k hk
   exact (hb.cell (p:=⟨gOf k,0,none⟩) (Nat.lt_of_lt_of_le (lt_of_cell this) hB)).trans this
 · obtain ⟨c,t,e⟩:=h.row k hk
   exact ⟨c,t,(hb.block _ (Nat.lt_of_lt_of_le (Array.getElem?_eq_some_iff.1 e).1 hB)).trans e⟩
 · obtain ⟨s,e,e2⟩:=h.text k hk
   exact ⟨s,(hb.cell (Nat.lt_of_lt_of_le (lt_of_cell e) hB)).trans e,e2⟩
 · exact (hb.cell (p:=⟨15,0,none⟩) (Nat.lt_of_lt_of_le (lt_of_cell h.typ) hB)).trans h.typ
theorem errs_at (A:Nat→Addr)(w:World)(j:Nat)(hj:j < 15):(w.alloc (.cells #[.iface 535 (.pointer (some (A 0))),.iface 535 (.pointer (some (A 1))),.iface 535 (.pointer (some (A 2))),.iface 535 (.pointer (some (A 3))),.iface 535 (.pointer (some (A 4))),.iface 535 (.pointer (some (A 5))),.iface 535 (.pointer (some (A 6))),.iface 535 (.pointer (some (A 7))),.iface 535 (.pointer (some (A 8))),.iface 535 (.pointer (some (A 9))),.iface 535 (.pointer (some (A 10))),.iface 535 (.pointer (some (A 11))),.iface 535 (.pointer (some (A 12))),.iface 535 (.pointer (some (A 13))),.iface 535 (.pointer (some (A 14)))] 27)).cell? ⟨w.heap.size,j,none⟩=some (.iface 535 (.pointer (some (A j)))):=by
 rw [World.cell?_alloc_new]
 match j,hj with
 | 0,_=>rfl
 | 1,_=>rfl
 | 2,_=>rfl
 | 3,_=>rfl
 | 4,_=>rfl
 | 5,_=>rfl
 | 6,_=>rfl
 | 7,_=>rfl
 | 8,_=>rfl
 | 9,_=>rfl
 | 10,_=>rfl
 | 11,_=>rfl
 | 12,_=>rfl
 | 13,_=>rfl
 | 14,_=>rfl
theorem code_err (A:Nat→Addr)(k:Nat)(hk:k < 15)(w:World)(h:Errs w A):
   Calls Tryz.prog 24 #[.iface 535 (.pointer (some (A k)))] w fun e w'=>e = .returned (.tuple #[.int .i64 ((k:Int)+1),.int .i64 (-1)])∧Below w.heap.size w w':=by
 go_enter Tryz.func24,Tryz.ntmps24
 go_wp2_with fail
 refine (as_miss (A k) ⟨w.heap.size,0,none⟩ (.pointer none) _ ?_ ?_).mono ?_
 · rw [World.cell?_alloc_lt _ _ ⟨15,0,none⟩ (lt_of_cell h.typ)];exact h.typ
 · simp
 rintro e w1 ⟨rfl,hb1⟩;have hb2:Below w.heap.size w w1:=((Below.refl _ _).alloc (Nat.le_refl _) _).trans (hb1.mono (by simp));have h1:Errs w1 A:=h.below hb2 (Nat.le_refl _);have hcell:=h1.cell;have g0:w1.cell? ⟨1,0,none⟩=some (.iface 535 (.pointer (some (A 0)))):=hcell 0 (by decide);have g1:w1.cell? ⟨0,0,none⟩=some (.iface 535 (.pointer (some (A 1)))):=hcell 1 (by decide);have g2:w1.cell? ⟨3,0,none⟩=some (.iface 535 (.pointer (some (A 2)))):=hcell 2 (by decide);have g3:w1.cell? ⟨4,0,none⟩=some (.iface 535 (.pointer (some (A 3)))):=hcell 3 (by decide);have g4:w1.cell? ⟨5,0,none⟩=some (.iface 535 (.pointer (some (A 4)))):=hcell 4 (by decide);have g5:w1.cell? ⟨6,0,none⟩=some (.iface 535 (.pointer (some (A 5)))):=hcell 5 (by decide);have g6:w1.cell? ⟨7,0,none⟩=some (.iface 535 (.pointer (some (A 6)))):=hcell 6 (by decide);have g7:w1.cell? ⟨8,0,none⟩=some (.iface 535 (.pointer (some (A 7)))):=hcell 7 (by decide);have g8:w1.cell? ⟨9,0,none⟩=some (.iface 535 (.pointer (some (A 8)))):=hcell 8 (by decide);have g9:w1.cell? ⟨10,0,none⟩=some (.iface 535 (.pointer (some (A 9)))):=hcell 9 (by decide);have g10:w1.cell? ⟨11,0,none⟩=some (.iface 535 (.pointer (some (A 10)))):=hcell 10 (by decide);have g11:w1.cell? ⟨12,0,none⟩=some (.iface 535 (.pointer (some (A 11)))):=hcell 11 (by decide);have g12:w1.cell? ⟨13,0,none⟩=some (.iface 535 (.pointer (some (A 12)))):=hcell 12 (by decide);have g13:w1.cell? ⟨2,0,none⟩=some (.iface 535 (.pointer (some (A 13)))):=hcell 13 (by decide);have g14:w1.cell? ⟨14,0,none⟩=some (.iface 535 (.pointer (some (A 14)))):=hcell 14 (by decide);clear hcell hb1;have Hk:Hid (Errs w1 A):=h1;clear h1 h
 go_wp2
 have hat:=errs_at A w1;have Hat:Hid _:=hat;clear hat g0 g1 g2 g3 g4 g5 g6 g7 g8 g9 g10 g11 g12 g13 g14
 go_loop [3,33] (fun pl i=>∃ j:Nat,j≤k∧i = .int .i64 j∧pl = .int .i64 (-1)) (fun _ i=>k+1 - (intOf i).toNat)
 case atStart=>exact ⟨0,Nat.zero_le _,rfl,rfl⟩
 case round =>
   obtain ⟨j,hj,rfl,rfl⟩:=hrel;have hc:=Hat.out j (by omega);have hE:Errs (w1.alloc (.cells #[.iface 535 (.pointer (some (A 0))),.iface 535 (.pointer (some (A 1))),.iface 535 (.pointer (some (A 2))),.iface 535 (.pointer (some (A 3))),.iface 535 (.pointer (some (A 4))),.iface 535 (.pointer (some (A 5))),.iface 535 (.pointer (some (A 6))),.iface 535 (.pointer (some (A 7))),.iface 535 (.pointer (some (A 8))),.iface 535 (.pointer (some (A 9))),.iface 535 (.pointer (some (A 10))),.iface 535 (.pointer (some (A 11))),.iface 535 (.pointer (some (A 12))),.iface 535 (.pointer (some (A 13))),.iface 535 (.pointer (some (A 14)))] 27)) A:=Hk.out.below ((Below.refl _ _).alloc (Nat.le_refl _) _) (Nat.le_refl _)
   by_cases hjk:j=k
   · subst hjk
     clear hE
     go_wp2_with (go_at_call 47;refine (is_same (A j) _).mono ?_;rintro e w2 ⟨rfl,rfl⟩)
     go_ret2
     exact ⟨rfl,hb2.alloc hb2.size _⟩
   · obtain ⟨ca,ta,ra⟩:=hE.row k hk
     obtain ⟨cb,tb,rb⟩:=hE.row j (by omega);have hne:A k≠A j:=fun e=>hjk (hE.inj j k (by omega) hk e.symm);clear hE;have Ra:Hid _:=ra;have Rb:Hid _:=rb;clear ra rb
     go_wp2_with (go_at_call 47;refine (is_other (A k) (A j) ca cb ta tb _ hne Ra.out Rb.out).mono ?_;rintro e w2 ⟨rfl,rfl⟩)
     go_round
     case rel=>exact ⟨j+1,by omega,by go_num,rfl⟩
     case measure=>simp [intOf];omega
end
section
open Go Go.RowKit Go.Deep
theorem isName_loop (s:ByteArray)(w:World)(h:(s.toList==[])=false)(h':(s.toList==[46])=false)(h'':(s.toList==[46,46])=false)(h1:1≤s.size)(h2:s.size≤24):
  Calls Tryz.prog 82 #[.string s] w fun e w'=>Says s e∧Below w.heap.size w w':=by
 have hd:decide (24 < (s.size:Int))=false:=decide_eq_false (by omega)
 have HS:Hid (∀ c:UInt8,Calls Tryz.prog 236 #[.int .u8 c.toNat,.pointer (some ⟨w.heap.size,0,none⟩)] (w.alloc (.cells #[.string ⟨#[46,45,95]⟩] 9)) fun e w'=>e = .returned (.bool (okC c.toNat))∧w.alloc (.cells #[.string ⟨#[46,45,95]⟩] 9)=w') :=
  fun c=>sign_any c _ _ (by rw [World.cell?_alloc_new];rfl)
 have hB:Hid (Below w.heap.size w (w.alloc (.cells #[.string ⟨#[46,45,95]⟩] 9))):=(Below.refl _ _).alloc (Nat.le_refl _) _;have H3:Hid ((s.toList==[46])=false∧(s.toList==[46,46])=false):=⟨h',h''⟩
 go_enter Tryz.func82,Tryz.ntmps82
 go_wp2_with (go_at_call 141;go_must (refine (signs_any _ _).mono ?_);rintro e w1 ⟨rfl,rfl⟩)
 clear h h' h'' hd
 go_loop [23] (fun i=>∃ j:Nat,j≤s.size∧i = .int .i64 j∧∀ x,(hx:x < s.size)→x < j→okC s[x].toNat=true) (fun i=>s.size - (intOf i).toNat)
 case atStart=>exact ⟨0,Nat.zero_le _,rfl,fun x _ h=>absurd h (Nat.not_lt_zero _)⟩
 case round =>
  obtain ⟨j,hj,rfl,hall⟩:=hrel;have HA:Hid _:=hall;clear hall
  by_cases hlt:j < s.size
  · have hc:=HS.out s[j]
    cases hok:okC s[j].toNat
    · rw [hok] at hc
      have HN:Hid (¬ OkN s):=fun k=>by
       have:=k.2.2.2.2 j hlt;rw [hok] at this
       cases this
      clear hok HA
      go_wp2_with (go_at_call 236;go_must (refine hc.mono ?_);rintro e w1 ⟨rfl,rfl⟩)
      go_ret
      exact ⟨Or.inr ⟨HN.out,rfl⟩,hB.out⟩
    · rw [hok] at hc
      have HN:Hid (∀ x,(hx:x < s.size)→x < j+1→okC s[x].toNat=true):=fun x hx hxj=>by
       rcases Nat.lt_or_ge x j with h1 | h1
       · exact HA.out x hx h1
       · obtain rfl:x=j:=by omega
         exact hok
      clear hok HA
      go_wp2_with (go_at_call 236;go_must (refine hc.mono ?_);rintro e w1 ⟨rfl,rfl⟩)
      go_round
      case rel=>exact ⟨j+1,by omega,by go_num,HN.out⟩
      case measure=>simp [intOf];omega
  · have HO:Hid (OkN s):=⟨h1,h2,H3.out.1,H3.out.2,fun x hx=>HA.out x hx (by omega)⟩
    clear HA
    go_wp2
    go_ret
    exact ⟨Or.inl ⟨HO.out,rfl⟩,hB.out⟩
theorem empty_toList (s:ByteArray)(h:(s.toList==[])=true):s.size=0:=by
 have h2:s.toList=[]:=by simpa using h
 have h3:s.data.toList=[]:=by rw [← h2];exact (Lib.toList_data s).symm
 have:s.data.toList.length=0:=by rw [h3];rfl
 exact this
theorem full_toList (s:ByteArray)(h:(s.toList==[])=false):1≤s.size:=by
 rcases Nat.lt_or_ge 0 s.size with h1 | h1
 · exact h1
 · exfalso
   have h3:s.data.toList=[]:=List.eq_nil_of_length_eq_zero (Nat.le_zero.1 h1);rw [Lib.toList_data,h3] at h
   cases h
theorem isName_any (s:ByteArray)(w:World):Calls Tryz.prog 82 #[.string s] w fun e w'=>Says s e∧Below w.heap.size w w':=by
 cases h:(s.toList==[])
 · cases h':(s.toList==[46])
   · cases h'':(s.toList==[46,46])
     · rcases Nat.lt_or_ge 24 s.size with hl | hl
       · exact (isName_long s w h h' h'' hl).mono fun e w' k=>⟨Or.inr ⟨fun o=>absurd o.2.1 (by omega),k.1⟩,k.2 ▸ Below.refl _ _⟩
       · exact isName_loop s w h h' h'' (full_toList s h) hl
     · exact (isName_short s w (Or.inr (Or.inr ⟨h,h',h''⟩))).mono fun e w' k=>⟨Or.inr ⟨fun o=>Bool.noConfusion (h''.symm.trans o.2.2.2.1),k.1⟩,k.2 ▸ Below.refl _ _⟩
   · exact (isName_short s w (Or.inr (Or.inl ⟨h,h'⟩))).mono fun e w' k=>⟨Or.inr ⟨fun o=>Bool.noConfusion (h'.symm.trans o.2.2.1),k.1⟩,k.2 ▸ Below.refl _ _⟩
 · exact (isName_short s w (Or.inl h)).mono fun e w' k=>⟨Or.inr ⟨fun o=>absurd o.1 (by have:=empty_toList s h;omega),k.1⟩,k.2 ▸ Below.refl _ _⟩
theorem check_any (s:ByteArray)(A:Nat→Addr)(w:World)(h:Errs w A):Calls Tryz.prog 45 #[.string s] w fun e w'=>((OkN s∧e = .returned .nilIface)∨(¬ OkN s∧e = .returned (.iface 535 (.pointer (some (A 3))))))∧Below w.heap.size w w':=by
 have H:Hid _:=h;clear h
 go_enter Tryz.func45,Tryz.ntmps45
 go_wp2_with fail
 refine (isName_any _ _).mono ?_;rintro e w1 ⟨(⟨ho,rfl⟩ | ⟨ho,rfl⟩),hb⟩
 · have HO:Hid _:=ho
   have HB:Hid _:=hb;clear ho hb
   go_wp2
   go_ret
   exact ⟨Or.inl ⟨HO.out,rfl⟩,HB.out⟩
 · have HO:Hid _:=ho
   have HB:Hid _:=hb;have hcell:w1.cell? ⟨4,0,none⟩=some (.iface 535 (.pointer (some (A 3)))):=((H.out.below hb (Nat.le_refl _)).cell 3 (by decide));clear ho hb
   go_wp2
   go_ret
   exact ⟨Or.inr ⟨HO.out,rfl⟩,HB.out⟩
def pieces:List UInt8→List (List UInt8)
 | []=>[[]]
 | c::l=>if c.toNat=47 then []::pieces l else match pieces l with
  | []=>[[c]]
  | p::ps=>(c::p)::ps
theorem pieces_some (l:List UInt8):∃ p ps,pieces l=p::ps:=by
 cases l with
 | nil=>exact ⟨_,_,rfl⟩
 | cons c l =>
  unfold pieces
  split
  · exact ⟨_,_,rfl⟩
  · cases pieces l<;>exact ⟨_,_,rfl⟩
theorem index_yes (l:List UInt8):Lib.index ((47:UInt8)::l) [47]=0:=by rw [Lib.index];simp [List.isPrefixOf]
theorem index_no (c:UInt8)(l:List UInt8)(h:c≠47):Lib.index (c::l) [47]=if Lib.index l [47] == -1 then -1 else Lib.index l [47]+1:=by
 have hp:([47]:List UInt8).isPrefixOf (c::l)=false:=by simp [List.isPrefixOf,Ne.symm h]
 rw [Lib.index,hp];simp
theorem split_pieces (l:List UInt8):Lib.splitK [47] 0 (Lib.count l [47]) l=pieces l:=by
 induction l with
 | nil=>rw [show Lib.count [] [47]=0 from rfl];rfl
 | cons c l ih =>
  by_cases hc:c=47
  · subst hc
    rw [Lib.count_cons_eq,Nat.add_comm 1,Lib.splitK,index_yes,if_neg (by decide),pieces,if_pos (by decide)];simp [ih]
  · have hn:c.toNat≠47:=fun h=>hc (UInt8.toNat_inj.1 (by simpa using h))
    rw [Lib.count_cons_ne _ _ _ hc,pieces,if_neg hn,← ih]
    cases hk:Lib.count l [47] with
    | zero=>rfl
    | succ k =>
     rw [Lib.splitK,Lib.splitK,index_no _ _ hc]
     by_cases hi:Lib.index l [47] = -1
     · simp [hi]
     · have hge:=Lib.index_ge l [47]
       obtain ⟨j,hj⟩:∃ j:Nat,Lib.index l [47]=j:=⟨(Lib.index l [47]).toNat,by omega⟩
       have n1:¬ ((j:Int) == -1)=true:=by simp
       have n2:¬ ((j:Int)+1 == -1)=true:=by simp;omega
       rw [hj,if_neg n1,if_neg n2,if_neg n1];rw [show ((j:Int)+1).toNat=j+1 by omega,show ((j:Int)).toNat=j by omega];simp
theorem splitB_pieces (s:ByteArray):Lib.splitB ⟨#[47]⟩ 0 (Lib.countB s ⟨#[47]⟩) s=(pieces s.data.toList).map bs:=by
 have h:=Lib.splitB_data ⟨#[47]⟩ 0 (Lib.countB s ⟨#[47]⟩) s
 rw [show Lib.countB s ⟨#[47]⟩=Lib.count s.data.toList [47] from rfl] at h ⊢
 rw [show (⟨#[47]⟩:ByteArray).data.toList=[47] from rfl,split_pieces] at h
 rw [← h,List.map_map]
 conv=>lhs;rw [← List.map_id (Lib.splitB ⟨#[47]⟩ 0 (Lib.count s.data.toList [47]) s)]
 exact List.map_congr_left fun x _=>data_inj (bs_data _).symm
theorem strokes_any (s:ByteArray)(m:Int)(w:World)(hs:s.size≤1000000)(hm:w.cell? ⟨16,0,none⟩=some (.int .i64 m)):
  Calls Tryz.prog 44 #[.string s,.string ⟨#[47]⟩] w fun e w'=>e = .returned (.slice (some ⟨w.heap.size,0,none⟩) (pieces s.data.toList).length (pieces s.data.toList).length)∧w'=w.alloc (.cells (cellsT (pieces s.data.toList)).toArray 9):=by
 have hl:Lib.countB s ⟨#[47]⟩+1=(pieces s.data.toList).length:=by
  have:=Lib.splitB_all ⟨#[47]⟩ (by decide) 0 _ s rfl;rw [splitB_pieces,List.length_map] at this;exact this.symm
 refine (Tryz.strings_Split s ⟨#[47]⟩ m w (by omega) hm (by decide)).mono fun e w' ⟨he,hw⟩=>?_;rw [hl] at he;rw [splitB_pieces,List.map_map] at hw;exact ⟨he,hw⟩
theorem pieces_len (l:List UInt8):(pieces l).length≤l.length+1:=by
 induction l with
 | nil=>simp [pieces]
 | cons c l ih =>
  obtain ⟨q,qs,hq⟩:=pieces_some l;rw [pieces,hq];rw [hq] at ih
  split<;>simp at ih ⊢<;>omega
end
end Go.Proofs.YtmnidbnaneagjaaGreatDoor
