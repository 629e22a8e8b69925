import Derived.Test.YtmnidbnaneagjaaGreatDoorK39
set_option maxRecDepth 100000
set_option maxHeartbeats 8000000
namespace Go.Proofs.YtmnidbnaneagjaaGreatDoor
section
open Go Go.RowKit Go.Deep Go.Maps
def regAtS (n:Nat):Code→Option (Array Oper)
 | .region id ops _=>if id=n then some ops else none
 | .seq x y=>(regAtS n x).orElse fun _=>regAtS n y
 | .cond _ x y=>(regAtS n x).orElse fun _=>regAtS n y
 | .block _ x=>regAtS n x
 | .loop x=>regAtS n x
 | .scope x=>regAtS n x
 | _=>none
abbrev imgO:Obj := .cells #[.string ⟨#[]⟩,.string ⟨#[]⟩] 67
theorem img_cells {W:World}{b:Nat}{c0 c1:Value}{ty:TypeId}(hb:W.heap[b]?=some (.cells #[c0,c1] ty (0,0))):W.cell? ⟨b,0,none⟩=some c0∧W.cell? ⟨b,1,none⟩=some c1∧b < W.heap.size∧(∀ o,W.frozen? ⟨b,o,none⟩=false) :=
 ⟨cell_of_row _ _ 0 _ _ _ hb,cell_of_row _ _ 1 _ _ _ hb,(Array.getElem?_eq_some_iff.1 hb).1,fun _=>frozen_of_row _ _ _ _ _ hb⟩
theorem set2S {W:World}{b:Nat}{c0 c1:Value}{ty:TypeId}(hb:W.heap[b]?=some (.cells #[c0,c1] ty (0,0)))(v0 v1:Value):((W.setCell ⟨b,0,none⟩ v0).setCell ⟨b,1,none⟩ v1).heap[b]?=some (.cells #[v0,v1] ty (0,0)):=by
 rw [heap_setCell_same _ b 1 _ _ _ (heap_setCell_same W b 0 _ _ _ hb)];rfl
theorem Only.setCell2 {w W:World}{b:Nat}(ho:Only [] w W)(hb:w.heap.size≤b)(v0 v1:Value):Only [] w ((W.setCell ⟨b,0,none⟩ v0).setCell ⟨b,1,none⟩ v1):=(ho.setCell (Or.inr hb) _).setCell (Or.inr hb) _
theorem save_reg {ops:Array Oper}(hops:regAtS 1 (Tryz.f27.body.getD .skip)=some ops)(W:World)(st sv tr:Nat)(tx ux:ByteArray)(kn cl:Value)(hk0:W.cell? ⟨st,0,none⟩=some (.pointer (some ⟨sv,0,none⟩)))(hk2:W.cell? ⟨st,2,none⟩=some kn)
   (hen:∀ W',Only [] W W' →
     (Calls Tryz.prog 16 #[.pointer (some ⟨sv,0,none⟩)] W' fun e w'=>e = .returned (.pointer (some ⟨tr,0,none⟩))∧Only [] W' w') ∧
     (Calls Tryz.prog 50 #[.pointer (some ⟨tr,0,none⟩)] W' fun e w'=>e = .returned (.string tx)∧Only [] W' w') ∧
     (Calls Tryz.prog 52 #[.pointer (some ⟨sv,0,none⟩)] W' fun e w'=>e = .returned cl∧Only [] W' w') ∧
     Calls Tryz.prog 51 #[kn,cl] W' fun e w'=>e = .returned (.string ux)∧Only [] W' w')
   {Q:Exit→Act→World→Prop} (hP:∀ c (a:Act) (d:Nat) v W',Q (.panic c) (a.put (some d) v) W'→Q (.panic c) a W') {u1 u2 u3 u4 u5 u6 u7 u8 u9 u10 u11 u12 u13 u14 u15 u16 u17 u18 u19 u20 u21 u22 u23 u24 u25 u26 u27 u28 u29 u30 u31 u32 u33 u34 u35 u36 u37 u38 u39 u40 u41 u42 u43 u44 u45 u46 u47 u48 u49 u50 u51 u52:Value}
   (hQ:∀ bb W',W'.heap[bb]?=some (.cells #[.string tx,.string ux] 67 (0,0))→Only [] W W'→W.heap.size≤bb→Q .normal { tmps:=#[.pointer (some ⟨st,0,none⟩),u1,u2,.pointer (some ⟨bb,0,none⟩),.pointer (some ⟨st,0,none⟩),.pointer (some ⟨st,0,none⟩),.pointer (some ⟨st,0,none⟩),.pointer (some ⟨st,0,none⟩),.pointer (some ⟨sv,0,none⟩),.pointer (some ⟨tr,0,none⟩),.string tx,.pointer (some ⟨st,0,none⟩),.pointer (some ⟨st,0,none⟩),.pointer (some ⟨st,1,none⟩),.pointer (some ⟨st,2,none⟩),kn,.pointer (some ⟨st,0,none⟩),.pointer (some ⟨st,0,none⟩),.pointer (some ⟨st,0,none⟩),.pointer (some ⟨st,0,none⟩),.pointer (some ⟨sv,0,none⟩),cl,.string ux,.agg #[.string tx,.string ux],u24,u25,u26,u27,u28,u29,u30,u31,u32,u33,u34,u35,u36,u37,u38,u39,u40,u41,u42,u43,u44,u45,u46,u47,u48,u49,u50,u51,u52],defers:=[] } W') :
   (Code.region 1 ops true).wp Tryz.prog Q { tmps:=#[.pointer (some ⟨st,0,none⟩),u1,u2,u3,u4,u5,u6,u7,u8,u9,u10,u11,u12,u13,u14,u15,u16,u17,u18,u19,u20,u21,u22,u23,u24,u25,u26,u27,u28,u29,u30,u31,u32,u33,u34,u35,u36,u37,u38,u39,u40,u41,u42,u43,u44,u45,u46,u47,u48,u49,u50,u51,u52],defers:=[] } W:=by
 cases hops.symm.trans (show regAtS 1 (Tryz.f27.body.getD .skip)=some _ from rfl)
 have HEN:Hid (∀ W',Only [] W W' →
     (Calls Tryz.prog 16 #[.pointer (some ⟨sv,0,none⟩)] W' fun e w'=>e = .returned (.pointer (some ⟨tr,0,none⟩))∧Only [] W' w') ∧
     (Calls Tryz.prog 50 #[.pointer (some ⟨tr,0,none⟩)] W' fun e w'=>e = .returned (.string tx)∧Only [] W' w') ∧
     (Calls Tryz.prog 52 #[.pointer (some ⟨sv,0,none⟩)] W' fun e w'=>e = .returned cl∧Only [] W' w') ∧
     Calls Tryz.prog 51 #[kn,cl] W' fun e w'=>e = .returned (.string ux)∧Only [] W' w'):=hen
 have hkl:st < W.heap.size:=lt_of_cell hk0;clear hen hops;refine wp_region_held_drew (S:=fun W'=>Only [] W W') (by kernel_rfl) ((Only.refl [] _).drew) (fun hS=>?_);generalize World.drew W=W9 at hS ⊢;refine wpAnyH_take (i:=0) (v:=?_) rfl (by kernel_rfl) (by kernel_rfl) (by kernel_rfl) (fun _ _ _ h=>hP _ _ _ _ _ h) (Or.inl ⟨by rfl,fun W' hW=>?_⟩) hS ?_
 rotate_left
 · skip
   go_simp
   try with_reducible rfl
 try simp only [Act.put,List.getElem_toArray,List.getElem_cons_zero,List.setIfInBounds_toArray,List.set_cons_zero,List.set_cons_succ]
 refine wpAnyH_take (i:=1) (v:=?_) rfl (by kernel_rfl) (by kernel_rfl) (by kernel_rfl) (fun _ _ _ h=>hP _ _ _ _ _ h) (Or.inl ⟨by rfl,fun W' hW=>?_⟩) hS ?_
 rotate_left
 · skip
   go_simp
   try with_reducible rfl
 try simp only [Act.put,List.getElem_toArray,List.getElem_cons_zero,List.getElem_cons_succ,List.setIfInBounds_toArray,List.set_cons_zero,List.set_cons_succ]
 refine wpAnyH_take (i:=2) (v:=?_) rfl (by kernel_rfl) (by kernel_rfl) (by kernel_rfl) (fun _ _ _ h=>hP _ _ _ _ _ h) (Or.inl ⟨by rfl,fun W' hW=>?_⟩) hS ?_
 rotate_left
 · skip
   go_simp
   try with_reducible rfl
 try simp only [Act.put,List.getElem_toArray,List.getElem_cons_zero,List.getElem_cons_succ,List.setIfInBounds_toArray,List.set_cons_zero,List.set_cons_succ]
 refine wpAnyH_take (i:=3) (v:=?_) rfl (by kernel_rfl) (by kernel_rfl) (by kernel_rfl) (fun _ _ _ h=>hP _ _ _ _ _ h) (Or.inl ⟨by rfl,fun W' hW=>?_⟩) hS ?_
 rotate_left
 · skip
   go_simp
   try with_reducible rfl
 try simp only [Act.put,List.getElem_toArray,List.getElem_cons_zero,List.getElem_cons_succ,List.setIfInBounds_toArray,List.set_cons_zero,List.set_cons_succ]
 refine wpAnyH_take (i:=4) (v:=?_) rfl (by kernel_rfl) (by kernel_rfl) (by kernel_rfl) (fun _ _ _ h=>hP _ _ _ _ _ h) (Or.inl ⟨by rfl,fun W' hW=>?_⟩) hS ?_
 rotate_left
 · skip
   have x1:=(hW.cell (p:=⟨st,0,none⟩) hkl (by simp)).trans hk0
   go_simp
   try with_reducible rfl
 try simp only [Act.put,List.getElem_toArray,List.getElem_cons_zero,List.getElem_cons_succ,List.setIfInBounds_toArray,List.set_cons_zero,List.set_cons_succ]
 refine wpAnyH_take (i:=7) (v:=?_) rfl (by kernel_rfl) (by kernel_rfl) (by kernel_rfl) (fun _ _ _ h=>hP _ _ _ _ _ h) (Or.inl ⟨by rfl,fun W' hW=>?_⟩) hS ?_
 rotate_left
 · skip
   go_simp
   try with_reducible rfl
 try simp only [Act.put,List.getElem_toArray,List.getElem_cons_zero,List.getElem_cons_succ,List.setIfInBounds_toArray,List.set_cons_zero,List.set_cons_succ]
 refine wpAnyH_take (i:=8) (v:=?_) rfl (by kernel_rfl) (by kernel_rfl) (by kernel_rfl) (fun _ _ _ h=>hP _ _ _ _ _ h) (Or.inl ⟨by rfl,fun W' hW=>?_⟩) hS ?_
 rotate_left
 · skip
   go_simp
   try with_reducible rfl
 try simp only [Act.put,List.getElem_toArray,List.getElem_cons_zero,List.getElem_cons_succ,List.setIfInBounds_toArray,List.set_cons_zero,List.set_cons_succ]
 refine wpAnyH_take (i:=9) (v:=?_) rfl (by kernel_rfl) (by kernel_rfl) (by kernel_rfl) (fun _ _ _ h=>hP _ _ _ _ _ h) (Or.inl ⟨by rfl,fun W' hW=>?_⟩) hS ?_
 rotate_left
 · skip
   go_simp
   try with_reducible rfl
 try simp only [Act.put,List.getElem_toArray,List.getElem_cons_zero,List.getElem_cons_succ,List.setIfInBounds_toArray,List.set_cons_zero,List.set_cons_succ]
 refine wpAnyH_take (i:=10) (v:=?_) rfl (by kernel_rfl) (by kernel_rfl) (by kernel_rfl) (fun _ _ _ h=>hP _ _ _ _ _ h) (Or.inl ⟨by rfl,fun W' hW=>?_⟩) hS ?_
 rotate_left
 · skip
   go_simp
   try with_reducible rfl
 try simp only [Act.put,List.getElem_toArray,List.getElem_cons_zero,List.getElem_cons_succ,List.setIfInBounds_toArray,List.set_cons_zero,List.set_cons_succ]
 refine wpAnyH_take (i:=11) (v:=?_) rfl (by kernel_rfl) (by kernel_rfl) (by kernel_rfl) (fun _ _ _ h=>hP _ _ _ _ _ h) (Or.inl ⟨by rfl,fun W' hW=>?_⟩) hS ?_
 rotate_left
 · skip
   have x1:=(hW.cell (p:=⟨st,2,none⟩) hkl (by simp)).trans hk2
   go_simp
   try with_reducible rfl
 try simp only [Act.put,List.getElem_toArray,List.getElem_cons_zero,List.getElem_cons_succ,List.setIfInBounds_toArray,List.set_cons_zero,List.set_cons_succ]
 refine wpAnyH_take (i:=12) (v:=?_) rfl (by kernel_rfl) (by kernel_rfl) (by kernel_rfl) (fun _ _ _ h=>hP _ _ _ _ _ h) (Or.inl ⟨by rfl,fun W' hW=>?_⟩) hS ?_
 rotate_left
 · skip
   go_simp
   try with_reducible rfl
 try simp only [Act.put,List.getElem_toArray,List.getElem_cons_zero,List.getElem_cons_succ,List.setIfInBounds_toArray,List.set_cons_zero,List.set_cons_succ]
 refine wpAnyH_take (i:=13) (v:=?_) rfl (by kernel_rfl) (by kernel_rfl) (by kernel_rfl) (fun _ _ _ h=>hP _ _ _ _ _ h) (Or.inl ⟨by rfl,fun W' hW=>?_⟩) hS ?_
 rotate_left
 · skip
   go_simp
   try with_reducible rfl
 try simp only [Act.put,List.getElem_toArray,List.getElem_cons_zero,List.getElem_cons_succ,List.setIfInBounds_toArray,List.set_cons_zero,List.set_cons_succ]
 refine wpAnyH_take (i:=14) (v:=?_) rfl (by kernel_rfl) (by kernel_rfl) (by kernel_rfl) (fun _ _ _ h=>hP _ _ _ _ _ h) (Or.inl ⟨by rfl,fun W' hW=>?_⟩) hS ?_
 rotate_left
 · skip
   go_simp
   try with_reducible rfl
 try simp only [Act.put,List.getElem_toArray,List.getElem_cons_zero,List.getElem_cons_succ,List.setIfInBounds_toArray,List.set_cons_zero,List.set_cons_succ]
 refine wpAnyH_take (i:=15) (v:=?_) rfl (by kernel_rfl) (by kernel_rfl) (by kernel_rfl) (fun _ _ _ h=>hP _ _ _ _ _ h) (Or.inl ⟨by rfl,fun W' hW=>?_⟩) hS ?_
 rotate_left
 · skip
   go_simp
   try with_reducible rfl
 try simp only [Act.put,List.getElem_toArray,List.getElem_cons_zero,List.getElem_cons_succ,List.setIfInBounds_toArray,List.set_cons_zero,List.set_cons_succ]
 refine wpAnyH_take (i:=16) (v:=?_) rfl (by kernel_rfl) (by kernel_rfl) (by kernel_rfl) (fun _ _ _ h=>hP _ _ _ _ _ h) (Or.inl ⟨by rfl,fun W' hW=>?_⟩) hS ?_
 rotate_left
 · skip
   have x1:=(hW.cell (p:=⟨st,0,none⟩) hkl (by simp)).trans hk0
   go_simp
   try with_reducible rfl
 try simp only [Act.put,List.getElem_toArray,List.getElem_cons_zero,List.getElem_cons_succ,List.setIfInBounds_toArray,List.set_cons_zero,List.set_cons_succ]
 refine wpAnyH_ready (rs:=[5,20]) (by kernel_rfl) (by simp) (AllReadyH.cons rfl (fun K hK=>?_) (AllReadyH.cons rfl (fun K hK=>?_) AllReadyH.nil))
 · rw [if_pos (by rfl)]
   go_simp
   refine (HEN.out _ hS).1.mono ?_;rintro e v1 ⟨rfl,ho⟩;refine hK.out _ _ (hS.trans ho (fun _ h=>by cases h)) (fun hS=>?_);clear hK K;clear ho
   try simp only [Act.put,List.getElem_toArray,List.getElem_cons_zero,List.getElem_cons_succ,List.setIfInBounds_toArray,List.set_cons_zero,List.set_cons_succ]
   refine wpAnyH_ready (rs:=[6,20]) (by kernel_rfl) (by simp) (AllReadyH.cons rfl (fun K hK=>?_) (AllReadyH.cons rfl (fun K hK=>?_) AllReadyH.nil))
   · rw [if_pos (by rfl)]
     go_simp
     refine (HEN.out _ hS).2.1.mono ?_;rintro e v2 ⟨rfl,ho⟩;refine hK.out _ _ (hS.trans ho (fun _ h=>by cases h)) (fun hS=>?_);clear hK K;clear ho
     try simp only [Act.put,List.getElem_toArray,List.getElem_cons_zero,List.getElem_cons_succ,List.setIfInBounds_toArray,List.set_cons_zero,List.set_cons_succ]
     refine wpAnyH_ready (rs:=[17,20]) (by kernel_rfl) (by simp) (AllReadyH.cons rfl (fun K hK=>?_) (AllReadyH.cons rfl (fun K hK=>?_) AllReadyH.nil))
     · rw [if_pos (by rfl)]
       go_simp
       refine (HEN.out _ hS).2.2.1.mono ?_;rintro e v3 ⟨rfl,ho⟩;refine hK.out _ _ (hS.trans ho (fun _ h=>by cases h)) (fun hS=>?_);clear hK K;clear ho
       try simp only [Act.put,List.getElem_toArray,List.getElem_cons_zero,List.getElem_cons_succ,List.setIfInBounds_toArray,List.set_cons_zero,List.set_cons_succ]
       refine wpAnyH_ready (rs:=[18,20]) (by kernel_rfl) (by simp) (AllReadyH.cons rfl (fun K hK=>?_) (AllReadyH.cons rfl (fun K hK=>?_) AllReadyH.nil))
       · rw [if_pos (by rfl)]
         go_simp
         refine (HEN.out _ hS).2.2.2.mono ?_;rintro e v4 ⟨rfl,ho⟩;refine hK.out _ _ (hS.trans ho (fun _ h=>by cases h)) (fun hS=>?_);clear hK K;clear ho
         try simp only [Act.put,List.getElem_toArray,List.getElem_cons_zero,List.getElem_cons_succ,List.setIfInBounds_toArray,List.set_cons_zero,List.set_cons_succ]
         refine wpAnyH_take (i:=19) (v:=?_) rfl (by kernel_rfl) (by kernel_rfl) (by kernel_rfl) (fun _ _ _ h=>hP _ _ _ _ _ h) (Or.inl ⟨by rfl,fun W' hW=>?_⟩) hS ?_
         rotate_left
         · skip
           go_simp
           try with_reducible rfl
         try simp only [Act.put,List.getElem_toArray,List.getElem_cons_zero,List.getElem_cons_succ,List.setIfInBounds_toArray,List.set_cons_zero,List.set_cons_succ]
         refine wpAnyH_ready (rs:=[20]) (by kernel_rfl) (by simp) (AllReadyH.cons rfl (fun K hK=>?_) AllReadyH.nil);rw [if_pos (by rfl)]
         go_simp
         have hbk:=heap_alloc_last v4 imgO;have hge:=hS.size;refine hK.out _ _ (hS.alloc _) (fun hS=>?_);clear hK K;generalize v4.heap.size=bb at hbk hge ⊢;generalize World.alloc v4 imgO=wa5 at hbk hS ⊢
         try simp only [Act.put,List.getElem_toArray,List.getElem_cons_zero,List.getElem_cons_succ,List.setIfInBounds_toArray,List.set_cons_zero,List.set_cons_succ]
         obtain ⟨z0,z1,zl,zf⟩:=img_cells hbk;refine wpAnyH_ready (rs:=[21]) (by kernel_rfl) (by simp) (AllReadyH.cons rfl (fun K hK=>?_) AllReadyH.nil);rw [if_pos (by rfl)]
         go_simp
         have hbk2:=set2S hbk (.string tx) (.string ux);refine hK.out _ _ (hS.setCell2 hge _ _) (fun hS=>?_);clear hK K
         try simp only [Act.put,List.getElem_toArray,List.getElem_cons_zero,List.getElem_cons_succ,List.setIfInBounds_toArray,List.set_cons_zero,List.set_cons_succ]
         refine wpAnyH_done (by kernel_rfl) ?_ _;exact hQ bb _ hbk2 hS hge
       · rw [if_pos (by rfl)]
         go_simp
         have hbk:=heap_alloc_last v3 imgO;have hge:=hS.size;refine hK.out _ _ (hS.alloc _) (fun hS=>?_);clear hK K;generalize v3.heap.size=bb at hbk hge ⊢;generalize World.alloc v3 imgO=wa6 at hbk hS ⊢
         try simp only [Act.put,List.getElem_toArray,List.getElem_cons_zero,List.getElem_cons_succ,List.setIfInBounds_toArray,List.set_cons_zero,List.set_cons_succ]
         refine wpAnyH_ready (rs:=[18]) (by kernel_rfl) (by simp) (AllReadyH.cons rfl (fun K hK=>?_) AllReadyH.nil);rw [if_pos (by rfl)]
         go_simp
         refine (HEN.out _ hS).2.2.2.mono ?_;rintro e v7 ⟨rfl,ho⟩;refine hK.out _ _ (hS.trans ho (fun _ h=>by cases h)) (fun hS=>?_);clear hK K;replace hbk:=(ho.block _ (Array.getElem?_eq_some_iff.1 hbk).1 (by simp)).trans hbk;clear ho
         try simp only [Act.put,List.getElem_toArray,List.getElem_cons_zero,List.getElem_cons_succ,List.setIfInBounds_toArray,List.set_cons_zero,List.set_cons_succ]
         refine wpAnyH_take (i:=19) (v:=?_) rfl (by kernel_rfl) (by kernel_rfl) (by kernel_rfl) (fun _ _ _ h=>hP _ _ _ _ _ h) (Or.inl ⟨by rfl,fun W' hW=>?_⟩) hS ?_
         rotate_left
         · skip
           go_simp
           try with_reducible rfl
         try simp only [Act.put,List.getElem_toArray,List.getElem_cons_zero,List.getElem_cons_succ,List.setIfInBounds_toArray,List.set_cons_zero,List.set_cons_succ]
         obtain ⟨z0,z1,zl,zf⟩:=img_cells hbk;refine wpAnyH_ready (rs:=[21]) (by kernel_rfl) (by simp) (AllReadyH.cons rfl (fun K hK=>?_) AllReadyH.nil);rw [if_pos (by rfl)]
         go_simp
         have hbk2:=set2S hbk (.string tx) (.string ux);refine hK.out _ _ (hS.setCell2 hge _ _) (fun hS=>?_);clear hK K
         try simp only [Act.put,List.getElem_toArray,List.getElem_cons_zero,List.getElem_cons_succ,List.setIfInBounds_toArray,List.set_cons_zero,List.set_cons_succ]
         refine wpAnyH_done (by kernel_rfl) ?_ _;exact hQ bb _ hbk2 hS hge
     · rw [if_pos (by rfl)]
       go_simp
       have hbk:=heap_alloc_last v2 imgO;have hge:=hS.size;refine hK.out _ _ (hS.alloc _) (fun hS=>?_);clear hK K;generalize v2.heap.size=bb at hbk hge ⊢;generalize World.alloc v2 imgO=wa8 at hbk hS ⊢
       try simp only [Act.put,List.getElem_toArray,List.getElem_cons_zero,List.getElem_cons_succ,List.setIfInBounds_toArray,List.set_cons_zero,List.set_cons_succ]
       refine wpAnyH_ready (rs:=[17]) (by kernel_rfl) (by simp) (AllReadyH.cons rfl (fun K hK=>?_) AllReadyH.nil);rw [if_pos (by rfl)]
       go_simp
       refine (HEN.out _ hS).2.2.1.mono ?_;rintro e v9 ⟨rfl,ho⟩;refine hK.out _ _ (hS.trans ho (fun _ h=>by cases h)) (fun hS=>?_);clear hK K;replace hbk:=(ho.block _ (Array.getElem?_eq_some_iff.1 hbk).1 (by simp)).trans hbk;clear ho
       try simp only [Act.put,List.getElem_toArray,List.getElem_cons_zero,List.getElem_cons_succ,List.setIfInBounds_toArray,List.set_cons_zero,List.set_cons_succ]
       refine wpAnyH_ready (rs:=[18]) (by kernel_rfl) (by simp) (AllReadyH.cons rfl (fun K hK=>?_) AllReadyH.nil);rw [if_pos (by rfl)]
       go_simp
       refine (HEN.out _ hS).2.2.2.mono ?_;rintro e v10 ⟨rfl,ho⟩;refine hK.out _ _ (hS.trans ho (fun _ h=>by cases h)) (fun hS=>?_);clear hK K;replace hbk:=(ho.block _ (Array.getElem?_eq_some_iff.1 hbk).1 (by simp)).trans hbk;clear ho
       try simp only [Act.put,List.getElem_toArray,List.getElem_cons_zero,List.getElem_cons_succ,List.setIfInBounds_toArray,List.set_cons_zero,List.set_cons_succ]
       refine wpAnyH_take (i:=19) (v:=?_) rfl (by kernel_rfl) (by kernel_rfl) (by kernel_rfl) (fun _ _ _ h=>hP _ _ _ _ _ h) (Or.inl ⟨by rfl,fun W' hW=>?_⟩) hS ?_
       rotate_left
       · skip
         go_simp
         try with_reducible rfl
       try simp only [Act.put,List.getElem_toArray,List.getElem_cons_zero,List.getElem_cons_succ,List.setIfInBounds_toArray,List.set_cons_zero,List.set_cons_succ]
       obtain ⟨z0,z1,zl,zf⟩:=img_cells hbk;refine wpAnyH_ready (rs:=[21]) (by kernel_rfl) (by simp) (AllReadyH.cons rfl (fun K hK=>?_) AllReadyH.nil);rw [if_pos (by rfl)]
       go_simp
       have hbk2:=set2S hbk (.string tx) (.string ux);refine hK.out _ _ (hS.setCell2 hge _ _) (fun hS=>?_);clear hK K
       try simp only [Act.put,List.getElem_toArray,List.getElem_cons_zero,List.getElem_cons_succ,List.setIfInBounds_toArray,List.set_cons_zero,List.set_cons_succ]
       refine wpAnyH_done (by kernel_rfl) ?_ _;exact hQ bb _ hbk2 hS hge
   · rw [if_pos (by rfl)]
     go_simp
     have hbk:=heap_alloc_last v1 imgO;have hge:=hS.size;refine hK.out _ _ (hS.alloc _) (fun hS=>?_);clear hK K;generalize v1.heap.size=bb at hbk hge ⊢;generalize World.alloc v1 imgO=wa11 at hbk hS ⊢
     try simp only [Act.put,List.getElem_toArray,List.getElem_cons_zero,List.getElem_cons_succ,List.setIfInBounds_toArray,List.set_cons_zero,List.set_cons_succ]
     refine wpAnyH_ready (rs:=[6]) (by kernel_rfl) (by simp) (AllReadyH.cons rfl (fun K hK=>?_) AllReadyH.nil);rw [if_pos (by rfl)]
     go_simp
     refine (HEN.out _ hS).2.1.mono ?_;rintro e v12 ⟨rfl,ho⟩;refine hK.out _ _ (hS.trans ho (fun _ h=>by cases h)) (fun hS=>?_);clear hK K;replace hbk:=(ho.block _ (Array.getElem?_eq_some_iff.1 hbk).1 (by simp)).trans hbk;clear ho
     try simp only [Act.put,List.getElem_toArray,List.getElem_cons_zero,List.getElem_cons_succ,List.setIfInBounds_toArray,List.set_cons_zero,List.set_cons_succ]
     refine wpAnyH_ready (rs:=[17]) (by kernel_rfl) (by simp) (AllReadyH.cons rfl (fun K hK=>?_) AllReadyH.nil);rw [if_pos (by rfl)]
     go_simp
     refine (HEN.out _ hS).2.2.1.mono ?_;rintro e v13 ⟨rfl,ho⟩;refine hK.out _ _ (hS.trans ho (fun _ h=>by cases h)) (fun hS=>?_);clear hK K;replace hbk:=(ho.block _ (Array.getElem?_eq_some_iff.1 hbk).1 (by simp)).trans hbk;clear ho
     try simp only [Act.put,List.getElem_toArray,List.getElem_cons_zero,List.getElem_cons_succ,List.setIfInBounds_toArray,List.set_cons_zero,List.set_cons_succ]
     refine wpAnyH_ready (rs:=[18]) (by kernel_rfl) (by simp) (AllReadyH.cons rfl (fun K hK=>?_) AllReadyH.nil);rw [if_pos (by rfl)]
     go_simp
     refine (HEN.out _ hS).2.2.2.mono ?_;rintro e v14 ⟨rfl,ho⟩;refine hK.out _ _ (hS.trans ho (fun _ h=>by cases h)) (fun hS=>?_);clear hK K;replace hbk:=(ho.block _ (Array.getElem?_eq_some_iff.1 hbk).1 (by simp)).trans hbk;clear ho
     try simp only [Act.put,List.getElem_toArray,List.getElem_cons_zero,List.getElem_cons_succ,List.setIfInBounds_toArray,List.set_cons_zero,List.set_cons_succ]
     refine wpAnyH_take (i:=19) (v:=?_) rfl (by kernel_rfl) (by kernel_rfl) (by kernel_rfl) (fun _ _ _ h=>hP _ _ _ _ _ h) (Or.inl ⟨by rfl,fun W' hW=>?_⟩) hS ?_
     rotate_left
     · skip
       go_simp
       try with_reducible rfl
     try simp only [Act.put,List.getElem_toArray,List.getElem_cons_zero,List.getElem_cons_succ,List.setIfInBounds_toArray,List.set_cons_zero,List.set_cons_succ]
     obtain ⟨z0,z1,zl,zf⟩:=img_cells hbk;refine wpAnyH_ready (rs:=[21]) (by kernel_rfl) (by simp) (AllReadyH.cons rfl (fun K hK=>?_) AllReadyH.nil);rw [if_pos (by rfl)]
     go_simp
     have hbk2:=set2S hbk (.string tx) (.string ux);refine hK.out _ _ (hS.setCell2 hge _ _) (fun hS=>?_);clear hK K
     try simp only [Act.put,List.getElem_toArray,List.getElem_cons_zero,List.getElem_cons_succ,List.setIfInBounds_toArray,List.set_cons_zero,List.set_cons_succ]
     refine wpAnyH_done (by kernel_rfl) ?_ _;exact hQ bb _ hbk2 hS hge
 · rw [if_pos (by rfl)]
   go_simp
   have hbk:=heap_alloc_last W9 imgO;have hge:=hS.size;refine hK.out _ _ (hS.alloc _) (fun hS=>?_);clear hK K;generalize W9.heap.size=bb at hbk hge ⊢;generalize World.alloc W9 imgO=wa15 at hbk hS ⊢
   try simp only [Act.put,List.getElem_toArray,List.getElem_cons_zero,List.getElem_cons_succ,List.setIfInBounds_toArray,List.set_cons_zero,List.set_cons_succ]
   refine wpAnyH_ready (rs:=[5]) (by kernel_rfl) (by simp) (AllReadyH.cons rfl (fun K hK=>?_) AllReadyH.nil);rw [if_pos (by rfl)]
   go_simp
   refine (HEN.out _ hS).1.mono ?_;rintro e v16 ⟨rfl,ho⟩;refine hK.out _ _ (hS.trans ho (fun _ h=>by cases h)) (fun hS=>?_);clear hK K;replace hbk:=(ho.block _ (Array.getElem?_eq_some_iff.1 hbk).1 (by simp)).trans hbk;clear ho
   try simp only [Act.put,List.getElem_toArray,List.getElem_cons_zero,List.getElem_cons_succ,List.setIfInBounds_toArray,List.set_cons_zero,List.set_cons_succ]
   refine wpAnyH_ready (rs:=[6]) (by kernel_rfl) (by simp) (AllReadyH.cons rfl (fun K hK=>?_) AllReadyH.nil);rw [if_pos (by rfl)]
   go_simp
   refine (HEN.out _ hS).2.1.mono ?_;rintro e v17 ⟨rfl,ho⟩;refine hK.out _ _ (hS.trans ho (fun _ h=>by cases h)) (fun hS=>?_);clear hK K;replace hbk:=(ho.block _ (Array.getElem?_eq_some_iff.1 hbk).1 (by simp)).trans hbk;clear ho
   try simp only [Act.put,List.getElem_toArray,List.getElem_cons_zero,List.getElem_cons_succ,List.setIfInBounds_toArray,List.set_cons_zero,List.set_cons_succ]
   refine wpAnyH_ready (rs:=[17]) (by kernel_rfl) (by simp) (AllReadyH.cons rfl (fun K hK=>?_) AllReadyH.nil);rw [if_pos (by rfl)]
   go_simp
   refine (HEN.out _ hS).2.2.1.mono ?_;rintro e v18 ⟨rfl,ho⟩;refine hK.out _ _ (hS.trans ho (fun _ h=>by cases h)) (fun hS=>?_);clear hK K;replace hbk:=(ho.block _ (Array.getElem?_eq_some_iff.1 hbk).1 (by simp)).trans hbk;clear ho
   try simp only [Act.put,List.getElem_toArray,List.getElem_cons_zero,List.getElem_cons_succ,List.setIfInBounds_toArray,List.set_cons_zero,List.set_cons_succ]
   refine wpAnyH_ready (rs:=[18]) (by kernel_rfl) (by simp) (AllReadyH.cons rfl (fun K hK=>?_) AllReadyH.nil);rw [if_pos (by rfl)]
   go_simp
   refine (HEN.out _ hS).2.2.2.mono ?_;rintro e v19 ⟨rfl,ho⟩;refine hK.out _ _ (hS.trans ho (fun _ h=>by cases h)) (fun hS=>?_);clear hK K;replace hbk:=(ho.block _ (Array.getElem?_eq_some_iff.1 hbk).1 (by simp)).trans hbk;clear ho
   try simp only [Act.put,List.getElem_toArray,List.getElem_cons_zero,List.getElem_cons_succ,List.setIfInBounds_toArray,List.set_cons_zero,List.set_cons_succ]
   refine wpAnyH_take (i:=19) (v:=?_) rfl (by kernel_rfl) (by kernel_rfl) (by kernel_rfl) (fun _ _ _ h=>hP _ _ _ _ _ h) (Or.inl ⟨by rfl,fun W' hW=>?_⟩) hS ?_
   rotate_left
   · skip
     go_simp
     try with_reducible rfl
   try simp only [Act.put,List.getElem_toArray,List.getElem_cons_zero,List.getElem_cons_succ,List.setIfInBounds_toArray,List.set_cons_zero,List.set_cons_succ]
   obtain ⟨z0,z1,zl,zf⟩:=img_cells hbk;refine wpAnyH_ready (rs:=[21]) (by kernel_rfl) (by simp) (AllReadyH.cons rfl (fun K hK=>?_) AllReadyH.nil);rw [if_pos (by rfl)]
   go_simp
   have hbk2:=set2S hbk (.string tx) (.string ux);refine hK.out _ _ (hS.setCell2 hge _ _) (fun hS=>?_);clear hK K
   try simp only [Act.put,List.getElem_toArray,List.getElem_cons_zero,List.getElem_cons_succ,List.setIfInBounds_toArray,List.set_cons_zero,List.set_cons_succ]
   refine wpAnyH_done (by kernel_rfl) ?_ _;exact hQ bb _ hbk2 hS hge
end
end Go.Proofs.YtmnidbnaneagjaaGreatDoor
