/- Turns: End, Drop, Count. -/
import Derived.Test.YtpecfccadhfdhaaDoorTu3
namespace Go.Proofs.YtpecfccadhfdhaaDoor
open Go Go.RowKit Go.Deep Go.Maps

section
variable {w w' : World} {t b : Nat} {m : Option Nat} {L : List Trn}
/-- 't.last[owner] = request{seq, reply}'. -/
theorem TuAt.put (h : TuAt w t (some b) L) {o q : Int} (r : ByteArray) (ho : I64 o) (hb : (begT L o q).1 = 0) : ∃ w', (Instr.mapUpdate 25 (.map (some b)) (.int .i64 o) (.agg #[.int .i64 q, .string r])).run Tryd.prog w = .ok () w' ∧ TuAt w' t (some b) (putT L ⟨o, q.toNat, r⟩) ∧ Only [b] w w' := by
  obtain ⟨D, h1, h2, h3⟩ := h.own b rfl
  have hq := begT_ok hb
  have hl := h.inv.len
  have eq : (q.toNat : Int) = q := by omega
  obtain ⟨w', hr, hown, ht⟩ := h1.store lawInt undTrns (by unfold maxLen; omega) (keyInt ho) (trnElem_mk ⟨o, q.toNat, r⟩)
  have ho' := only_turned ht
  refine ⟨w', by rw [← eq]; exact hr, ⟨(ho'.block t h.lt (by simpa using (h.ne rfl).symm)).trans h.tab, fun e => (by cases e), fun c hc => ?_, h.inv.put r hb⟩, ho'⟩
  obtain rfl : b = c := by simpa using hc
  have hsz : Maps.size (D.put (ikey o) (trnV ⟨o, q.toNat, r⟩)) = (putT L ⟨o, q.toNat, r⟩).length := by
    rw [size_put (h1.tidy lawInt), h3.isSome, len_putT, h2]
  refine ⟨_, ?_, hsz, h3.put h1.isMap ikey_key (fun j e => ikey_inj e) (findT_put_same L ⟨o, q.toNat, r⟩) (fun j hj => findT_put_other L ⟨o, q.toNat, r⟩ hj)⟩
  rw [← hsz]
  exact own_sized hown
/-- 'delete(t.last, owner)'. -/
theorem TuAt.del (h : TuAt w t (some b) L) {o : Int} (ho : I64 o) {x : Trn} (hf : findT L o = some x) (ty : TypeId) : ∃ w', (Builtin.delete_ #[25, 3] ty #[.map (some b), .int .i64 o]).run Tryd.prog w = .ok (.tuple #[]) w' ∧ TuAt w' t (some b) (dropT L o) ∧ Only [b] w w' := by
  obtain ⟨D, h1, h2, h3⟩ := h.own b rfl
  obtain ⟨w', hr, hown, ht⟩ := h1.drop lawInt undTrns (keyInt ho) ty
  have ho' := only_turned ht
  refine ⟨w', hr, ⟨(ho'.block t h.lt (by simpa using (h.ne rfl).symm)).trans h.tab, fun e => (by cases e), fun c hc => ?_, h.inv.drop o⟩, ho'⟩
  obtain rfl : b = c := by simpa using hc
  have hsz : Maps.size (D.del (ikey o)) = (dropT L o).length := by
    have e1 := size_del (k := ikey o) (h1.tidy lawInt)
    have e2 := len_dropT h.inv.nod hf
    rw [h3.isSome, hf, h2] at e1
    simp at e1
    omega
  refine ⟨_, ?_, hsz, h3.del (fun j e => ikey_inj e) (findT_drop_same L o) (fun j hj => findT_drop_other L hj)⟩
  rw [← hsz]
  exact own_sized hown
/-- A map where there was none. -/
theorem TuAt.made (h : TuAt w t none L) : TuAt ((w.alloc (.map #[] 0)).setCell ⟨t, 0, none⟩ (.map (some w.heap.size))) t (some w.heap.size) L ∧ Only [t] w ((w.alloc (.map #[] 0)).setCell ⟨t, 0, none⟩ (.map (some w.heap.size))) := by
  have hL := h.nomap rfl
  subst hL
  have o1 : Only [] w (w.alloc (.map #[] 0)) := (Only.refl _ _).alloc _
  have hm : (w.alloc (.map #[] 0)).ownsMap Tryd.prog 3 trnElem w.heap.size 0 (.map []) := World.ownsMap_made w Tryd.prog 3 trnElem
  have hlt := h.lt
  refine ⟨⟨heap_setCell_same _ t 0 _ _ _ (h.only o1).tab, fun e => (by cases e), fun c hc => ?_, h.inv⟩, (o1.mono (fun _ hk => by cases hk)).setCell (Or.inl (by simp)) _⟩
  obtain rfl : w.heap.size = c := by simpa using hc
  exact ⟨_, hm.setCell (by show w.heap.size ≠ t; omega) _, rfl, Reads.empty⟩
end
/-- What End leaves. -/
def EndR (A : Nat → Addr) (w w' : World) (t : Nat) (m : Option Nat) (L : List Trn) (o q : Int) (r : ByteArray) (e : Ending) : Prop :=
  e = .returned (errN A (endT L o q r).1) ∧ ∃ m', TuAt w' t m' (endT L o q r).2 ∧ Only (t :: m.toList) w w' ∧ ∀ b, m' = some b → m = some b ∨ w.heap.size ≤ b
theorem endT_err {L : List Trn} {o q : Int} (r : ByteArray) (h : (begT L o q).1 ≠ 0) : endT L o q r = ((begT L o q).1, L) := by
  unfold endT
  split
  · rename_i e; rw [e] at h; exact (h rfl).elim
  · rename_i e; rw [e] at h; exact (h rfl).elim
  · rename_i e; rw [e]
theorem endT_again {L : List Trn} {o q : Int} (r : ByteArray) (h : (begT L o q).1 = 0) (h2 : (begT L o q).2.1 = true) : endT L o q r = (12, L) := by
  unfold endT
  split
  · rename_i e; rw [e] at h2; cases h2
  · rfl
  · rename_i c a s h3 h4 e
    rw [e] at h h2
    simp at h h2
    exact (h4 h h2).elim
theorem endT_ok {L : List Trn} {o q : Int} (r : ByteArray) (h : (begT L o q).1 = 0) (h2 : (begT L o q).2.1 = false) : endT L o q r = (0, putT L ⟨o, q.toNat, r⟩) := by
  unfold endT
  split
  · rfl
  · rename_i e; rw [e] at h2; cases h2
  · rename_i c a s h3 h4 e
    rw [e] at h h2
    simp at h h2
    exact (h3 h h2).elim
set_option maxRecDepth 100000 in
set_option maxHeartbeats 2000000 in
theorem tend_any (A : Nat → Addr) (w : World) (t : Nat) (m : Option Nat) (L : List Trn) (o q : Int) (r : ByteArray) (hE : Err4 w A) (h : TuAt w t m L) (ho : I64 o) :
    Calls Tryd.prog 9 #[.pointer (some ⟨t, 0, none⟩), .int .i64 o, .int .i64 q, .string r] w fun e w' => EndR A w w' t m L o q r e := by
  have hb := beg_any A w t m L o q hE h ho
  have H : Hid (TuAt w t m L) := h
  have c11 : w.cell? ⟨2, 0, none⟩ = some (.iface 93 (.pointer (some (A 11)))) := hE 11 (by simp)
  have HC : Hid (∀ W, Only [] w W → W.cell? ⟨2, 0, none⟩ = some (.iface 93 (.pointer (some (A 11))))) := fun W ho => (ho.cell (lt_of_cell c11) (by simp)).trans c11
  have HI : Hid (I64 o) := ho
  clear hE h c11 ho
  obtain ⟨s, hs⟩ : ∃ s, (begT L o q).2.2 = s := ⟨_, rfl⟩
  unfold begV at hb
  rw [hs] at hb
  by_cases h0 : (begT L o q).1 = 0
  · rw [h0] at hb
    have en : errN A 0 = .nilIface := rfl
    rw [en] at hb
    cases ha : (begT L o q).2.1 with
    | true =>
      rw [ha] at hb
      have HR : Hid (endT L o q r = (12, L)) := endT_again r h0 ha
      clear h0 ha hs
      go_enter Tryd.func9, Tryd.ntmps9
      go_wp2_with (go_at_call 6; refine hb.mono ?_; rintro e w2 ⟨rfl, ho2⟩; have HO : Hid (Only [] w w2) := ho2; have c2 := HC.out w2 ho2; clear hb ho2)
      go_ret
      unfold EndR
      rw [HR.out]
      exact ⟨rfl, m, H.out.only HO.out, HO.out.mono (fun _ hk => by cases hk), fun b hb => Or.inl hb⟩
    | false =>
      rw [ha] at hb
      have HR : Hid (endT L o q r = (0, putT L ⟨o, q.toNat, r⟩)) := endT_ok r h0 ha
      have HB0 : Hid ((begT L o q).1 = 0) := h0
      clear h0 ha hs
      cases m with
      | none =>
        have qn : ∀ (w : World), (binOp .eql 25 (.map none) (.map none)).run Tryd.prog w = .ok (.bool true) w := fun w => run_eql_map_nil w _ _ _ none Tryd.underlying25
        go_enter Tryd.func9, Tryd.ntmps9
        go_wp2_with (go_at_call 6; refine hb.mono ?_; rintro e w2 ⟨rfl, ho2⟩; have HO : Hid (Only [] w w2) := ho2; have h2 := H.out.only ho2; obtain ⟨h3, ho3⟩ := h2.made; obtain ⟨w4, hr4, h4, ho4⟩ := h3.put r HI.out HB0.out; rw [World.setCell_alloc_past _ _ _ _ h2.lt] at hr4; have HE : Hid (TuAt w4 t (some w2.heap.size) (putT L ⟨o, q.toNat, r⟩) ∧ Only [t] w w4) := ⟨h4, ((HO.out.mono (fun _ hk => by cases hk)).trans ho3 (fun _ hk => Or.inl hk)).trans ho4 (fun k hk => Or.inr (by rw [List.mem_singleton.1 hk]; exact HO.out.size))⟩; have c0 := h2.c0; have hmk := run_makeMap (P := Tryd.prog) 25 w2; have f0 := h2.f0; have htl := h2.lt; clear hb ho2 h2 h3 h4 ho3 ho4)
        go_ret
        unfold EndR
        rw [HR.out]
        exact ⟨rfl, some w2.heap.size, HE.out.1, HE.out.2, fun b hb => Or.inr (by simp at hb; rw [← hb]; exact HO.out.size)⟩
      | some b =>
        have qn : ∀ (w : World), (binOp .eql 25 (.map (some b)) (.map none)).run Tryd.prog w = .ok (.bool false) w := fun w => run_eql_map_nil w _ _ _ (some b) Tryd.underlying25
        go_enter Tryd.func9, Tryd.ntmps9
        go_wp2_with (go_at_call 6; refine hb.mono ?_; rintro e w2 ⟨rfl, ho2⟩; have HO : Hid (Only [] w w2) := ho2; have h2 := H.out.only ho2; obtain ⟨w4, hr4, h4, ho4⟩ := h2.put r HI.out HB0.out; have HE : Hid (TuAt w4 t (some b) (putT L ⟨o, q.toNat, r⟩) ∧ Only [t, b] w w4) := ⟨h4, (HO.out.mono (fun _ hk => by cases hk)).trans ho4 (fun k hk => Or.inl (by rw [List.mem_singleton.1 hk]; simp))⟩; have c0 := h2.c0; clear hb ho2 h2 h4 ho4)
        go_ret
        unfold EndR
        rw [HR.out]
        exact ⟨rfl, some b, HE.out.1, HE.out.2, fun c hc => Or.inl hc⟩
  · have HR : Hid (endT L o q r = ((begT L o q).1, L)) := endT_err r h0
    have en : errN A (begT L o q).1 = .iface 93 (.pointer (some (A ((begT L o q).1 - 1)))) := by unfold errN; rw [if_neg h0]; rfl
    have HN : Hid (errN A (begT L o q).1 = .iface 93 (.pointer (some (A ((begT L o q).1 - 1))))) := en
    rw [en] at hb
    generalize (begT L o q).2.1 = ag at hb
    generalize hk : A ((begT L o q).1 - 1) = P at hb HN
    clear h0 hs en hk
    go_enter Tryd.func9, Tryd.ntmps9
    go_wp2_with (go_at_call 6; refine hb.mono ?_; rintro e w2 ⟨rfl, ho2⟩; have HO : Hid (Only [] w w2) := ho2; clear hb ho2)
    go_ret
    unfold EndR
    rw [HR.out]
    exact ⟨by rw [HN.out]; rfl, m, H.out.only HO.out, HO.out.mono (fun _ hk => by cases hk), fun b hb => Or.inl hb⟩
/-- What Drop leaves. -/
def DropR (A : Nat → Addr) (w w' : World) (t : Nat) (m : Option Nat) (L : List Trn) (o : Int) (e : Ending) : Prop :=
  e = .returned (errN A (remT L o).1) ∧ TuAt w' t m (remT L o).2 ∧ Only (t :: m.toList) w w'
set_option maxRecDepth 100000 in
set_option maxHeartbeats 2000000 in
theorem tdrop_any (A : Nat → Addr) (w : World) (t : Nat) (m : Option Nat) (L : List Trn) (o : Int) (hE : Errs w A) (h : TuAt w t m L) (ho : I64 o) :
    Calls Tryd.prog 11 #[.pointer (some ⟨t, 0, none⟩), .int .i64 o] w fun e w' => DropR A w w' t m L o e := by
  have c0 := h.c0
  have hlk := h.look ho
  have htl := h.lt
  unfold lastV at hlk
  cases hf : findT L o with
  | none =>
    have HR : Hid (remT L o = (5, L)) := by show _ = _; unfold remT; rw [hf]; rfl
    have o1 : Only [] w (w.alloc (.cells #[.int .i64 0, .string ⟨#[]⟩] 50)) := (Only.refl _ _).alloc _
    have HE : Hid (TuAt (w.alloc (.cells #[.int .i64 0, .string ⟨#[]⟩] 50)) t m L ∧ Only (t :: m.toList) w (w.alloc (.cells #[.int .i64 0, .string ⟨#[]⟩] 50))) := ⟨h.only o1, o1.mono (fun _ hk => by cases hk)⟩
    have c4 : w.cell? ⟨3, 0, none⟩ = some (.iface 93 (.pointer (some (A 4)))) := hE.cell 4 (by decide)
    have c5 := (o1.cell (lt_of_cell c4) (by simp)).trans c4
    rw [hf] at hlk
    clear hf h hE o1 c4
    go_enter Tryd.func11, Tryd.ntmps11
    go_wp2
    go_ret
    unfold DropR
    rw [HR.out]
    exact ⟨rfl, HE.out⟩
  | some x =>
    have HR : Hid (remT L o = (0, dropT L o)) := by show _ = _; unfold remT; rw [hf]; rfl
    rw [hf] at hlk
    cases m with
    | none =>
      have := h.nomap rfl
      subst this
      cases hf
    | some b =>
      have o1 : Only [] w (w.alloc (.cells #[.int .i64 (x.q : Nat), .string x.r] 50)) := (Only.refl _ _).alloc _
      have h1 := h.only o1
      have c1 := h1.c0
      obtain ⟨w4, hr4, h4, ho4⟩ := h1.del ho hf 0
      have HE : Hid (TuAt w4 t (some b) (dropT L o) ∧ Only [t, b] w w4) := ⟨h4, (o1.mono (fun _ hk => by cases hk)).trans ho4 (fun k hk => Or.inl (by rw [List.mem_singleton.1 hk]; simp))⟩
      clear hf h hE o1 h4 ho4 h1
      go_enter Tryd.func11, Tryd.ntmps11
      go_wp2
      go_ret
      unfold DropR
      rw [HR.out]
      exact ⟨rfl, HE.out⟩
theorem tcount_any (w : World) (t : Nat) (m : Option Nat) (L : List Trn) (h : TuAt w t m L) : Calls Tryd.prog 13 #[.pointer (some ⟨t, 0, none⟩)] w fun e w' => e = .returned (.int .i64 (L.length : Nat)) ∧ w = w' := by
  have c0 := h.c0
  have hc := h.count 3
  clear h
  go_enter Tryd.func13, Tryd.ntmps13
  go_wp2
  go_ret
  exact ⟨rfl, rfl⟩
end Go.Proofs.YtpecfccadhfdhaaDoor
