/- What was answered: the program's functions: New, Look, forget, Keep, Count. -/
import Derived.Test.YtlmppddgeclddaaDoorCa3
import Derived.Test.YtlmppddgeclddaaDoorE3
namespace Go.Proofs.YtlmppddgeclddaaDoor
open Go Go.RowKit Go.Deep Go.Maps

def sErr (A : Nat → Addr) (k : Nat) : Value := .iface 97 (.pointer (some (A k)))
def errN (A : Nat → Addr) (c : Nat) : Value := if c = 0 then .nilIface else sErr A (c - 1)
/-- The errors that a cache tells of lie in memory. -/
def Err4 (W : World) (A : Nat → Addr) : Prop := ∀ k, k ∈ [1, 5, 11] → W.cell? ⟨gOf k, 0, none⟩ = some (.iface 97 (.pointer (some (A k))))
theorem Err4.below {W w : World} {A : Nat → Addr} (h : Err4 W A) (hb : Below W.heap.size W w) : Err4 w A := fun k hk => (hb.cell (p := ⟨gOf k, 0, none⟩) (lt_of_cell (h k hk))).trans (h k hk)
theorem Errs.four {W : World} {A : Nat → Addr} (h : Errs W A) : Err4 W A := fun k hk => h.cell k (by simp at hk; omega)
theorem bytes_ne {s r : ByteArray} (h : ¬ s = r) : (s.toList == r.toList) = false := by
  rw [Lib.toList_data, Lib.toList_data]
  exact beq_eq_false_iff_ne.2 (fun e => h (bytes_of e))
section
variable {w w' : World} {base t b : Nat} {v v' : Value} {most : Nat} {L : List Kp}
/-- The order is another row now. -/
theorem CaAt.reordered (ht : w.heap[t]? = some (.cells #[.int .i64 (most : Nat), .map (some b), v] 49 (0, 0))) (hm : ∃ D, w.ownsMap Tryd.prog 53 anElem b L.length D ∧ Maps.size D = L.length ∧ Reads qkey anV D (findK L)) (hr : Rqs w base v' L) (hi : KInv most L) :
    w.cell? ⟨t, 2, none⟩ = some v ∧ w.frozen? ⟨t, 2, none⟩ = false ∧ t < w.heap.size ∧ CaAt (w.setCell ⟨t, 2, none⟩ v') base t b v' most L ∧ Only [t] w (w.setCell ⟨t, 2, none⟩ v') := by
  have ho : Only [t] w (w.setCell ⟨t, 2, none⟩ v') := (Only.refl [t] w).setCell (Or.inl (by simp)) _
  obtain ⟨D, h1, h2⟩ := hm
  have hbt : b ≠ t := own_ne_block h1 ht
  refine ⟨cell_of_row _ _ 2 _ _ _ ht, frozen_of_row _ _ _ _ _ ht, (Array.getElem?_eq_some_iff.1 ht).1, ⟨heap_setCell_same w t 2 _ _ _ ht, ⟨D, own_only h1 ho (by simpa using hbt), h2⟩, hr.only ho (fun k hk hkt => ?_), hi⟩, ho⟩
  obtain ⟨_, _, cur, hc⟩ := own_block hr hk
  rw [List.mem_singleton.1 hkt, ht] at hc
  simp at hc
end
/-! ### New -/
set_option maxHeartbeats 1000000 in
theorem new_bad (A : Nat → Addr) (w : World) (m : Int) (hE : Err4 w A) (h : m < 1 ∨ 20 < m) : Calls Tryd.prog 6 #[.int .i64 m] w fun e w' => e = .returned (.tuple #[.pointer none, errN A 2]) ∧ Only [] w w' := by
  have c1 : w.cell? ⟨0, 0, none⟩ = some (.iface 97 (.pointer (some (A 1)))) := hE 1 (by simp)
  have e : errN A 2 = .iface 97 (.pointer (some (A 1))) := rfl
  rw [e]
  clear hE e
  by_cases h1 : m < 1
  · have d0 : decide (m < 1) = true := decide_eq_true h1
    clear h
    go_enter Tryd.func6, Tryd.ntmps6
    go_wp2
    go_region
    all_goals go_wp2
    all_goals go_ret2
    all_goals exact ⟨rfl, (Only.refl _ _).drew⟩
  · have d0 : decide (m < 1) = false := decide_eq_false h1
    have d1 : decide (20 < m) = true := decide_eq_true (by omega)
    clear h
    go_enter Tryd.func6, Tryd.ntmps6
    go_wp2
    go_region
    all_goals go_wp2
    all_goals go_ret2
    all_goals exact ⟨rfl, (Only.refl _ _).drew⟩
def NewR (w w' : World) (most : Nat) (e : Ending) : Prop := ∃ t b, e = .returned (.tuple #[.pointer (some ⟨t, 0, none⟩), .nilIface]) ∧ (∀ base, CaAt w' base t b (.slice none 0 0) most []) ∧ Only [] w w' ∧ w.heap.size ≤ t ∧ w.heap.size ≤ b
set_option maxHeartbeats 1000000 in
theorem new_ok (w : World) (most : Nat) (h1 : 1 ≤ most) (h2 : most ≤ 20) : Calls Tryd.prog 6 #[.int .i64 (most : Nat)] w fun e w' => NewR w w' most e := by
  have hm1 := run_makeMap (P := Tryd.prog) 46 w
  have d0 : decide ((most : Int) < 1) = false := decide_eq_false (by omega)
  have d1 : decide ((20 : Int) < most) = false := decide_eq_false (by omega)
  have HI : Hid (KInv most []) := KInv.nil h1 h2
  go_enter Tryd.func6, Tryd.ntmps6
  go_wp2
  go_ret2
  have hh := heap_alloc_last (w.alloc (.map #[] 0)) (.cells #[.int .i64 (most : Nat), .map (some w.heap.size), .slice none 0 0] 49)
  rw [World.size_alloc] at hh
  exact ⟨w.heap.size + 1, w.heap.size, rfl, fun base => ⟨hh, ⟨_, (World.ownsMap_made (H := Unit) w Tryd.prog 53 anElem).alloc _, rfl, Reads.empty⟩, Rqs.nil _ _, HI.out⟩, ((Only.refl [] w).alloc _).alloc _, by omega, Nat.le_refl _⟩
/-! ### Look -/
def lookV (A : Nat → Addr) (L : List Kp) (k : ByteArray × Int) (s : ByteArray) : Value := .tuple #[.string (lookK L k s).2.2, .bool (lookK L k s).2.1, errN A (lookK L k s).1]
set_option maxRecDepth 100000 in
set_option maxHeartbeats 2000000 in
theorem look_any (A : Nat → Addr) (w : World) (base t b : Nat) (v : Value) (most : Nat) (L : List Kp) (k : ByteArray × Int) (s : ByteArray) (hE : Err4 w A) (h : CaAt w base t b v most L) (hk : OkQ k) :
    Calls Tryd.prog 10 #[.pointer (some ⟨t, 0, none⟩), .string k.1, .int .i64 k.2, .string s] w fun e w' => e = .returned (lookV A L k s) ∧ Only [] w w' := by
  have c1 := h.c1
  have hlk := h.look hk
  have htl := h.lt
  have c11 : w.cell? ⟨2, 0, none⟩ = some (.iface 97 (.pointer (some (A 11)))) := hE 11 (by simp)
  obtain ⟨c, n⟩ := k
  dsimp only at hlk ⊢
  unfold ansV at hlk
  unfold lookV lookK
  clear hE h hk
  cases hf : findK L (c, n) with
  | none =>
    rw [hf] at hlk
    clear hf c11
    go_enter Tryd.func10, Tryd.ntmps10
    go_wp2
    go_ret3
    exact ⟨rfl, (Only.refl _ _).alloc _⟩
  | some x =>
    rw [hf] at hlk
    have o1 : Only [] w (w.alloc (.cells #[.string x.t, .string x.r] 55)) := (Only.refl _ _).alloc _
    have c12 := (o1.cell (lt_of_cell c11) (by simp)).trans c11
    dsimp only at hlk ⊢
    clear hf c11 o1
    by_cases ht : x.t = s
    · subst ht
      rw [if_pos rfl]
      go_enter Tryd.func10, Tryd.ntmps10
      go_wp2
      go_ret3
      exact ⟨rfl, (Only.refl _ _).alloc _⟩
    · rw [if_neg ht]
      have e : errN A 12 = .iface 97 (.pointer (some (A 11))) := rfl
      dsimp only
      rw [e]
      have hb : (x.t.toList == s.toList) = false := bytes_ne ht
      clear e
      go_enter Tryd.func10, Tryd.ntmps10
      go_wp2
      go_region
      all_goals go_wp2
      all_goals go_ret3
      all_goals exact ⟨rfl, ((Only.refl _ _).alloc _).drew⟩
/-! ### Count -/
theorem count_any (w : World) (base t b : Nat) (v : Value) (most : Nat) (L : List Kp) (h : CaAt w base t b v most L) : Calls Tryd.prog 12 #[.pointer (some ⟨t, 0, none⟩)] w fun e w' => e = .returned (.int .i64 (L.length : Nat)) ∧ w = w' := by
  have c2 := h.c2
  obtain ⟨ad, cap, hv⟩ : ∃ ad cap, v = .slice ad L.length cap := by
    rcases h.row.open with ⟨e, e2⟩ | ⟨g, cap, cur, e, _⟩
    · rw [e2]; exact ⟨_, _, e⟩
    · exact ⟨_, _, e⟩
  rw [hv] at c2
  clear h hv
  go_enter Tryd.func12, Tryd.ntmps12
  go_wp2
  go_ret
  exact ⟨rfl, rfl⟩
/-! ### forget -/
def ForgetR (w w' : World) (base t b : Nat) (v : Value) (most : Nat) (L : List Kp) (e : Ending) : Prop := e = .returned (.tuple #[]) ∧ ∃ v', CaAt w' base t b v' most L ∧ Only (t :: b :: v.ownBlock.toList) w w' ∧ v'.ownBlock = v.ownBlock
set_option maxRecDepth 100000 in
set_option maxHeartbeats 4000000 in
theorem forget_any (w : World) (base t b : Nat) (v : Value) (most : Nat) (y : Kp) (L : List Kp) (h : CaAt w base t b v most (y :: L)) :
    Calls Tryd.prog 15 #[.pointer (some ⟨t, 0, none⟩)] w fun e w' => ForgetR w w' base t b v most L e := by
  rcases h.row.open with ⟨_, e2⟩ | ⟨g, cap, cur, hv, hbg, hgl, hg, hnc, hcm, hcs, htk⟩
  · cases e2
  have hI : KInv most L := ⟨h.inv.most1, h.inv.most2, by have := h.inv.len; simp at this; omega, by have := h.inv.nod; simp only [List.map_cons, List.nodup_cons] at this; exact this.2, fun x hx => h.inv.num x (by simp [hx])⟩
  have od : Only [] w w.drew := (Only.refl [] w).drew
  obtain ⟨w2, D, hr, hown, hsz, hrd, ho2⟩ := (h.only od).del 0
  have hrow' := h.row
  rw [hv] at hrow'
  have k0 := World.ownsRow.cellAt hrow' 0 (by simp)
  have k1 := World.ownsRow.cellAt hrow' 1 (by simp; omega)
  clear hrow'
  obtain ⟨n, hn⟩ : ∃ n, L.length = n := ⟨_, rfl⟩
  have hln := h.inv.len
  have hlm := h.inv.most2
  have hcm' : (cap : Int) ≤ 9223372036854775807 := by unfold maxLen at hcm; omega
  simp only [List.length_cons, hn] at hv hnc hln
  have c1 := h.c1
  have c2 := h.c2
  have HT : Hid (w.heap[t]? = some (.cells #[.int .i64 (most : Nat), .map (some b), v] 49 (0, 0))) := h.tab
  have hvne : ∀ k, v.ownBlock = some k → k ≠ t ∧ k ≠ b := fun k hk => h.vne hk
  have hb := h.ne
  have hrow := h.row
  have htl := h.lt
  subst hv
  obtain ⟨hgt, hgb⟩ := hvne g rfl
  have q0 : w.cell? ⟨g, 0, none⟩ = some (.string y.c) := k0
  have q1 : w.cell? ⟨g, 1, none⟩ = some (.int .i64 y.n) := k1
  have ho02 : Only [b] w w2 := (od.mono (fun _ hk => by cases hk)).trans ho2 (fun k hk => Or.inl hk)
  have hrow2 : Rqs w2 base (.slice (some ⟨g, 0, none⟩) (n + 1) cap) (y :: L) := hrow.only ho02 (fun k hk => by cases hk; simpa using hgb)
  have hdel : Calls Tryd.prog 19 #[.slice (some ⟨g, 0, none⟩) (n + 1) cap, .int .i64 0, .int .i64 1] w2 fun e w' => e = .returned (.slice (some ⟨g, 0, none⟩) n cap) ∧ Rqs w' base (.slice (some ⟨g, 0, none⟩) n cap) L ∧ Only [g] w2 w' := delete_any w2 base g (n + 1) cap 0 (y :: L) hrow2 (by simp [hn]) (by omega) (by omega)
  have HFIN : Hid (∀ w3, Rqs w3 base (.slice (some ⟨g, 0, none⟩) n cap) L → Only [g] w2 w3 → w3.cell? ⟨t, 2, none⟩ = some (.slice (some ⟨g, 0, none⟩) (n + 1) cap) ∧ w3.frozen? ⟨t, 2, none⟩ = false ∧ t < w3.heap.size ∧ CaAt (w3.setCell ⟨t, 2, none⟩ (.slice (some ⟨g, 0, none⟩) n cap)) base t b (.slice (some ⟨g, 0, none⟩) n cap) most L ∧ Only [t, b, g] w (w3.setCell ⟨t, 2, none⟩ (.slice (some ⟨g, 0, none⟩) n cap))) := by
    intro w3 hR3 ho3
    have ho : Only [b, g] w w3 := (ho02.mono (fun k hk => Or.inl (by rw [List.mem_singleton.1 hk]; simp))).trans ho3 (fun k hk => Or.inl (by rw [List.mem_singleton.1 hk]; simp))
    have ht := (ho.block t htl (by simp; exact ⟨hb.symm, hgt.symm⟩)).trans HT.out
    obtain ⟨r1, r2, r3, r4, r5⟩ := CaAt.reordered (L := L) (v' := .slice (some ⟨g, 0, none⟩) n cap) ht ⟨D, own_only hown ho3 (by simpa using hgb.symm), hsz, hrd⟩ hR3 hI
    exact ⟨r1, r2, r3, r4, (ho.mono (fun k hk => Or.inl (by simp at hk; simp [hk]))).trans r5 (fun k hk => Or.inl (by rw [List.mem_singleton.1 hk]; simp))⟩
  have z2 : w2.cell? ⟨t, 2, none⟩ = some (.slice (some ⟨g, 0, none⟩) (n + 1) cap) := (ho02.cell (p := ⟨t, 2, none⟩) htl (by simpa using hb.symm)).trans c2
  clear h hrow hrow2 HT hvne hown hrd ho2 ho02 hg hcs htk k0 k1 od hI hcm
  go_enter Tryd.func15, Tryd.ntmps15
  go_wp2
  go_region
  all_goals go_wp2_with (go_at_call 19; refine hdel.mono ?_; rintro e w3 ⟨rfl, hR3, ho3⟩; obtain ⟨r1, r2, r3, r4⟩ := HFIN.out w3 hR3 ho3; have HR : Hid (CaAt (w3.setCell ⟨t, 2, none⟩ (.slice (some ⟨g, 0, none⟩) n cap)) base t b (.slice (some ⟨g, 0, none⟩) n cap) most L ∧ Only [t, b, g] w (w3.setCell ⟨t, 2, none⟩ (.slice (some ⟨g, 0, none⟩) n cap))) := r4; clear hdel hR3 ho3 r4)
  all_goals go_end0
  all_goals exact ⟨rfl, _, HR.out.1, HR.out.2, rfl⟩
end Go.Proofs.YtlmppddgeclddaaDoor
