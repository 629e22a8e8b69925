/- The tree: a new one. -/
import Derived.Test.YtnbanflnepbgnaaDoorU12
namespace Go.Proofs.YtnbanflnepbgnaaDoor
open Go Go.RowKit Go.Deep Go.Maps

/-- A tree over a table, of whose directories none is known. -/
def Tr.bare (t : Nat) (p : Row) (most : Nat) (g : Nat → Nat) (nd : Nat → Option Nod) (db pb : Nat) : Tr := ⟨t, p, most, g, nd, db, fun _ => none, pb, fun _ => 0⟩
theorem over_ok (w : World) (t : Nat) (p : Row) (most : Nat) (g : Nat → Nat) (nd : Nat → Option Nod) (h : TabAt w t p most g nd) (hN : p.N ≤ 1000) (hg : ∀ i, g i ≤ 5000000000000000000) :
    Calls Tryd.prog 14 #[.pointer (some ⟨t, 0, none⟩)] w fun e w' => ∃ tr db pb, e = .returned (.pointer (some ⟨tr, 0, none⟩)) ∧ TreeAt w' tr (Tr.bare t p most g nd db pb) ∧ Only [] w w' ∧ w.heap.size ≤ tr ∧ w.heap.size ≤ db ∧ w.heap.size ≤ pb := by
  have hm1 := run_makeMap (P := Tryd.prog) 54 w
  have hm2 := run_makeMap (P := Tryd.prog) 55 (w.alloc (.map #[] 0))
  have H : Hid (TabAt w t p most g nd) := h
  clear h
  go_enter Tryd.func14, Tryd.ntmps14
  go_wp2
  go_ret
  have ho : Only [] w (((w.alloc (.map #[] 0)).alloc (.map #[] 0)).alloc (.cells #[.pointer (some ⟨t, 0, none⟩), .map (some w.heap.size), .map (some (w.heap.size + 1))] 57)) := (((Only.refl [] w).alloc _).alloc _).alloc _
  refine ⟨w.heap.size + 1 + 1, w.heap.size, w.heap.size + 1, rfl, ?_, ho, by omega, by omega, by omega⟩
  have hh := heap_alloc_last ((w.alloc (.map #[] 0)).alloc (.map #[] 0)) (.cells #[.pointer (some ⟨t, 0, none⟩), .map (some w.heap.size), .map (some (w.heap.size + 1))] 57)
  simp only [World.size_alloc] at hh
  have hno : ∀ k, w.heap.size ≤ k → ¬ InFoot t p most nd k := fun k hk hf => by have := H.out.foot_lt k hf; omega
  have hd : (((w.alloc (.map #[] 0)).alloc (.map #[] 0)).alloc (.cells #[.pointer (some ⟨t, 0, none⟩), .map (some w.heap.size), .map (some (w.heap.size + 1))] 57)).ownsMap Tryd.prog 29 mapElem w.heap.size 0 (.map [] : DataW Unit) := ((World.ownsMap_made (H := Unit) w Tryd.prog 29 mapElem).alloc _).alloc _
  have hp : (((w.alloc (.map #[] 0)).alloc (.map #[] 0)).alloc (.cells #[.pointer (some ⟨t, 0, none⟩), .map (some w.heap.size), .map (some (w.heap.size + 1))] 57)).ownsMap Tryd.prog 29 (plainElem Tryd.prog 3) (w.heap.size + 1) 0 (.map [] : DataW Unit) := by
    have := World.ownsMap_made (H := Unit) (w.alloc (.map #[] 0)) Tryd.prog 29 (plainElem Tryd.prog 3)
    rw [World.size_alloc] at this
    exact this.alloc _
  refine ⟨cell_of_row _ _ 0 _ _ _ hh, cell_of_row _ _ 1 _ _ _ hh, cell_of_row _ _ 2 _ _ _ hh, H.out.kept ho (fun _ _ => by simp), ⟨_, 0, hd, by omega, Reads.empty.congr (fun k => ?_)⟩, (fun i d e => by cases e), ⟨_, 0, hp, by omega, Reads.empty.congr (fun k => ?_)⟩, (fun i j d d' e => by cases e), ⟨hN, hg⟩, hno (w.heap.size + 1 + 1) (by omega), hno w.heap.size (Nat.le_refl _), hno (w.heap.size + 1) (by omega), (fun i d e => by cases e), ?_, (fun i d e => by cases e), (fun i e => by cases e)⟩
  · show (if k.2 = g k.1 then (none : Option DirM).map (·.b) else none) = none
    split <;> rfl
  · simp [Tr.pinsF, Tr.bare]
  · show w.heap.size ≠ w.heap.size + 1
    omega
/-- The tree as it begins. -/
def Tr.fresh (t : Nat) (p : Row) (most b db B pb : Nat) : Tr := ⟨t, p, most, fun _ => 0, setN (fun _ => none) 0 (some { newNod b 2 with Z := 0, L := 2 }), db, setN (fun _ => none) 0 (some ⟨B, []⟩), pb, fun _ => 0⟩
set_option maxHeartbeats 1000000 in
theorem tree_new (w : World) (most : Nat) (h1 : 1 ≤ most) (h2 : most ≤ 300) :
    Calls Tryd.prog 5 #[.int .i64 most] w fun e w' => ∃ tr t p b db B pb, e = .returned (.tuple #[.pointer (some ⟨tr, 0, none⟩), .nilIface]) ∧ TreeAt w' tr (Tr.fresh t p most b db B pb) ∧ Only [] w w' ∧ p.N = 1 ∧ w.heap.size ≤ tr ∧ w.heap.size ≤ t ∧ w.heap.size ≤ b ∧ w.heap.size ≤ db ∧ w.heap.size ≤ B ∧ w.heap.size ≤ pb ∧ ∀ k, p.a = some k → w.heap.size ≤ k := by
  have hnew := tnew w most h1 h2
  go_enter Tryd.func5, Tryd.ntmps5
  go_wp2_with (first
    | (go_at_call 13; go_must (refine hnew.mono ?_); rintro e w1 ⟨t, rfl, hT1, ho1, ht⟩; have hov := over_ok w1 t noRow most (fun _ => 0) (fun _ => none) hT1 (by decide) (fun _ => by omega); have HO1 : Hid (Only [] w w1) := ho1; have HTT : Hid (w.heap.size ≤ t) := ht; clear hT1 ho1 hnew ht)
    | (go_at_call 14; go_must (refine hov.mono ?_); rintro e w2 ⟨tr, db, pb, rfl, hT2, ho2, htr, hdb, hpb⟩; have hadd := add_dir w2 tr (Tr.bare t noRow most (fun _ => 0) (fun _ => none) db pb) 0 hT2 (by decide) (show countTo (fun _ => none) 0 < most from h1) rfl rfl (fun j hj => by omega); have HO2 : Hid (Only [] w w2) := HO1.out.trans ho2 (fun _ hk => by cases hk); have HS : Hid (w.heap.size ≤ tr ∧ w.heap.size ≤ db ∧ w.heap.size ≤ pb) := (show w.heap.size ≤ tr ∧ w.heap.size ≤ db ∧ w.heap.size ≤ pb from by have := HO1.out.size; omega); clear hT2 ho2 hov htr hdb hpb)
    | (go_at_call 15; go_must (refine hadd.mono ?_); rintro e w3 ⟨rfl, p, b, B, hT3, ho3, hb3, hB3, hN3, hA3⟩; clear hadd)
    | go_in)
  have ho : Only [] w w3 := HO2.out.trans ho3 (fun k hk => Or.inr (by
    have h1 := HS.out
    have h2 := HTT.out
    rcases List.mem_cons.1 hk with e | e
    · rw [e]; exact h1.2.1
    · rcases List.mem_cons.1 e with e | e
      · rw [e]; exact h2
      · cases e))
  have hs2 := HO2.out.size
  refine bodyPost_ret (v := .tuple #[.pointer (some ⟨tr, 0, none⟩), .nilIface]) (by simp [results, Tryd.results5, go_sem]) rfl ?_
  exact ⟨tr, t, p, b, db, B, pb, rfl, TreeAt.only (T := Tr.fresh t p most b db B pb) hT3 ((Only.refl [] w3).alloc _), ho.alloc _, by rw [hN3]; rfl, HS.out.1, HTT.out, by omega, HS.out.2.1, by omega, HS.out.2.2, fun k hk => (hA3 k hk).elim (fun e => by cases e) (fun e => by omega)⟩
end Go.Proofs.YtnbanflnepbgnaaDoor
