/- Attributes: package attr's own small functions, by contracts: a part's numbers pass one way, into a text or out of one. -/
import Derived.Test.YtdafekhmjddkbabDoorA2
import Derived.Test.YtdafekhmjddkbabDoorR2
import Derived.Test.YtdafekhmjddkbabDoorO1
namespace Go.Proofs.YtdafekhmjddkbabDoor
open Go Go.RowKit Go.Deep

theorem isMask_any (m : Int) (w : World) : Calls Tryd.prog 22 #[.int .i64 m] w fun e w' => e = .returned (.bool (decide (0 ≤ m ∧ m ≤ 31))) ∧ w = w' := by
  rcases (show m < 0 ∨ (0 ≤ m ∧ m < 32) ∨ (0 ≤ m ∧ 32 ≤ m) by omega) with h | ⟨h, h'⟩ | ⟨h, h'⟩
  · have e : decide (0 ≤ m ∧ m ≤ 31) = false := decide_eq_false (by omega)
    have hd : decide (0 ≤ m) = false := decide_eq_false (by omega)
    rw [e]
    go_enter Tryd.func22, Tryd.ntmps22
    go_wp2
    go_ret
    exact ⟨rfl, rfl⟩
  · have e : decide (0 ≤ m ∧ m ≤ 31) = true := decide_eq_true (by omega)
    have hd : decide (0 ≤ m) = true := decide_eq_true (by omega)
    have hd' : decide (m < 32) = true := decide_eq_true (by omega)
    rw [e]
    go_enter Tryd.func22, Tryd.ntmps22
    go_wp2
    go_ret
    exact ⟨rfl, rfl⟩
  · have e : decide (0 ≤ m ∧ m ≤ 31) = false := decide_eq_false (by omega)
    have hd : decide (0 ≤ m) = true := decide_eq_true (by omega)
    have hd' : decide (m < 32) = false := decide_eq_false (by omega)
    rw [e]
    go_enter Tryd.func22, Tryd.ntmps22
    go_wp2
    go_ret
    exact ⟨rfl, rfl⟩

/-- The two ways of a number, as function values that hold where the writer's (the reader's) method lies. -/
def fromV (p : Nat) : Value := .func (.func 80) #[] #[.pointer (some ⟨p, 0, none⟩)]
def toV (p : Nat) : Value := .func (.func 99) #[] #[.pointer (some ⟨p, 0, none⟩)]

theorem from_any (g : Fn) (x y : Array Value) (w : World) : Calls Tryd.prog 50 #[.func g x y] w fun e w' => e = .returned (fromV w.heap.size) ∧ w.alloc (.cells #[.func g x y] 56) = w' := by
  unfold fromV
  go_enter Tryd.func50, Tryd.ntmps50
  go_wp2
  go_ret
  exact ⟨rfl, rfl⟩
theorem to_any (g : Fn) (x y : Array Value) (w : World) : Calls Tryd.prog 87 #[.func g x y] w fun e w' => e = .returned (toV w.heap.size) ∧ w.alloc (.cells #[.func g x y] 71) = w' := by
  unfold toV
  go_enter Tryd.func87, Tryd.ntmps87
  go_wp2
  go_ret
  exact ⟨rfl, rfl⟩

/-- What is passed into a text: the writer's text, the two ways, a node's numbers, the error. -/
structure Wr (w : World) (b p q ab : Nat) (E : Value) (v : Nat → Int) (t : ByteArray) : Prop where
  txt : w.cell? ⟨b, 0, none⟩ = some (.string t)
  frz : w.frozen? ⟨b, 0, none⟩ = false
  short : w.cell? ⟨p, 0, none⟩ = some (.func (.func 23) #[.pointer (some ⟨b, 0, none⟩)] #[])
  long : w.cell? ⟨q, 0, none⟩ = some (.func (.func 51) #[.pointer (some ⟨b, 0, none⟩)] #[])
  num : ∀ i, i < 6 → w.cell? ⟨ab, i, none⟩ = some (.int .i64 (v i))
  err : w.cell? ⟨0, 0, none⟩ = some E
theorem Wr.later {w w' : World} {b p q ab : Nat} {E : Value} {v : Nat → Int} {t : ByteArray} (h : Wr w b p q ab E v t) (hb : Below w.heap.size w w') : Wr w' b p q ab E v t :=
  ⟨(hb.cell (p := ⟨b, 0, none⟩) (lt_of_cell h.txt)).trans h.txt, (hb.frozen (p := ⟨b, 0, none⟩) (lt_of_cell h.txt)).trans h.frz, (hb.cell (p := ⟨p, 0, none⟩) (lt_of_cell h.short)).trans h.short, (hb.cell (p := ⟨q, 0, none⟩) (lt_of_cell h.long)).trans h.long,
   fun i hi => (hb.cell (p := ⟨ab, i, none⟩) (lt_of_cell (h.num i hi))).trans (h.num i hi), (hb.cell (p := ⟨0, 0, none⟩) (lt_of_cell h.err)).trans h.err⟩
theorem cell_other {w : World} {a c : Addr} {x u v : Value} (hc : w.cell? c = some x) (ha : w.cell? a = some u) (hne : x ≠ u) : (w.setCell a v).cell? c = some x := by
  rw [World.cell?_setCell_other]
  · exact hc
  · rintro rfl
    rw [ha] at hc
    exact hne (Option.some.inj hc).symm
theorem only_put {w w' : World} {b : Nat} {v : Value} (hb : Below w.heap.size (w.setCell ⟨b, 0, none⟩ v) w') : Only [b] w w' :=
  ((Only.refl [b] w).setCell (p := ⟨b, 0, none⟩) (Or.inl (List.mem_cons_self ..)) v).trans (Only.of_below (by simpa using hb) []) (fun _ k => by cases k)
theorem Wr.put {w w' : World} {b p q ab : Nat} {T : TypeId} {x : Value} {v : Nat → Int} {t t' : ByteArray} (h : Wr w b p q ab (.iface T x) v t) (hb : Below w.heap.size (w.setCell ⟨b, 0, none⟩ (.string t')) w') : Wr w' b p q ab (.iface T x) v t' := by
  have h1 : Wr (w.setCell ⟨b, 0, none⟩ (.string t')) b p q ab (.iface T x) v t' :=
    ⟨World.cell?_setCell_same _ _ _ h.txt, by simpa using h.frz, cell_other h.short h.txt (by simp), cell_other h.long h.txt (by simp), fun i hi => cell_other (h.num i hi) h.txt (by simp), cell_other h.err h.txt (by simp)⟩
  exact h1.later (by simpa using hb)

/-- What is passed out of a text: the reader's rest, the two ways, a node's numbers so far, the error. -/
structure Rd (w : World) (b p q ab : Nat) (E : Value) (f : Nat → Int) (t : ByteArray) : Prop where
  txt : w.cell? ⟨b, 0, none⟩ = some (.string t)
  frz : w.frozen? ⟨b, 0, none⟩ = false
  short : w.cell? ⟨p, 0, none⟩ = some (.func (.func 31) #[.pointer (some ⟨b, 0, none⟩)] #[])
  long : w.cell? ⟨q, 0, none⟩ = some (.func (.func 88) #[.pointer (some ⟨b, 0, none⟩)] #[])
  num : ∀ i, i < 6 → w.cell? ⟨ab, i, none⟩ = some (.int .i64 (f i))
  free : ∀ i, i < 6 → w.frozen? ⟨ab, i, none⟩ = false
  err : w.cell? ⟨1, 0, none⟩ = some E
theorem Rd.later {w w' : World} {b p q ab : Nat} {E : Value} {v : Nat → Int} {t : ByteArray} (h : Rd w b p q ab E v t) (hb : Below w.heap.size w w') : Rd w' b p q ab E v t :=
  ⟨(hb.cell (p := ⟨b, 0, none⟩) (lt_of_cell h.txt)).trans h.txt, (hb.frozen (p := ⟨b, 0, none⟩) (lt_of_cell h.txt)).trans h.frz, (hb.cell (p := ⟨p, 0, none⟩) (lt_of_cell h.short)).trans h.short, (hb.cell (p := ⟨q, 0, none⟩) (lt_of_cell h.long)).trans h.long,
   fun i hi => (hb.cell (p := ⟨ab, i, none⟩) (lt_of_cell (h.num i hi))).trans (h.num i hi), fun i hi => (hb.frozen (p := ⟨ab, i, none⟩) (lt_of_cell (h.num i hi))).trans (h.free i hi), (hb.cell (p := ⟨1, 0, none⟩) (lt_of_cell h.err)).trans h.err⟩
theorem Rd.cut {w : World} {b p q ab : Nat} {T : TypeId} {x : Value} {v : Nat → Int} {t : ByteArray} (h : Rd w b p q ab (.iface T x) v t) (t' : ByteArray) : Rd (w.setCell ⟨b, 0, none⟩ (.string t')) b p q ab (.iface T x) v t' :=
  ⟨World.cell?_setCell_same _ _ _ h.txt, by simpa using h.frz, cell_other h.short h.txt (by simp), cell_other h.long h.txt (by simp), fun i hi => cell_other (h.num i hi) h.txt (by simp), fun i hi => by simpa using h.free i hi, cell_other h.err h.txt (by simp)⟩
theorem Rd.put {w : World} {b p q ab : Nat} {T : TypeId} {x : Value} {v : Nat → Int} {t : ByteArray} (h : Rd w b p q ab (.iface T x) v t) (k : Nat) (hk : k < 6) (n : Int) : Rd (w.setCell ⟨ab, k, none⟩ (.int .i64 n)) b p q ab (.iface T x) (fun i => if i = k then n else v i) t :=
  ⟨cell_other h.txt (h.num k hk) (by simp), by simpa using h.frz, cell_other h.short (h.num k hk) (by simp), cell_other h.long (h.num k hk) (by simp),
   fun i hi => by
    by_cases e : i = k
    · subst e
      rw [if_pos rfl]
      exact World.cell?_setCell_same _ _ _ (h.num i hi)
    · rw [if_neg e, World.cell?_setCell_other]
      · exact h.num i hi
      · intro k'
        injection k' with _ k2
        exact e k2.symm,
   fun i hi => by simpa using h.free i hi, cell_other h.err (h.num k hk) (by simp)⟩
end Go.Proofs.YtdafekhmjddkbabDoor
