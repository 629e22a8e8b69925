/- Shares: an open as its cells; a table of opens in memory. -/
import Derived.Test.YtagpahgjbglmaaaDoorSl1
import Derived.Test.YtagpahgjbglmaaaDoorProg
import Derived.WalkKit
import Derived.ProofKit
import Derived.Deep.RegionHeld3
import Derived.BigQuiet
import Derived.Deep.QuietTactic
import Derived.Deep.WholeRow
namespace Go.Proofs.YtagpahgjbglmaaaDoor
open Go Go.RowKit Go.Deep

theorem Only.drewsN {L : List Nat} {a w : World} (h : Only L a w) (n : Nat) : Only L a (w.drewN n) := ⟨h.os, h.tape, h.output, h.size, h.block⟩
/-- An open. -/
structure Opn where
  N : Int
  G : Int
  O : Int
  A : Int
  D : Int
def opC (x : Opn) : List Value := [.int .i64 x.N, .int .i64 x.G, .int .i64 x.O, .int .i64 x.A, .int .i64 x.D]
theorem opC_len (x : Opn) : (opC x).length = 5 := rfl
theorem opC_one (x : Opn) : ∀ v ∈ opC x, v.oneCell' = true := by
  intro v hv
  simp [opC] at hv
  rcases hv with rfl | rfl | rfl | rfl | rfl <;> rfl
def opV (x : Opn) : Value := .agg #[.int .i64 x.N, .int .i64 x.G, .int .i64 x.O, .int .i64 x.A, .int .i64 x.D]
theorem opInfo : (Tryd.prog.info? 52).map (fun i => (i.zero, i.size, i.bytes)) = some (some (.agg #[.int .i64 0, .int .i64 0, .int .i64 0, .int .i64 0, .int .i64 0]), 5, 40) := by kernel_rfl
theorem opsUnd : Tryd.prog.underlying 25 = some (.slice 52) := by kernel_rfl
/-- Opens in memory: a slice of one's own. -/
def Opns (w : World) (base : Nat) (v : Value) (l : List Opn) : Prop := w.ownsRow base 52 5 v l.length (rowOf opC l)
theorem Opns.only {w w' : World} {base : Nat} {v : Value} {l : List Opn} {L : List Nat} (h : Opns w base v l) (ho : Only L w w') (hn : ∀ k, v.ownBlock = some k → k ∉ L) : Opns w' base v l := ho.owns h hn
theorem Opns.nil (w : World) (base : Nat) : Opns w base (.slice none 0 0) [] := World.ownsRow_nil _ _ _ _
/-- Where they lie. -/
theorem Opns.open {w : World} {base : Nat} {v : Value} {l : List Opn} (h : Opns w base v l) : (v = .slice none 0 0 ∧ l = []) ∨ ∃ g cap cur, v = .slice (some ⟨g, 0, none⟩) l.length cap ∧ base ≤ g ∧ g < w.heap.size ∧ w.heap[g]? = some (.cells cur 52 (0, 0)) ∧ l.length ≤ cap ∧ cap ≤ maxLen ∧ cur.size = cap * 5 ∧ cur.toList.take (l.length * 5) = rowOf opC l := by
  rcases h.2 with ⟨h1, h2⟩ | ⟨g, cap, cur, h1, h2, h3, h4⟩
  · exact Or.inl ⟨h1, List.length_eq_zero_iff.1 h2⟩
  · exact Or.inr ⟨g, cap, cur, h1, h2, (Array.getElem?_eq_some_iff.1 h3).1, h3, h4⟩
theorem Opns.cells {w : World} {base g cap : Nat} {l : List Opn} (h : Opns w base (.slice (some ⟨g, 0, none⟩) l.length cap) l) {i : Nat} {x : Opn} (hi : l[i]? = some x) :
    w.cell? ⟨g, i * 5, none⟩ = some (.int .i64 x.N) ∧ w.cell? ⟨g, i * 5 + 1, none⟩ = some (.int .i64 x.G) ∧ w.cell? ⟨g, i * 5 + 2, none⟩ = some (.int .i64 x.O) ∧ w.cell? ⟨g, i * 5 + 3, none⟩ = some (.int .i64 x.A) ∧ w.cell? ⟨g, i * 5 + 4, none⟩ = some (.int .i64 x.D) ∧ (∀ o, w.frozen? ⟨g, o, none⟩ = false) := by
  have hlt : i < l.length := (List.getElem?_eq_some_iff.1 hi).1
  have key : ∀ j, j < 5 → w.cell? ⟨g, i * 5 + j, none⟩ = (opC x)[j]? := fun j hj => by
    rw [World.ownsRow.cellAt h _ (by omega)]
    exact rowOf_get opC_len l i j x hj hi
  exact ⟨key 0 (by decide), key 1 (by decide), key 2 (by decide), key 3 (by decide), key 4 (by decide), fun o => World.ownsRow.frozenAt h o⟩
/-- A table of opens. -/
structure ShAt (w : World) (base t : Nat) (v : Value) (l : List Opn) : Prop where
  c0 : w.cell? ⟨t, 0, none⟩ = some v
  fr : w.frozen? ⟨t, 0, none⟩ = false
  own : Opns w base v l
  ne : ∀ k, v.ownBlock = some k → k ≠ t
theorem ShAt.only {w w' : World} {base t : Nat} {v : Value} {l : List Opn} (h : ShAt w base t v l) (ho : Only [] w w') : ShAt w' base t v l :=
  ⟨(ho.cell (p := ⟨t, 0, none⟩) (lt_of_cell h.c0) (by simp)).trans h.c0, (ho.frozen (p := ⟨t, 0, none⟩) (lt_of_cell h.c0) (by simp)).trans h.fr, h.own.only ho (fun _ _ => by simp), h.ne⟩

/-! ### what an open may, and denies -/
def accB (n : Int) : Bool := decide (1 ≤ n) && decide (n ≤ 3)
def denB (n : Int) : Bool := decide (0 ≤ n) && decide (n ≤ 3)
theorem isAccess_any (n : Int) (w : World) : Calls Tryd.prog 24 #[.int .i64 n] w fun e w' => e = .returned (.bool (accB n)) ∧ w = w' := by
  unfold accB
  by_cases h : 1 ≤ n
  · have hd : decide (1 ≤ n) = true := decide_eq_true h
    go_enter Tryd.func24, Tryd.ntmps24
    go_wp2
    go_ret
    exact ⟨by simp [h], rfl⟩
  · have hd : decide (1 ≤ n) = false := decide_eq_false h
    go_enter Tryd.func24, Tryd.ntmps24
    go_wp2
    go_ret
    exact ⟨by simp, rfl⟩
theorem isDeny_any (n : Int) (w : World) : Calls Tryd.prog 25 #[.int .i64 n] w fun e w' => e = .returned (.bool (denB n)) ∧ w = w' := by
  unfold denB
  by_cases h : 0 ≤ n
  · have hd : decide (0 ≤ n) = true := decide_eq_true h
    go_enter Tryd.func25, Tryd.ntmps25
    go_wp2
    go_ret
    exact ⟨by simp [h], rfl⟩
  · have hd : decide (0 ≤ n) = false := decide_eq_false h
    go_enter Tryd.func25, Tryd.ntmps25
    go_wp2
    go_ret
    exact ⟨by simp, rfl⟩
/-- Bits that two numbers up to 3 share; all of one in the other. -/
def meetB (a b : Int) : Bool := (decide (a % 2 = 1) && decide (b % 2 = 1)) || (decide (a / 2 = 1) && decide (b / 2 = 1))
def withB (a b : Int) : Bool := (decide (a % 2 = 0) || decide (b % 2 = 1)) && (decide (a / 2 = 0) || decide (b / 2 = 1))
def sumB (a b : Int) : Int := (if a % 2 = 1 ∨ b % 2 = 1 then 1 else 0) + (if a / 2 = 1 ∨ b / 2 = 1 then 2 else 0)
theorem upto3 {a : Int} (h0 : 0 ≤ a) (h1 : a ≤ 3) : a = 0 ∨ a = 1 ∨ a = 2 ∨ a = 3 := by omega
theorem bits_and : ∀ a ∈ [0, 1, 2, (3 : Int)], ∀ b ∈ [0, 1, 2, (3 : Int)], (decide (bits BinOp.and IntKind.i64 b a = 0)) = !meetB a b := by decide +kernel
theorem bits_not : ∀ a ∈ [0, 1, 2, (3 : Int)], ∀ b ∈ [0, 1, 2, (3 : Int)], (decide (bits BinOp.andNot IntKind.i64 b a = 0)) = withB b a := by decide +kernel
theorem bits_or : ∀ a ∈ [0, 1, 2, (3 : Int)], ∀ b ∈ [0, 1, 2, (3 : Int)], bits BinOp.or IntKind.i64 a b = sumB a b := by decide +kernel
theorem mem4 {a : Int} (h0 : 0 ≤ a) (h1 : a ≤ 3) : a ∈ [0, 1, 2, (3 : Int)] := by
  rcases upto3 h0 h1 with rfl | rfl | rfl | rfl <;> simp
set_option maxHeartbeats 1000000 in
theorem hasSome_any (a b : Int) (w : World) (ha : 0 ≤ a ∧ a ≤ 3) (hb : 0 ≤ b ∧ b ≤ 3) : Calls Tryd.prog 51 #[.int .i64 a, .int .i64 b] w fun e w' => e = .returned (.bool (meetB a b)) ∧ w = w' := by
  have h := bits_and a (mem4 ha.1 ha.2) b (mem4 hb.1 hb.2)
  have h' : decide (bits BinOp.and IntKind.i64 b a = 0) = !meetB a b := h
  clear h ha hb
  generalize meetB a b = x at h' ⊢
  go_enter Tryd.func51, Tryd.ntmps51
  go_wp2
  go_ret
  exact ⟨by cases x <;> simp_all, rfl⟩
set_option maxHeartbeats 1000000 in
theorem hasAll_any (a b : Int) (w : World) (ha : 0 ≤ a ∧ a ≤ 3) (hb : 0 ≤ b ∧ b ≤ 3) : Calls Tryd.prog 34 #[.int .i64 a, .int .i64 b] w fun e w' => e = .returned (.bool (withB b a)) ∧ w = w' := by
  have h := bits_not a (mem4 ha.1 ha.2) b (mem4 hb.1 hb.2)
  have h' : decide (bits BinOp.andNot IntKind.i64 b a = 0) = withB b a := h
  clear h ha hb
  generalize withB b a = x at h' ⊢
  go_enter Tryd.func34, Tryd.ntmps34
  go_wp2
  go_ret
  exact ⟨by cases x <;> simp_all, rfl⟩

/-! ### tests -/
/-- What an open may be. -/
def OkO (x : Opn) : Prop := 1 ≤ x.A ∧ x.A ≤ 3 ∧ 0 ≤ x.D ∧ x.D ≤ 3
/-- A function value that is a test of opens. -/
def TestOf (w : World) (F : Nat) (bs : Array Value) (p : Opn → Bool) : Prop := ∀ W x, Only [] w W → OkO x → Calls Tryd.prog F (#[opV x] ++ bs) W fun e w' => e = .returned (.bool (p x)) ∧ Only [] W w'
theorem TestOf.only {w w' : World} {F : Nat} {bs : Array Value} {p : Opn → Bool} (h : TestOf w F bs p) (ho : Only [] w w') : TestOf w' F bs p := fun W x h1 h2 => h W x (ho.trans h1 (fun _ hk => by cases hk)) h2
set_option maxHeartbeats 1000000 in
theorem by1_any (w : World) (b : Nat) (o : Int) (hb : w.cell? ⟨b, 0, none⟩ = some (.int .i64 o)) : TestOf w 52 #[.pointer (some ⟨b, 0, none⟩)] (fun x => decide (x.O = o)) := by
  intro W x ho _
  have c0 := (ho.cell (p := ⟨b, 0, none⟩) (lt_of_cell hb) (by simp)).trans hb
  have hbl := lt_of_cell c0
  unfold opV
  clear hb ho
  obtain ⟨N, G, O, A, D⟩ := x
  show Calls Tryd.prog 52 #[.agg #[.int .i64 N, .int .i64 G, .int .i64 O, .int .i64 A, .int .i64 D], .pointer (some ⟨b, 0, none⟩)] W _
  go_enter Tryd.func52, Tryd.ntmps52
  go_wp2
  go_ret
  exact ⟨rfl, (Only.refl _ _).alloc _⟩
/-- The first that a test takes. -/
def firstI (p : Opn → Bool) (l : List Opn) (r : Int) : Prop := (r = -1 ∧ ∀ x ∈ l, p x = false) ∨ ∃ i : Nat, r = (i : Int) ∧ ∃ x, l[i]? = some x ∧ p x = true ∧ ∀ j y, j < i → l[j]? = some y → p y = false
end Go.Proofs.YtagpahgjbglmaaaDoor
