/- Plain facts on bytes and numbers: a number's bytes, the highest first, and back. No program is named here. -/
import Derived.Below
import Derived.Laws.AppendOwn
import Derived.Deep.OwnRows
import Derived.ProofKit
import Derived.Test.YtnbanflnepbgnaaDoorProg
import Derived.WalkKit
import Derived.Laws.IdiomStrings
import Derived.WalkSpells
/- Plain facts on bytes and numbers: a number's bytes, the highest first, and back. No program is named here. -/
namespace Go.Proofs.YtnbanflnepbgnaaDoor
open Go Go.RowKit

/-- So many bytes of a number, the highest first. -/
def be : Nat → Nat → List UInt8
  | 0, _ => []
  | k + 1, n => UInt8.ofNat (n / 256 ^ k) :: be k n

/-- The number that bytes are, the highest first. -/
def num (l : List UInt8) : Nat := l.foldl (fun a b => a * 256 + b.toNat) 0

/-- A text of bytes. -/
def bs (l : List UInt8) : ByteArray := ⟨l.toArray⟩

theorem be_length (k n : Nat) : (be k n).length = k := by
  induction k with
  | zero => rfl
  | succ k ih => simp [be, ih]

theorem num_from (l : List UInt8) (a : Nat) : l.foldl (fun a b => a * 256 + b.toNat) a = a * 256 ^ l.length + num l := by
  induction l generalizing a with
  | nil => simp [num]
  | cons b l ih =>
    show l.foldl _ (a * 256 + b.toNat) = a * 256 ^ (l.length + 1) + l.foldl _ (0 * 256 + b.toNat)
    rw [ih, ih, Nat.pow_succ, Nat.add_mul, Nat.zero_mul, Nat.zero_add, Nat.mul_comm (256 ^ l.length) 256, Nat.mul_assoc, Nat.add_assoc]

theorem num_cons (b : UInt8) (l : List UInt8) : num (b :: l) = b.toNat * 256 ^ l.length + num l := by
  have := num_from l b.toNat
  simpa [num] using this

theorem num_snoc (l : List UInt8) (b : UInt8) : num (l ++ [b]) = num l * 256 + b.toNat := by
  simp [num, List.foldl_append]

theorem num_lt (l : List UInt8) : num l < 256 ^ l.length := by
  induction l with
  | nil => simp [num]
  | cons b l ih =>
    rw [num_cons, List.length_cons, Nat.pow_succ]
    have hb : b.toNat < 256 := b.toNat_lt
    have : b.toNat * 256 ^ l.length + 256 ^ l.length ≤ 256 * 256 ^ l.length := by
      rw [← Nat.succ_mul]; exact Nat.mul_le_mul_right _ hb
    rw [Nat.mul_comm (256 ^ l.length)]
    omega

theorem num_be (k n : Nat) : num (be k n) = n % 256 ^ k := by
  induction k with
  | zero => simp [be, num, Nat.mod_one]
  | succ k ih =>
    rw [be, num_cons, be_length, ih, UInt8.toNat_ofNat']
    show n / 256 ^ k % 256 * 256 ^ k + n % 256 ^ k = n % 256 ^ (k + 1)
    rw [Nat.pow_succ, Nat.mod_mul, Nat.mul_comm, Nat.add_comm]

theorem be_get (k n x : Nat) (hx : x < (be k n).length) : (be k n)[x].toNat = n / 256 ^ (k - 1 - x) % 256 := by
  induction k generalizing x with
  | zero => simp [be] at hx
  | succ k ih =>
    cases x with
    | zero =>
      show (UInt8.ofNat (n / 256 ^ k)).toNat = _
      rw [UInt8.toNat_ofNat']
      rfl
    | succ x =>
      have hx' : x < (be k n).length := by simpa [be] using hx
      show (be k n)[x].toNat = _
      rw [ih x hx']
      have : k - 1 - x = k + 1 - 1 - (x + 1) := by omega
      rw [this]

theorem bs_data (l : List UInt8) : (bs l).data.toList = l := by simp [bs]
theorem bs_size (l : List UInt8) : (bs l).size = l.length := by simp [bs, ByteArray.size]
theorem bs_self (s : ByteArray) : bs s.data.toList = s := by simp [bs]
theorem bs_inj {a b : List UInt8} (h : bs a = bs b) : a = b := by
  have := congrArg (fun s : ByteArray => s.data.toList) h
  simpa [bs] using this
theorem data_inj {a b : ByteArray} (h : a.data.toList = b.data.toList) : a = b := by
  rw [← bs_self a, ← bs_self b, h]
theorem bs_append (a b : List UInt8) : bs a ++ bs b = bs (a ++ b) := by
  apply data_inj
  simp [bs]

theorem num_take_succ (l : List UInt8) (k : Nat) (h : k < l.length) : num (l.take (k + 1)) = num (l.take k) * 256 + l[k].toNat := by
  rw [List.take_succ_eq_append_getElem h, num_snoc]
theorem num_take_lt (l : List UInt8) (k : Nat) : num (l.take k) < 256 ^ k :=
  Nat.lt_of_lt_of_le (num_lt _) (Nat.pow_le_pow_right (by decide) (List.length_take_le _ _))

/-! ### worlds -/
theorem bcell {W w1 : World} {B : Nat} (hb : Below B W w1) : (∀ b o, b < B → w1.cell? ⟨b, o, none⟩ = W.cell? ⟨b, o, none⟩) ∧ (∀ b o, b < B → w1.frozen? ⟨b, o, none⟩ = W.frozen? ⟨b, o, none⟩) :=
  ⟨fun b o h => hb.cell (p := ⟨b, o, none⟩) h, fun b o h => hb.frozen (p := ⟨b, o, none⟩) h⟩
theorem lt_of_cell {w : World} {a : Addr} {v : Value} (h : w.cell? a = some v) : a.block < w.heap.size := by
  rcases Nat.lt_or_ge a.block w.heap.size with h1 | h1
  · exact h1
  · simp [World.cell?, Array.getElem?_eq_none h1] at h
theorem below_set {B : Nat} {w w1 : World} (h : Below B w w1) (a : Addr) (v : Value) : Below B (w.setCell a v) (w1.setCell a v) := by
  refine ⟨h.os, h.tape, h.output, by simpa [World.setCell] using h.size, fun k hk => ?_⟩
  simp only [World.setCell, Array.getElem?_modify]
  rw [h.block k hk]
theorem below_from_drew {B : Nat} {w w1 : World} (h : Below B w.drew w1) : Below B w w1 := ⟨h.os, h.tape, h.output, h.size, h.block⟩
end Go.Proofs.YtnbanflnepbgnaaDoor
/- Plain facts on worlds: what a call leaves that has written one cell, and made memory of its own. No program is named here. -/
namespace Go.Proofs.YtnbanflnepbgnaaDoor
open Go Go.RowKit

/-! ### behind a call that has written one cell, and made memory of its own -/
theorem put_cell {w w' : World} {a : Addr} {u v : Value} (h : Below w.heap.size (w.setCell a v) w') (hc : w.cell? a = some u) : w'.cell? a = some v :=
  (h.cell (p := a) (lt_of_cell hc)).trans (World.cell?_setCell_same _ _ _ hc)
theorem put_frozen {w w' : World} {a : Addr} {u v : Value} (h : Below w.heap.size (w.setCell a v) w') (hc : w.cell? a = some u) : w'.frozen? a = w.frozen? a :=
  (h.frozen (p := a) (lt_of_cell hc)).trans (by simp)
theorem put_below {w w' : World} {a : Addr} {v : Value} {B : Nat} (h : Below w.heap.size (w.setCell a v) w') (hB : B ≤ a.block) (hB' : B ≤ w.heap.size) : Below B w w' :=
  ((Below.refl _ _).setCell hB v).trans (h.mono hB')
theorem owns_below {w w' : World} {base : Nat} {e : TypeId} {size : Nat} {v : Value} {n : Nat} {xs : List Value} (h : w.ownsRow base e size v n xs) (hb : Below w.heap.size w w') : w'.ownsRow base e size v n xs := by
  obtain ⟨h1, h2⟩ := h
  refine ⟨h1, ?_⟩
  rcases h2 with h2 | ⟨g, cap, cur, hv, hg, hh, r⟩
  · exact Or.inl h2
  · refine Or.inr ⟨g, cap, cur, hv, hg, ?_, r⟩
    rw [hb.block g (Array.getElem?_eq_some_iff.1 hh).1]
    exact hh
theorem put_owns {w w' : World} {a : Addr} {u : Value} {base : Nat} {e : TypeId} {size : Nat} {v : Value} {n : Nat} {xs : List Value} (h : Below w.heap.size (w.setCell a u) w') (ho : w.ownsRow base e size v n xs) (ha : a.block < base) : w'.ownsRow base e size v n xs :=
  owns_below (ownsRow_setCell_below ho ha u) (by simpa [World.setCell] using h)
end Go.Proofs.YtnbanflnepbgnaaDoor
/- Plain facts on worlds: what a call leaves that wrote into a few blocks alone, and made memory of its own. No program is named here. -/
namespace Go.Proofs.YtnbanflnepbgnaaDoor
open Go Go.RowKit

/-- Of all that lay, the blocks L alone may have changed. -/
structure Only (L : List Nat) (w w' : World) : Prop where
  os : w'.os = w.os
  tape : w'.tape = w.tape
  output : w'.output = w.output
  size : w.heap.size ≤ w'.heap.size
  block : ∀ k, k < w.heap.size → k ∉ L → w'.heap[k]? = w.heap[k]?

theorem Only.refl (L : List Nat) (w : World) : Only L w w := ⟨rfl, rfl, rfl, Nat.le_refl _, fun _ _ _ => rfl⟩
theorem Only.of_below {w w' : World} (h : Below w.heap.size w w') (L : List Nat) : Only L w w' := ⟨h.os, h.tape, h.output, h.size, fun k hk _ => h.block k hk⟩
theorem Only.to_below {L : List Nat} {w w' : World} {B : Nat} (h : Only L w w') (hB : B ≤ w.heap.size) (hL : ∀ k ∈ L, B ≤ k) : Below B w w' :=
  ⟨h.os, h.tape, h.output, h.size, fun k hk => h.block k (Nat.lt_of_lt_of_le hk hB) fun hm => absurd (hL k hm) (by omega)⟩
/-- One call behind another: what the second touches is what the first one touched, or was not there. -/
theorem Only.trans {L L' : List Nat} {a b c : World} (h : Only L a b) (k : Only L' b c) (hL : ∀ i ∈ L', i ∈ L ∨ a.heap.size ≤ i) : Only L a c :=
  ⟨k.os.trans h.os, k.tape.trans h.tape, k.output.trans h.output, Nat.le_trans h.size k.size, fun i hi hn =>
    (k.block i (Nat.lt_of_lt_of_le hi h.size) fun hm => (hL i hm).elim hn (fun x => absurd x (by omega))).trans (h.block i hi hn)⟩
theorem Only.mono {L L' : List Nat} {a b : World} (h : Only L a b) (hL : ∀ i ∈ L, i ∈ L' ∨ a.heap.size ≤ i) : Only L' a b :=
  ⟨h.os, h.tape, h.output, h.size, fun i hi hn => h.block i hi fun hm => (hL i hm).elim hn (fun x => absurd x (by omega))⟩
theorem Only.alloc {L : List Nat} {a w : World} (h : Only L a w) (o : Obj) : Only L a (w.alloc o) :=
  h.trans (Only.of_below ((Below.refl _ _).alloc (Nat.le_refl _) o) []) (fun _ k => by cases k)
theorem Only.drew {L : List Nat} {a w : World} (h : Only L a w) : Only L a w.drew := ⟨h.os, h.tape, h.output, h.size, h.block⟩
theorem Only.setCell {L : List Nat} {a w : World} (h : Only L a w) {p : Addr} (hp : p.block ∈ L ∨ a.heap.size ≤ p.block) (u : Value) : Only L a (w.setCell p u) := by
  have hb : Below 0 w (w.setCell p u) := (Below.refl _ _).setCell (Nat.zero_le _) u
  exact ⟨hb.os.trans h.os, hb.tape.trans h.tape, hb.output.trans h.output, Nat.le_trans h.size hb.size, fun i hi hn => (Below.heap_setCell w p u i (fun e => hp.elim (fun x => hn (e ▸ x)) (fun x => absurd x (by omega)))).trans (h.block i hi hn)⟩
theorem Only.grown {L : List Nat} {a w w' : World} {row : Option Nat} (h : Only L a w) (hg : w.grownBy w' row) (hr : ∀ k, row = some k → k ∈ L ∨ a.heap.size ≤ k) : Only L a w' :=
  ⟨hg.os.trans h.os, hg.tape.trans h.tape, hg.output.trans h.output, Nat.le_trans h.size hg.size, fun i hi hn =>
    (hg.block i (Nat.lt_of_lt_of_le hi h.size) fun e => (hr i e.symm).elim hn (fun x => absurd x (by omega))).trans (h.block i hi hn)⟩
theorem Only.cell {L : List Nat} {w w' : World} (h : Only L w w') {p : Addr} (hp : p.block < w.heap.size) (hn : p.block ∉ L) : w'.cell? p = w.cell? p := World.cell?_of_block (w := w) (h.block p.block hp hn)
theorem Only.frozen {L : List Nat} {w w' : World} (h : Only L w w') {p : Addr} (hp : p.block < w.heap.size) (hn : p.block ∉ L) : w'.frozen? p = w.frozen? p := World.frozen?_of_block (w := w) (h.block p.block hp hn)
/-- An owned row that lies elsewhere stays. -/
theorem Only.owns {L : List Nat} {w w' : World} {base : Nat} {e : TypeId} {size : Nat} {v : Value} {n : Nat} {xs : List Value} (h : Only L w w') (ho : w.ownsRow base e size v n xs) (hn : ∀ k, v.ownBlock = some k → k ∉ L) : w'.ownsRow base e size v n xs := by
  obtain ⟨h1, h2⟩ := ho
  refine ⟨h1, ?_⟩
  rcases h2 with h2 | ⟨g, cap, cur, hv, hg, hh, r⟩
  · exact Or.inl h2
  · have hlt : g < w.heap.size := (Array.getElem?_eq_some_iff.1 hh).1
    exact Or.inr ⟨g, cap, cur, hv, hg, (h.block g hlt (hn g (by rw [hv]; rfl))).trans hh, r⟩
end Go.Proofs.YtnbanflnepbgnaaDoor
/- Data: plain: what reading, writing and resizing make of a text and of the list of holes. No program is named here. -/
namespace Go.Proofs.YtnbanflnepbgnaaDoor
open Go

/-- What Read gives. -/
def readB (S : ByteArray) (a n : Int) : ByteArray × Bool × Int :=
  if a < 0 ∨ n < 0 then (⟨#[]⟩, false, 2) else if (S.size : Int) ≤ a then (⟨#[]⟩, true, 0) else if (S.size : Int) - a ≤ n then (S.extract a.toNat S.size, true, 0) else (S.extract a.toNat (a + n).toNat, false, 0)

/-- How many of the first k blocks are no holes. -/
def fullB (H : List Bool) (k : Nat) : Nat := ((H.take k).filter (!·)).length
theorem fullB_yes {H : List Bool} {k : Nat} (hk : k < H.length) (h : H[k] = false) : fullB H (k + 1) = fullB H k + 1 := by
  unfold fullB
  rw [List.take_succ_eq_append_getElem hk, List.filter_append, h]
  simp
theorem fullB_no {H : List Bool} {k : Nat} (hk : k < H.length) (h : H[k] = true) : fullB H (k + 1) = fullB H k := by
  unfold fullB
  rw [List.take_succ_eq_append_getElem hk, List.filter_append, h]
  simp
theorem fullB_le (H : List Bool) (k : Nat) : fullB H k ≤ H.length := by
  unfold fullB
  exact Nat.le_trans (List.length_filter_le _ _) (by rw [List.length_take]; omega)
theorem fullB_all (H : List Bool) : fullB H H.length = (H.filter (!·)).length := by
  unfold fullB
  rw [List.take_length]


def zer (k : Nat) : ByteArray := bs (List.replicate k 0)
theorem zer_size (k : Nat) : (zer k).size = k := by unfold zer; rw [bs_size]; simp

/-- The holes, when what lies from n on goes: of the first j blocks. -/
def shrinkTo (H : List Bool) (n j : Nat) : List Bool := H.mapIdx fun k x => if k < j then x || decide (n ≤ k * 64) else x
theorem shrinkTo_len (H : List Bool) (n j : Nat) : (shrinkTo H n j).length = H.length := by simp [shrinkTo]
theorem shrinkTo_zero (H : List Bool) (n : Nat) : shrinkTo H n 0 = H := by
  apply List.ext_getElem
  · simp [shrinkTo]
  · intro i h1 h2
    simp [shrinkTo]
theorem shrinkTo_yes (H : List Bool) (n j : Nat) (h : n ≤ j * 64) : (shrinkTo H n j).set j true = shrinkTo H n (j + 1) := by
  apply List.ext_getElem
  · simp [shrinkTo]
  · intro i h1 h2
    rw [List.getElem_set]
    by_cases e : j = i
    · subst e
      simp [shrinkTo, h]
    · rw [if_neg e]
      simp only [shrinkTo, List.getElem_mapIdx]
      by_cases k : i < j
      · rw [if_pos k, if_pos (by omega)]
      · rw [if_neg k, if_neg (by omega)]
theorem shrinkTo_no (H : List Bool) (n j : Nat) (h : j * 64 < n) : shrinkTo H n (j + 1) = shrinkTo H n j := by
  apply List.ext_getElem
  · simp [shrinkTo]
  · intro i h1 h2
    simp only [shrinkTo, List.getElem_mapIdx]
    by_cases e : i = j
    · subst e
      rw [if_pos (by omega), if_neg (by omega)]
      have : decide (n ≤ i * 64) = false := decide_eq_false (by omega)
      rw [this]
      simp
    · by_cases k : i < j
      · rw [if_pos k, if_pos (by omega)]
      · rw [if_neg k, if_neg (by omega)]


/-- What Resize leaves. -/
def resizeS (S : ByteArray) (n : Nat) : ByteArray := if S.size ≤ n then S ++ zer (n - S.size) else S.extract 0 n
def resizeH (S : ByteArray) (H : List Bool) (n : Nat) : List Bool := if S.size ≤ n then H else shrinkTo H n H.length

/-! ### plain -/
/-- The text, long enough that a write at a begins in it. -/
def padS (S : ByteArray) (a : Nat) : ByteArray := if S.size < a then S ++ zer (a - S.size) else S
def tailS (P : ByteArray) (k : Nat) : ByteArray := if k < P.size then P.extract k P.size else ⟨#[]⟩
def writeS (S : ByteArray) (a : Nat) (s : ByteArray) : ByteArray := (padS S a).extract 0 a ++ s ++ tailS (padS S a) (a + s.size)
theorem padS_size (S : ByteArray) (a : Nat) : a ≤ (padS S a).size ∧ (padS S a).size ≤ max S.size a := by
  unfold padS
  split
  · rw [ByteArray.size_append, zer_size]; omega
  · omega
/-- The list of holes, long enough for block k, with i more. -/
def moreH (H : List Bool) (i : Nat) : List Bool := H ++ List.replicate i true
theorem moreH_len (H : List Bool) (i : Nat) : (moreH H i).length = H.length + i := by simp [moreH]
theorem moreH_succ (H : List Bool) (i : Nat) : moreH H (i + 1) = moreH H i ++ [true] := by simp [moreH, List.replicate_succ']
/-- Block k is no hole any more. -/
def markH (H : List Bool) (k : Nat) : List Bool := (moreH H (k + 1 - H.length)).set k false
/-- The blocks from k on, so many. -/
def marksH (H : List Bool) (k : Nat) : Nat → List Bool
  | 0 => H
  | i + 1 => markH (marksH H k i) (k + i)
theorem markH_len (H : List Bool) (k : Nat) : (markH H k).length = max H.length (k + 1) := by simp [markH, moreH_len]; omega
theorem marksH_len (H : List Bool) (k i : Nat) : (marksH H k i).length ≤ max H.length (k + i) := by
  induction i with
  | zero => simp [marksH]; omega
  | succ i ih => rw [marksH, markH_len]; omega
end Go.Proofs.YtnbanflnepbgnaaDoor
/- Nodes: rows of structs as lists of cells; what the law keeps of a table, and how it stands to the table: plain. -/
namespace Go.Proofs.YtnbanflnepbgnaaDoor
open Go

/-! ### a row of structs -/
def rowOf {α : Type} (c : α → List Value) : List α → List Value
  | [] => []
  | a :: l => c a ++ rowOf c l
section
variable {α : Type} {c : α → List Value} {n : Nat}
theorem rowOf_len (hc : ∀ a, (c a).length = n) (l : List α) : (rowOf c l).length = l.length * n := by
  induction l with
  | nil => simp [rowOf]
  | cons a l ih => simp [rowOf, hc, ih, Nat.add_mul]; omega
theorem rowOf_get (hc : ∀ a, (c a).length = n) (l : List α) (i j : Nat) (a : α) (hj : j < n) (hi : l[i]? = some a) : (rowOf c l)[i * n + j]? = (c a)[j]? := by
  induction l generalizing i with
  | nil => cases hi
  | cons b l ih =>
    cases i with
    | zero =>
      simp at hi
      subst hi
      simp only [rowOf, Nat.zero_mul, Nat.zero_add]
      rw [List.getElem?_append_left (by rw [hc]; exact hj)]
    | succ i =>
      simp at hi
      simp only [rowOf]
      rw [List.getElem?_append_right (by rw [hc, Nat.add_mul]; omega), hc, show (i + 1) * n + j - n = i * n + j by rw [Nat.add_mul]; omega]
      exact ih i hi
theorem rowOf_append (l l' : List α) : rowOf c (l ++ l') = rowOf c l ++ rowOf c l' := by
  induction l with
  | nil => rfl
  | cons a l ih => simp [rowOf, ih]
theorem rowOf_set (hc : ∀ a, (c a).length = n) (l : List α) (i j : Nat) (a a' : α) (v : Value) (hj : j < n) (hi : l[i]? = some a) (ha : c a' = (c a).set j v) : (rowOf c l).set (i * n + j) v = rowOf c (l.set i a') := by
  induction l generalizing i with
  | nil => cases hi
  | cons b l ih =>
    cases i with
    | zero =>
      simp at hi
      subst hi
      simp only [rowOf, List.set_cons_zero, Nat.zero_mul, Nat.zero_add, ha]
      rw [List.set_append_left _ _ (by rw [hc]; exact hj)]
    | succ i =>
      simp at hi
      simp only [rowOf, List.set_cons_succ]
      rw [List.set_append_right _ _ (by rw [hc, Nat.add_mul]; omega), hc, show (i + 1) * n + j - n = i * n + j by rw [Nat.add_mul]; omega, ih i hi]
theorem rowOf_take (hc : ∀ a, (c a).length = n) (l : List α) (k : Nat) : rowOf c (l.take k) = (rowOf c l).take (k * n) := by
  induction l generalizing k with
  | nil => simp [rowOf]
  | cons a l ih =>
    cases k with
    | zero => simp [rowOf]
    | succ k =>
      simp only [List.take_succ_cons, rowOf, ih]
      rw [List.take_append, hc, List.take_of_length_le (l := c a) (by rw [hc, Nat.add_mul]; omega), show (k + 1) * n - n = k * n by rw [Nat.add_mul]; omega]
theorem rowOf_drop (hc : ∀ a, (c a).length = n) (l : List α) (k : Nat) : rowOf c (l.drop k) = (rowOf c l).drop (k * n) := by
  induction l generalizing k with
  | nil => simp [rowOf]
  | cons a l ih =>
    cases k with
    | zero => simp [rowOf]
    | succ k =>
      simp only [List.drop_succ_cons, rowOf, ih]
      rw [List.drop_append, hc, List.drop_eq_nil_of_le (as := c a) (by rw [hc, Nat.add_mul]; omega), show (k + 1) * n - n = k * n by rw [Nat.add_mul]; omega]
      rfl
theorem rowOf_one {p : Value → Prop} (h : ∀ a, ∀ v ∈ c a, p v) (l : List α) : ∀ v ∈ rowOf c l, p v := by
  induction l with
  | nil => intro v hv; cases hv
  | cons a l ih =>
    intro v hv
    rcases List.mem_append.1 hv with hv | hv
    · exact h a v hv
    · exact ih v hv
end

/-! ### what the law keeps -/
structure Spot where
  N : Int
  G : Int
  K : Int
  Z : Int
  L : Int
  C : Int
  UN : Int
  UG : Int
  F : Int
def Spot.cells (s : Spot) : List Value := [.int .i64 s.N, .int .i64 s.G, .int .i64 s.K, .int .i64 s.Z, .int .i64 s.L, .int .i64 s.C, .int .i64 s.UN, .int .i64 s.UG, .int .i64 s.F]
theorem Spot.cells_len (s : Spot) : s.cells.length = 9 := rfl
theorem Spot.cells_one (s : Spot) : ∀ v ∈ s.cells, v.oneCell' = true := by
  intro v hv
  simp [Spot.cells] at hv
  rcases hv with rfl | rfl | rfl | rfl | rfl | rfl | rfl | rfl | rfl <;> rfl
/-- A node of the program's: where it lies, what is told of it, what it holds. -/
structure Nod where
  b : Nat
  K : Int
  Z : Int
  L : Int
  C : Int
  UN : Int
  UG : Int
  S : ByteArray
  H : List Bool
  m : Option Nat
def setN {α : Type} (f : Nat → α) (i : Nat) (v : α) : Nat → α := fun j => if j = i then v else f j
theorem setN_same {α : Type} (f : Nat → α) (i : Nat) (v : α) : setN f i v i = v := if_pos rfl
theorem setN_other {α : Type} (f : Nat → α) {i j : Nat} (v : α) (h : j ≠ i) : setN f i v j = f j := if_neg h
/-- A spot stands for a node. -/
structure Fits (s : Spot) (n : Nod) (c : Nat) : Prop where
  kind : s.K = 1 ∨ s.K = 2
  K : n.K = s.K
  L : n.L = s.L
  C : n.C = s.C
  UN : n.UN = s.UN
  UG : n.UG = s.UG
  dir : s.K = 2 → n.Z = s.Z
  file : s.K = 1 → s.F = (n.S.size : Int)
  F0 : 0 ≤ s.F
  F1 : s.F ≤ 2 * c
  C0 : 0 ≤ s.C
  C1 : s.C ≤ c
theorem Fits.mono {s : Spot} {n : Nod} {c c' : Nat} (h : Fits s n c) (hc : c ≤ c') : Fits s n c' := ⟨h.kind, h.K, h.L, h.C, h.UN, h.UG, h.dir, h.file, h.F0, by have := h.F1; omega, h.C0, by have := h.C1; omega⟩
/-- The table beside what the law keeps of it, behind c acts. -/
structure Agree (most : Nat) (g t : Nat → Nat) (nd : Nat → Option Nod) (l : List Spot) (c : Nat) : Prop where
  each : ∀ s, s ∈ l → ∃ i n, i < most ∧ s.N = (i : Int) ∧ s.G = (g i : Int) ∧ nd i = some n ∧ Fits s n c
  all : ∀ i n, i < most → nd i = some n → ∃ s, s ∈ l ∧ s.N = (i : Int)
  once : (l.map (·.N)).Nodup
  times : ∀ i, i < most → t i = g i + if (nd i).isSome then 1 else 0
  small : ∀ i, i < most → t i ≤ c
  len : l.length ≤ c
theorem Agree.start (most : Nat) : Agree most (fun _ => 0) (fun _ => 0) (fun _ => none) [] 0 :=
  ⟨(fun _ h => by cases h), (fun i n hi h => by cases h), List.nodup_nil, fun _ _ => rfl, fun _ _ => Nat.le_refl _, Nat.le_refl _⟩
theorem Agree.mono {most : Nat} {g t : Nat → Nat} {nd : Nat → Option Nod} {l : List Spot} {c c' : Nat} (h : Agree most g t nd l c) (hc : c ≤ c') : Agree most g t nd l c' :=
  ⟨fun s hs => by
    obtain ⟨i, n, h1, h2, h3, h4, h5⟩ := h.each s hs
    exact ⟨i, n, h1, h2, h3, h4, h5.mono hc⟩, h.all, h.once, h.times, fun i hi => Nat.le_trans (h.small i hi) hc, Nat.le_trans h.len hc⟩
/-- Two spots of one number are one. -/
theorem nodup_at {l : List Spot} (h : (l.map (·.N)).Nodup) {i j : Nat} {a b : Spot} (hi : l[i]? = some a) (hj : l[j]? = some b) (e : a.N = b.N) : i = j := by
  have hil : i < l.length := (List.getElem?_eq_some_iff.1 hi).1
  have hjl : j < l.length := (List.getElem?_eq_some_iff.1 hj).1
  have := List.getElem_inj (xs := l.map (·.N)) (i := i) (j := j) (h₀ := by simpa using hil) (h₁ := by simpa using hjl) h
  apply this.1
  have ha := (List.getElem?_eq_some_iff.1 hi).2
  have hb := (List.getElem?_eq_some_iff.1 hj).2
  simp [ha, hb, e]
section
variable {most : Nat} {g t : Nat → Nat} {nd : Nat → Option Nod} {l : List Spot} {c : Nat}
/-- How many are there. -/
theorem Agree.count (h : Agree most g t nd l c) : ((List.range most).filter (fun i => (nd i).isSome)).length = l.length := by
  have hp : (((List.range most).filter (fun i => (nd i).isSome)).map (fun i : Nat => (i : Int))).Perm (l.map (·.N)) := by
    rw [List.perm_ext_iff_of_nodup ?_ h.once]
    · intro z
      constructor
      · intro hz
        obtain ⟨i, hi, rfl⟩ := List.mem_map.1 hz
        obtain ⟨h1, h2⟩ := List.mem_filter.1 hi
        obtain ⟨n, hn⟩ := Option.isSome_iff_exists.1 h2
        obtain ⟨s, hs, e⟩ := h.all i n (List.mem_range.1 h1) hn
        exact List.mem_map.2 ⟨s, hs, e⟩
      · intro hz
        obtain ⟨s, hs, rfl⟩ := List.mem_map.1 hz
        obtain ⟨i, n, h1, h2, _, h4, _⟩ := h.each s hs
        exact List.mem_map.2 ⟨i, List.mem_filter.2 ⟨List.mem_range.2 h1, by rw [h4]; rfl⟩, h2.symm⟩
    · exact ((List.nodup_range).filter _).map _ (fun a b hab hne => hab (Int.ofNat.inj hne))
  simpa using hp.length_eq
theorem Agree.used (h : Agree most g t nd l c) {i : Nat} (hi : i < most) : (∃ s, s ∈ l ∧ s.N = (i : Int)) ↔ (nd i).isSome = true := by
  constructor
  · rintro ⟨s, hs, e⟩
    obtain ⟨j, n, _, h2, _, h4, _⟩ := h.each s hs
    have : i = j := by omega
    subst this
    rw [h4]; rfl
  · intro hs
    obtain ⟨n, hn⟩ := Option.isSome_iff_exists.1 hs
    exact h.all i n hi hn
/-- A handle that the law doesn't know stands for nothing. -/
theorem Agree.stale (h : Agree most g t nd l c) {N G : Int} (hn : ∀ s, s ∈ l → ¬ (s.N = N ∧ s.G = G)) : ∀ i n, i < most → N = (i : Int) → nd i = some n → G ≠ (g i : Int) := by
  intro i n hi e hnd hG
  obtain ⟨s, hs, e2⟩ := h.all i n hi hnd
  obtain ⟨j, n', _, h2, h3, h4, _⟩ := h.each s hs
  have : i = j := by omega
  subst this
  exact hn s hs ⟨e2.trans e.symm, h3.trans hG.symm⟩
/-- One that it knows. -/
theorem Agree.known (h : Agree most g t nd l c) {k : Nat} {s : Spot} (hk : l[k]? = some s) : ∃ i n, i < most ∧ s.N = (i : Int) ∧ s.G = (g i : Int) ∧ nd i = some n ∧ Fits s n c :=
  h.each s (List.mem_of_getElem? hk)
/-- A node is added. -/
theorem Agree.add (h : Agree most g t nd l c) {i : Nat} (hi : i < most) (hfree : nd i = none) {n : Nod} {K : Int} (hK : K = 1 ∨ K = 2) (hn : n.K = K ∧ n.Z = 0 ∧ n.L = 0 ∧ n.C = 0 ∧ n.UN = 0 ∧ n.UG = 0 ∧ n.S.size = 0) :
    Agree most g (setN t i (t i + 1)) (setN nd i (some n)) (l ++ [⟨i, t i, K, 0, 0, 0, 0, 0, 0⟩]) (c + 1) := by
  obtain ⟨n1, n2, n3, n4, n5, n6, n7⟩ := hn
  have ht : t i = g i := by rw [h.times i hi, hfree]; simp
  have hno : ∀ s, s ∈ l → s.N ≠ (i : Int) := fun s hs e => by
    have := (h.used hi).1 ⟨s, hs, e⟩
    rw [hfree] at this
    cases this
  refine ⟨fun s hs => ?_, fun j m hj hm => ?_, ?_, fun j hj => ?_, fun j hj => ?_, ?_⟩
  · rcases List.mem_append.1 hs with hs | hs
    · obtain ⟨j, m, h1, h2, h3, h4, h5⟩ := h.each s hs
      refine ⟨j, m, h1, h2, h3, ?_, h5.mono (Nat.le_succ _)⟩
      rw [setN_other _ _ (fun e => hno s hs (by rw [h2, e]))]
      exact h4
    · simp at hs
      subst hs
      refine ⟨i, n, hi, rfl, by simp [ht], setN_same _ _ _, hK, n1, n3, n4, n5, n6, fun _ => n2, fun _ => by simp [n7], Int.le_refl _, by show (0 : Int) ≤ _; omega, Int.le_refl _, by show (0 : Int) ≤ _; omega⟩
  · by_cases e : j = i
    · subst e
      exact ⟨_, List.mem_append.2 (Or.inr (List.mem_singleton.2 rfl)), rfl⟩
    · rw [setN_other _ _ e] at hm
      obtain ⟨s, hs, e2⟩ := h.all j m hj hm
      exact ⟨s, List.mem_append.2 (Or.inl hs), e2⟩
  · rw [List.map_append, List.nodup_append]
    refine ⟨h.once, by simp, fun a ha b hb => ?_⟩
    simp at hb
    subst hb
    obtain ⟨s, hs, rfl⟩ := List.mem_map.1 ha
    exact hno s hs
  · by_cases e : j = i
    · subst e
      rw [setN_same, setN_same]
      simp [ht]
    · rw [setN_other _ _ e, setN_other _ _ e]
      exact h.times j hj
  · by_cases e : j = i
    · subst e
      rw [setN_same]
      have := h.small j hj
      omega
    · rw [setN_other _ _ e]
      have := h.small j hj
      omega
  · simp
    exact h.len
/-- A node is changed. -/
theorem Agree.turn (h : Agree most g t nd l c) {k i : Nat} {s s' : Spot} {n n' : Nod} (hk : l[k]? = some s) (hN : s.N = (i : Int)) (hnd : nd i = some n) (hs : s'.N = s.N ∧ s'.G = s.G) (hf : Fits s' n' (c + 1)) :
    Agree most g t (setN nd i (some n')) (l.set k s') (c + 1) := by
  have hkl : k < l.length := (List.getElem?_eq_some_iff.1 hk).1
  obtain ⟨i', n0, hi, e1, e2, e3, _⟩ := h.known hk
  have : i' = i := by omega
  subst this
  have hmap : (l.set k s').map (·.N) = l.map (·.N) := by
    rw [List.map_set, hs.1]
    apply List.ext_getElem?
    intro j
    rw [List.getElem?_set]
    split
    · rename_i e
      subst e
      rw [if_pos (by simpa using hkl), List.getElem?_map, hk]
      rfl
    · rfl
  refine ⟨fun x hx => ?_, fun j m hj hm => ?_, by rw [hmap]; exact h.once, fun j hj => ?_, fun j hj => by have := h.small j hj; omega, by simp; have := h.len; omega⟩
  · obtain ⟨j, hj⟩ := List.mem_iff_getElem?.1 hx
    rw [List.getElem?_set] at hj
    split at hj
    · cases hj
      exact ⟨i', n', hi, by rw [hs.1, e1], by rw [hs.2, e2], setN_same _ _ _, hf⟩
    · rename_i hne
      obtain ⟨q, m, h1, h2, h3, h4, h5⟩ := h.known hj
      refine ⟨q, m, h1, h2, h3, ?_, h5.mono (Nat.le_succ _)⟩
      rw [setN_other _ _ (fun e => hne (nodup_at h.once hk hj (by rw [hN, h2, e])))]
      exact h4
  · have hlift : ∀ x, x ∈ l → x.N = (j : Int) → ∃ y, y ∈ l.set k s' ∧ y.N = (j : Int) := fun x hx e => by
      have : (j : Int) ∈ (l.set k s').map (·.N) := by rw [hmap, ← e]; exact List.mem_map.2 ⟨x, hx, rfl⟩
      obtain ⟨y, hy, e⟩ := List.mem_map.1 this
      exact ⟨y, hy, e⟩
    by_cases e : j = i'
    · subst e
      obtain ⟨x, hx, e⟩ := h.all j n hi hnd
      exact hlift x hx e
    · rw [setN_other _ _ e] at hm
      obtain ⟨x, hx, e⟩ := h.all j m hj hm
      exact hlift x hx e
  · by_cases e : j = i'
    · subst e
      rw [setN_same, h.times j hj, hnd]
      rfl
    · rw [setN_other _ _ e]
      exact h.times j hj
/-- A node goes. -/
theorem Agree.free (h : Agree most g t nd l c) {k i : Nat} {s : Spot} {n : Nod} (hk : l[k]? = some s) (hN : s.N = (i : Int)) (hnd : nd i = some n) :
    Agree most (setN g i (g i + 1)) t (setN nd i none) (l.take k ++ l.drop (k + 1)) (c + 1) := by
  have hkl : k < l.length := (List.getElem?_eq_some_iff.1 hk).1
  obtain ⟨i', n0, hi, e1, e2, e3, _⟩ := h.known hk
  have : i' = i := by omega
  subst this
  have hsplit : l = l.take k ++ s :: l.drop (k + 1) := by
    have h1 : l.drop k = s :: l.drop (k + 1) := by
      rw [List.drop_eq_getElem_cons hkl]
      congr 1
      exact (List.getElem?_eq_some_iff.1 hk).2
    rw [← h1, List.take_append_drop]
  have honce := h.once
  have hmem : ∀ x, x ∈ l.take k ++ l.drop (k + 1) → x ∈ l ∧ x.N ≠ (i' : Int) := by
    intro x hx
    rw [hsplit, List.map_append, List.map_cons, List.nodup_append, List.nodup_cons] at honce
    obtain ⟨_, ⟨hb, _⟩, hab⟩ := honce
    rcases List.mem_append.1 hx with hx | hx
    · refine ⟨List.mem_of_mem_take hx, fun e => ?_⟩
      exact hab x.N (List.mem_map.2 ⟨x, hx, rfl⟩) s.N (List.mem_cons_self ..) (by rw [e, hN])
    · refine ⟨List.mem_of_mem_drop hx, fun e => ?_⟩
      exact hb (List.mem_map.2 ⟨x, hx, by rw [e, hN]⟩)
  refine ⟨fun x hx => ?_, fun j m hj hm => ?_, ?_, fun j hj => ?_, fun j hj => by have := h.small j hj; omega, ?_⟩
  · obtain ⟨hx1, hx2⟩ := hmem x hx
    obtain ⟨j, m, h1, h2, h3, h4, h5⟩ := h.each x hx1
    have hne : j ≠ i' := fun e => hx2 (by rw [h2, e])
    exact ⟨j, m, h1, h2, by rw [setN_other _ _ hne]; exact h3, by rw [setN_other _ _ hne]; exact h4, h5.mono (Nat.le_succ _)⟩
  · by_cases e : j = i'
    · subst e
      rw [setN_same] at hm
      cases hm
    · rw [setN_other _ _ e] at hm
      obtain ⟨x, hx, ex⟩ := h.all j m hj hm
      refine ⟨x, ?_, ex⟩
      rw [hsplit] at hx
      rcases List.mem_append.1 hx with hx | hx
      · exact List.mem_append.2 (Or.inl hx)
      · rcases List.mem_cons.1 hx with rfl | hx
        · exact absurd (ex.symm.trans hN) (by omega)
        · exact List.mem_append.2 (Or.inr hx)
  · rw [hsplit, List.map_append, List.map_cons, List.nodup_append, List.nodup_cons] at honce
    rw [List.map_append, List.nodup_append]
    obtain ⟨h1, ⟨_, h2⟩, h3⟩ := honce
    exact ⟨h1, h2, fun a ha b hb => h3 a ha b (List.mem_cons_of_mem _ hb)⟩
  · by_cases e : j = i'
    · subst e
      rw [setN_same, setN_same, h.times j hj, hnd]
      simp
    · rw [setN_other _ _ e, setN_other _ _ e]
      exact h.times j hj
  · have := h.len
    simp
    omega
end
end Go.Proofs.YtnbanflnepbgnaaDoor
/- The writer's small functions: their contracts. -/
namespace Go.Proofs.YtnbanflnepbgnaaDoor
open Go Go.RowKit Go.Deep

theorem Tryd.info5 : (Tryd.prog.info? 5).map (fun i => (i.zero, i.size, i.bytes)) = some (some (.int .u8 0), 1, 1) := by kernel_rfl

/-- Byte number x (of k) of n, the highest first. -/
def dig (n k x : Nat) : Int := ((n / 256 ^ (k - 1 - x) % 256 : Nat) : Int)

theorem dig_at (n k j : Nat) (h : j < k) : (n : Int) / 2 ^ (8 * j) % 256 = dig n k (k - 1 - j) := by
  unfold dig
  have e : k - 1 - (k - 1 - j) = j := by omega
  rw [e, show (256 : Nat) ^ j = 2 ^ (8 * j) by rw [Nat.pow_mul]]
  simp
theorem dig_be (n k x : Nat) (h : x < (be k n).length) : dig n k x = (((be k n)[x].toNat : Nat) : Int) := by
  rw [be_get]; rfl

theorem addr_head (b x : Nat) : (⟨b, 0, none⟩ : Addr).add x = ⟨b, x, none⟩ := by
  by_cases h : x = 0 <;> simp [Addr.add, h]

/-- What a round does to the row of bytes. -/
theorem row_step {wr : World} {b k j n : Nat} {t : TypeId} (hlt : j < k) (h : wr.rowIs b t k (fun x => if x + j < k then .int .u8 0 else .int .u8 (dig n k x))) :
    (wr.setCell ⟨b, k - 1 - j, none⟩ (.int .u8 ((n : Int) / 2 ^ (8 * j) % 256))).rowIs b t k (fun x => if x + (j + 1) < k then .int .u8 0 else .int .u8 (dig n k x)) := by
  refine (h.set (k - 1 - j) _).congr fun i hi => ?_
  show (if i = k - 1 - j then _ else if i + j < k then _ else _) = (if i + (j + 1) < k then _ else _)
  by_cases e : i = k - 1 - j
  · subst e
    rw [if_pos rfl, if_neg (by omega), dig_at n k j hlt]
  · rw [if_neg e]
    by_cases e2 : i + (j + 1) < k
    · rw [if_pos e2, if_pos (by omega)]
    · rw [if_neg e2, if_neg (by omega)]

end Go.Proofs.YtnbanflnepbgnaaDoor
