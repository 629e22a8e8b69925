/- Package names: Match by its contract: it goes with the pattern where the document says so. -/
import Derived.Test.YtnhpgpjopogbiabDoorK3
import Derived.Test.YtnhpgpjopogbiabDoorShelf
import Derived.Lib.TrimByte
namespace Go.Proofs.YtnhpgpjopogbiabDoor
open Go Go.RowKit Go.Deep

/-- A sign that is no star stands for a byte. -/
def fits (x y : Nat) : Bool := decide (x = 63 ∨ y = x)
theorem fits_yes {x y : Nat} (h : x = 63 ∨ y = x) : fits x y = true := decide_eq_true h
theorem fits_no {x y : Nat} (h : ¬ (x = 63 ∨ y = x)) : fits x y = false := decide_eq_false h
theorem stands_any (x y : Nat) (w : World) : Calls Tryd.prog 11 #[.int .u8 x, .int .u8 y] w fun e w' => e = .returned (.bool (fits x y)) ∧ w = w' := by
  by_cases h : x = 63
  · have h1 : ((x : Int) == 63) = true := by rw [beq_iff_eq]; omega
    rw [fits_yes (Or.inl h)]
    clear h
    go_enter Tryd.func11, Tryd.ntmps11
    go_wp2
    go_ret
    exact ⟨rfl, rfl⟩
  · have h1 : ((x : Int) == 63) = false := by rw [beq_eq_false_iff_ne]; omega
    by_cases h' : y = x
    · have h2 : ((x : Int) == (y : Int)) = true := by rw [beq_iff_eq]; omega
      rw [fits_yes (Or.inr h')]
      clear h h'
      go_enter Tryd.func11, Tryd.ntmps11
      go_wp2
      go_ret
      exact ⟨rfl, rfl⟩
    · have h2 : ((x : Int) == (y : Int)) = false := by rw [beq_eq_false_iff_ne]; omega
      rw [fits_no (fun k => k.elim h h')]
      clear h h'
      go_enter Tryd.func11, Tryd.ntmps11
      go_wp2
      go_ret
      exact ⟨rfl, rfl⟩

/-! ### what is left of the pattern: stars alone? -/
theorem trim_nil (l : List UInt8) : Lib.trimB l 42 = [] ↔ ∀ x ∈ l, x = 42 := by
  have key : ∀ m : List UInt8, m.dropWhile (· == (42 : UInt8)) = [] ↔ ∀ x ∈ m, x = 42 := by
    intro m
    induction m with
    | nil => simp
    | cons c m ih =>
      by_cases h : c = 42
      · subst h
        rw [List.dropWhile_cons_of_pos (by rfl), ih]
        simp
      · rw [List.dropWhile_cons_of_neg (by simpa using h)]
        simp [h]
  have head : ∀ m : List UInt8, (∀ x ∈ m.dropWhile (· == (42 : UInt8)), x = 42) → m.dropWhile (· == (42 : UInt8)) = [] := by
    intro m
    induction m with
    | nil => simp
    | cons c m ih =>
      by_cases h : c = 42
      · subst h
        rw [List.dropWhile_cons_of_pos (by rfl)]
        exact ih
      · rw [List.dropWhile_cons_of_neg (by simpa using h)]
        intro k
        exact absurd (k c (List.mem_cons_self ..)) h
  unfold Lib.trimB Lib.trimLeftB Lib.trimRightB
  rw [key]
  constructor
  · intro h x hx
    have h2 := head l.reverse fun y hy => h y (List.mem_reverse.2 hy)
    exact (key l.reverse).1 h2 x (List.mem_reverse.2 hx)
  · intro h x hx
    have h2 := (key l.reverse).2 fun y hy => h y (List.mem_reverse.1 hy)
    rw [h2] at hx
    cases hx
theorem stars_left (P : ByteArray) (p : Nat) : (∀ x ∈ (P.extract p P.size).data.toList, x = 42) ↔ ∀ j, p ≤ j → j < P.size → byteAt P j = 42 := by
  rw [Lib.extract_to_end]
  constructor
  · intro h j h1 h2
    have hl : j < P.data.toList.length := h2
    have : P.data.toList[j] = 42 := h _ (List.mem_iff_getElem.2 ⟨j - p, by rw [List.length_drop]; omega, by rw [List.getElem_drop]; congr 1; omega⟩)
    unfold byteAt
    rw [List.getD_eq_getElem?_getD, List.getElem?_eq_getElem hl, this]
    rfl
  · intro h x hx
    obtain ⟨i, hi, rfl⟩ := List.mem_iff_getElem.1 hx
    rw [List.length_drop] at hi
    have hl : p + i < P.data.toList.length := by omega
    have := h (p + i) (by omega) hl
    unfold byteAt at this
    rw [List.getD_eq_getElem?_getD, List.getElem?_eq_getElem hl] at this
    rw [List.getElem_drop]
    exact UInt8.toNat_inj.1 this
theorem trim_stars (P : ByteArray) (p : Nat) (w : World) (hP : P.size ≤ 1000000) (h : ∀ j, p ≤ j → j < P.size → byteAt P j = 42) :
    Calls Tryd.prog 12 #[.string (P.extract p P.size), .string ⟨#[42]⟩] w fun e w' => e = .returned (.string ⟨#[]⟩) ∧ Below w.heap.size w w' := by
  refine (Tryd.strings_Trim_one (P.extract p P.size) 42 (by decide) w (by rw [ByteArray.size_extract]; omega)).mono fun e w' ⟨he, hw⟩ => ⟨?_, ?_⟩
  · rw [he, (trim_nil _).2 ((stars_left P p).2 h)]
  · rcases hw with rfl | rfl
    · exact Below.refl _ _
    · exact (Below.refl _ _).drew
theorem trim_more (P : ByteArray) (p : Nat) (w : World) (hP : P.size ≤ 1000000) (h : ¬ ∀ j, p ≤ j → j < P.size → byteAt P j = 42) :
    Calls Tryd.prog 12 #[.string (P.extract p P.size), .string ⟨#[42]⟩] w fun e w' => ∃ t : ByteArray, (t.toList == []) = false ∧ e = .returned (.string t) ∧ Below w.heap.size w w' := by
  refine (Tryd.strings_Trim_one (P.extract p P.size) 42 (by decide) w (by rw [ByteArray.size_extract]; omega)).mono fun e w' ⟨he, hw⟩ => ⟨_, ?_, he, ?_⟩
  · rw [Lib.toList_data, beq_eq_false_iff_ne]
    intro k
    exact h ((stars_left P p).1 ((trim_nil _).1 (by simpa using k)))
  · rcases hw with rfl | rfl
    · exact Below.refl _ _
    · exact (Below.refl _ _).drew
end Go.Proofs.YtnhpgpjopogbiabDoor
