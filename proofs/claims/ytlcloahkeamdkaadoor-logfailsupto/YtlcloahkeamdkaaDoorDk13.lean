/- A disk: the laws' closed fact; a list of acts that came in, and whether it is too long. -/
import Derived.Test.YtlcloahkeamdkaaDoorDk12
import Derived.BigQuiet
namespace Go.Proofs.YtlcloahkeamdkaaDoor
open Go Go.RowKit Go.Deep

/-- Acts in memory. -/
structure AcIn (w : World) (b o : Nat) (x : Ac) : Prop where
  k : w.cell? ⟨b, o, none⟩ = some (.string x.K)
  n : w.cell? ⟨b, o + 1, none⟩ = some (.int .i64 x.N)
  s : w.cell? ⟨b, o + 2, none⟩ = some (.string x.S)
  p : w.cell? ⟨b, o + 3, none⟩ = some (.slice x.ka x.B.length x.kc)
  keep : AcKeep w x
  ss : x.S.size ≤ 1048576
  bl : x.B.length ≤ 1048576
  top : x.N < 9223372036854775808
def ActsIn (w : World) (ad : Option Addr) (L : List Ac) : Prop := ∀ i x, L[i]? = some x → ∃ b o, ad = some ⟨b, o, none⟩ ∧ b < w.heap.size ∧ AcIn w b (o + i * 4) x
theorem AcKeep.below {w w' : World} {x : Ac} (h : AcKeep w x) (hb : Below w.heap.size w w') : AcKeep w' x := by
  rcases h with h | ⟨ad, e, h⟩
  · exact Or.inl h
  · exact Or.inr ⟨ad, e, fun j v hv => (hb.cell (p := ad.add j) (lt_of_cell (h j v hv))).trans (h j v hv)⟩
theorem ActsIn.below {w w' : World} {ad : Option Addr} {L : List Ac} (h : ActsIn w ad L) (hb : Below w.heap.size w w') : ActsIn w' ad L := fun i x hx => by
  obtain ⟨b, o, e, hl, h⟩ := h i x hx
  exact ⟨b, o, e, Nat.lt_of_lt_of_le hl hb.size, (hb.cell (p := ⟨b, _, none⟩) hl).trans h.k, (hb.cell (p := ⟨b, _, none⟩) hl).trans h.n, (hb.cell (p := ⟨b, _, none⟩) hl).trans h.s, (hb.cell (p := ⟨b, _, none⟩) hl).trans h.p, h.keep.below hb, h.ss, h.bl, h.top⟩
def bulkN (L : List Ac) : Nat := L.foldl (fun n x => n + 1 + x.S.size / 20 + x.B.length / 20) 0
theorem bulkN_snoc (L : List Ac) (x : Ac) : bulkN (L ++ [x]) = bulkN L + 1 + x.S.size / 20 + x.B.length / 20 := by simp [bulkN]
theorem bulkN_ge (L : List Ac) : ∀ j, j ≤ L.length → j ≤ bulkN (L.take j)
  | 0, _ => Nat.zero_le _
  | j + 1, h => by
    have := bulkN_ge L j (by omega)
    rw [List.take_add_one, List.getElem?_eq_getElem (by omega)]
    show j + 1 ≤ bulkN (L.take j ++ [L[j]])
    rw [bulkN_snoc]
    omega
theorem drewsD {L : List Nat} {a w : World} (h : Only L a w) (n : Nat) : Only L a (w.drewN n) := ⟨h.os, h.tape, h.output, h.size, h.block⟩
set_option maxRecDepth 100000 in
set_option maxHeartbeats 2000000 in
theorem bulky_any (w : World) (ad : Option Addr) (cap : Nat) (L : List Ac) (h : ActsIn w ad L) (hL : L.length ≤ 1048576) : Calls Tryd.prog 18 #[.slice ad L.length cap] w fun e w' => e = .returned (.bool (decide ((200 : Int) < (bulkN L : Nat)))) ∧ Only [] w w' := by
  obtain ⟨len, hlen⟩ : ∃ len, L.length = len := ⟨_, rfl⟩
  rw [hlen] at hL ⊢
  have HL : Hid (ActsIn w ad L ∧ L.length = len) := ⟨h, hlen⟩
  clear h hlen
  go_enter Tryd.func18, Tryd.ntmps18
  go_wp2
  go_loopw [3, 4] (fun n i wr => ∃ (z : Int) (j : Nat), n = .int .i64 z ∧ i = .int .i64 (j : Nat) ∧ j ≤ len ∧ z = (bulkN (L.take j) : Nat) ∧ 0 ≤ z ∧ z ≤ j * 300000 ∧ Only [] w wr) (fun _ i _ => len - (intOf i).toNat)
  case atStart => exact ⟨0, 0, rfl, rfl, Nat.zero_le _, rfl, by omega, by omega, Only.refl _ _⟩
  case round =>
    obtain ⟨z, j, rfl, rfl, hj, hz0, hz1, hz2, ho⟩ := hrel
    have HZ : Hid (z = (bulkN (L.take j) : Nat)) := hz0
    clear hz0
    by_cases hlt : j < len
    · have hl : decide ((j : Int) < (len : Int)) = true := decide_eq_true (by omega)
      obtain ⟨x, hx⟩ : ∃ x, L[j]? = some x := ⟨L[j]'(by have := HL.out.2; omega), List.getElem?_eq_getElem _⟩
      have hA := HL.out.1.below (ho.to_below (Nat.le_refl _) (fun _ h => by cases h))
      obtain ⟨b, o, rfl, hb, hI⟩ := hA j x hx
      have c2 := hI.s
      have c3 := hI.p
      have hs := hI.ss
      have hbl := hI.bl
      have b1 : (j : Int) < (len : Int) := by omega
      have HO : Hid (Only [] w wr) := ho
      have HX : Hid (L[j]? = some x) := hx
      clear hA hI hx ho
      go_wp2
      go_quiet (fail)
      go_wp2
      go_roundw
      case rel =>
        refine ⟨_, j + 1, rfl, by go_num, by omega, ?_, by omega, by omega, drewsD HO.out nq⟩
        rw [List.take_add_one, HX.out]
        show _ = ((bulkN (L.take j ++ [x]) : Nat) : Int)
        rw [bulkN_snoc, HZ.out]
        omega
      case measure => simp [intOf]; omega
    · obtain rfl : len = j := by omega
      have hl : decide ((len : Int) < (len : Int)) = false := decide_eq_false (by omega)
      have HO : Hid (Only [] w wr) := ho
      clear ho
      go_wp2
      go_ret
      refine ⟨?_, HO.out⟩
      have e := HZ.out
      rw [List.take_of_length_le (by have := HL.out.2; omega)] at e
      rw [← e]
      rfl
end Go.Proofs.YtlcloahkeamdkaaDoor
