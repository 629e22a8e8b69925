/- A log: what records weigh, the text of a block. -/
import Derived.Test.YtlcloahkeamdkaaDoorLg6
import Derived.Test.YtlcloahkeamdkaaDoorLb1
namespace Go.Proofs.YtlcloahkeamdkaaDoor
open Go Go.RowKit Go.Deep

/-- Texts that lie in memory, read alone. -/
def TxIn (w : World) (ad : Option Addr) (L : List (List UInt8)) : Prop := ∀ j s, L[j]? = some s → ∃ b o, ad = some ⟨b, o, none⟩ ∧ b < w.heap.size ∧ w.cell? ⟨b, o + j, none⟩ = some (txv s)
theorem TxIn.only {w w' : World} {ad : Option Addr} {L : List (List UInt8)} (h : TxIn w ad L) (ho : Only [] w w') : TxIn w' ad L := fun j s hs => by
  obtain ⟨b, o, e, hb, hc⟩ := h j s hs
  exact ⟨b, o, e, Nat.lt_of_lt_of_le hb ho.size, (ho.cell (p := ⟨b, o + j, none⟩) hb (by simp)).trans hc⟩
theorem own_texts {w : World} {base : Nat} {v : Value} {L : List (List UInt8)} {n : Nat} (h : w.ownsRow base 9 1 v n (L.map txv)) (hn : n = L.length) : ∃ ad cap, v = .slice ad L.length cap ∧ TxIn w ad L := by
  subst hn
  rcases h.2 with ⟨rfl, hz⟩ | ⟨g, cap, cur, rfl, hb, hg, _⟩
  · obtain rfl := List.length_eq_zero_iff.1 hz
    exact ⟨none, 0, rfl, fun j s hs => by cases hs⟩
  · refine ⟨_, cap, rfl, fun j s hs => ⟨g, 0, rfl, (Array.getElem?_eq_some_iff.1 hg).1, ?_⟩⟩
    have hj := (List.getElem?_eq_some_iff.1 hs).1
    have := World.ownsRow.cellAt h j (by omega)
    rw [Nat.zero_add, this]
    simp [hs]
theorem wgt_snoc (L : List (List UInt8)) (s : List UInt8) : wgt (L ++ [s]) = wgt L + (16 + s.length) := by simp [wgt]
theorem wgt_take (L : List (List UInt8)) (j : Nat) : wgt (L.take j) ≤ wgt L := by
  conv => rhs; rw [← List.take_append_drop j L]
  simp only [wgt, List.map_append, List.sum_append]
  omega
theorem take_snoc {α : Type} {L : List α} {j : Nat} {s : α} (h : L[j]? = some s) : L.take (j + 1) = L.take j ++ [s] := by
  rw [List.take_add_one, h]
  rfl
set_option maxHeartbeats 1000000 in
theorem sectorsOf_ok (w : World) (s : ByteArray) (hs : s.size < 4611686018427387904) : Calls Tryd.prog 56 #[.string s] w fun e w' => e = .returned (.int .i64 (secsN s.size : Nat)) ∧ w' = w := by
  unfold secsN
  go_enter Tryd.func56, Tryd.ntmps56
  go_wp2
  go_ret
  have e1 : (((s.size : Int) + 64 - 1) / 64) = (((s.size + 63) / 64 : Nat) : Int) := by omega
  rw [← e1]
  exact ⟨rfl, rfl⟩
set_option maxHeartbeats 2000000 in
set_option maxRecDepth 100000 in
theorem block_ok (w : World) (ad : Option Addr) (cap : Nat) (L : List (List UInt8)) (h : TxIn w ad L) (hL : L.length ≤ 2000000) (hW : wgt L < 1099511627776) :
    Calls Tryd.prog 55 #[.slice ad L.length cap] w fun e w' => e = .returned (.string (bs (blkT L))) ∧ Only [] w w' := by
  have H : Hid (TxIn w ad L) := h
  obtain ⟨len, hlen⟩ : ∃ len, L.length = len := ⟨_, rfl⟩
  have HL : Hid (L.length = len) := hlen
  rw [hlen] at hL ⊢
  have HF : Hid (BuW w (w.alloc (.cells #[.pointer none, .slice none 0 0] 103)) w.heap.size []) := BuW.fresh (Only.refl [] w)
  clear h hlen
  go_enter Tryd.func55, Tryd.ntmps55
  go_upto_region 2 with (fail)
  generalize w.alloc (.cells #[.pointer none, .slice none 0 0] 103) = W0 at HF ⊢
  obtain ⟨b, hb⟩ : ∃ b, w.heap.size = b := ⟨_, rfl⟩
  rw [hb] at HF ⊢
  clear hb
  have HWD : Hid (∀ W l (n : Nat), BuW w W b l → Calls Tryd.prog 42 #[.int .i64 (n : Nat)] W fun e w' => e = .returned (.string (bs (wd n))) ∧ BuW w w' b l) := fun W l n hB => (word_ok W n).mono fun e w' q => ⟨q.1, hB.other q.2⟩
  have HWS : Hid (∀ W l t, BuW w W b l → l.length + t.size ≤ 140737488355328 → Calls Tryd.prog 48 #[.pointer (some ⟨b, 0, none⟩), .string t] W fun e w' => e = .returned (.tuple #[.int .i64 t.size, .nilIface]) ∧ BuW w w' b (l ++ t.data.toList)) := fun W l t hB hl => (bwrite_any w W b l t hB hl).mono fun e w' q => ⟨q.1, q.2.1⟩
  have hwd : ∀ n, (bs (wd n)).size = 4 := fun n => by rw [bs_size, wd_len]
  have HWZ : Hid (∀ n, (bs (wd n)).size = 4) := hwd
  clear hwd
  go_upto_region 4 with (first
    | (go_at_call 42; refine (HWD.out _ _ _ HF.out).mono ?_; rintro e w1 ⟨rfl, h1⟩; have HF1 : Hid (BuW w w1 b []) := h1; clear h1)
    | (go_at_call 48; refine (HWS.out _ _ _ HF1.out (by rw [HWZ.out]; decide)).mono ?_; rintro e w2 ⟨rfl, h2⟩; have HF2 : Hid (BuW w w2 b (wd len)) := (by rw [bs_data] at h2; exact h2); clear h2))
  go_loopw [12] (fun i wr => ∃ j : Nat, i = .int .i64 (j : Nat) ∧ j ≤ len ∧ BuW w wr b (wd len ++ ((L.take j).map recT).flatten)) (fun i _ => len - (intOf i).toNat)
  case atStart => exact ⟨0, rfl, Nat.zero_le _, by simpa using HF2.out⟩
  case round =>
    clear HF HF1 HF2
    obtain ⟨j, rfl, hj, hB⟩ := hrel
    have HB : Hid (BuW w wr b (wd len ++ ((L.take j).map recT).flatten)) := hB
    by_cases hlt : j < len
    · have hl : decide ((j : Int) < (len : Int)) = true := decide_eq_true (by omega)
      obtain ⟨s, hs⟩ : ∃ s, L[j]? = some s := ⟨L[j]'(by have := HL.out; omega), List.getElem?_eq_getElem _⟩
      obtain ⟨g, o, rfl, hg, hc⟩ := (H.out.only hB.only) j s hs
      unfold txv at hc
      have b1 : (j : Int) < (len : Int) := by omega
      have hnx : ((L.take (j + 1)).map recT).flatten = ((L.take j).map recT).flatten ++ (wd s.length ++ s) := by rw [take_snoc hs]; simp [recT]
      have hlen2 : (wd len ++ ((L.take j).map recT).flatten).length + (4 + s.length) ≤ 140737488355328 := by
        have h1 := flat_len (L.take (j + 1))
        have h2 := wgt_take L (j + 1)
        rw [hnx] at h1
        simp only [List.length_append, wd_len] at h1 ⊢
        omega
      have HNX : Hid (((L.take (j + 1)).map recT).flatten = ((L.take j).map recT).flatten ++ (wd s.length ++ s)) := hnx
      have hsz : (bs s).size = s.length := bs_size s
      have HSD : Hid ((bs s).data.toList = s) := bs_data s
      have HL2 : Hid ((wd len ++ ((L.take j).map recT).flatten).length + (4 + s.length) ≤ 140737488355328) := hlen2
      have HL3 : Hid ((wd len ++ ((L.take j).map recT).flatten ++ wd s.length).length + (bs s).size ≤ 140737488355328) := by
        show _ ≤ _
        rw [List.length_append, wd_len, hsz]
        omega
      generalize bs s = x at hc hsz HSD HL3
      clear hB hs hnx hlen2
      go_wp2_with (first
        | (go_at_call 42; refine (HWD.out _ _ s.length HB.out).mono ?_; rintro e w3 ⟨rfl, h1⟩; have HF3 : Hid (BuW w w3 b (wd len ++ ((L.take j).map recT).flatten)) := h1; clear h1)
        | (go_at_call 48; refine (HWS.out w4 _ x HF4.out HL3.out).mono ?_; rintro e w5 ⟨rfl, h2⟩; have HF5 : Hid (BuW w w5 b (wd len ++ ((L.take j).map recT).flatten ++ wd s.length ++ x.data.toList)) := h2; clear h2)
        | (go_at_call 48; refine (HWS.out w3 _ (bs (wd s.length)) HF3.out (by rw [HWZ.out]; have := HL2.out; omega)).mono ?_; rintro e w4 ⟨rfl, h2⟩; have HF4 : Hid (BuW w w4 b (wd len ++ ((L.take j).map recT).flatten ++ wd s.length)) := (by rw [bs_data] at h2; exact h2); clear h2))
      go_roundw
      case rel =>
        refine ⟨j + 1, by go_num, by omega, ?_⟩
        have := HF5.out
        rw [HSD.out] at this
        rw [HNX.out]
        simpa using this
      case measure => simp [intOf]; omega
    · have hl : decide ((j : Int) < (len : Int)) = false := decide_eq_false (by omega)
      obtain rfl : len = j := by omega
      have hB2 : BuW w wr b (blkT L) := by
        rw [List.take_of_length_le (by have := HL.out; omega)] at hB
        unfold blkT
        rw [HL.out]
        exact hB
      have HST : Hid (Calls Tryd.prog 50 #[.pointer (some ⟨b, 0, none⟩)] wr fun e w' => e = .returned (.string (bs (blkT L))) ∧ Only [] w w') := bstring_any w wr b (blkT L) hB2 (by simp [blkT, wd])
      clear hB hB2
      go_wp2_with (go_at_call 50; refine HST.out.mono ?_; rintro e w6 ⟨rfl, h6⟩; have HO : Hid (Only [] w w6) := h6; clear h6)
      go_ret
      exact ⟨rfl, HO.out⟩
end Go.Proofs.YtlcloahkeamdkaaDoor
