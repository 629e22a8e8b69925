/- Data: the program's file beside the document's: what the one's calls leave of the other. -/
import Derived.Test.YthofinllkdajhabDoorG13
import Derived.Test.YthofinllkdajhabDoorD8
import Derived.Test.YthofinllkdajhabDoorE3
namespace Go.Proofs.YthofinllkdajhabDoor
open Go Go.RowKit Go.Deep Go.Maps

/-- Two files side by side: the program's (S, H), the document's (T, K); nothing of either lay when the call began. -/
structure Two (W w : World) (base g : Nat) (m : Option Nat) (S : ByteArray) (H : List Bool) (gb : Nat) (v : Value) (T : ByteArray) (K : List Bool) : Prop where
  d : DataAt w g S H m
  b : BytesAt w base gb T K v
  dis : ∀ k ∈ footD g m, k ∉ footB gb v
  newD : ∀ k ∈ footD g m, W.heap.size ≤ k
  newB : ∀ k ∈ footB gb v, W.heap.size ≤ k
  below : Below W.heap.size W w
  base_le : base ≤ w.heap.size
theorem BytesAt.foot_lt {w : World} {base g : Nat} {S : ByteArray} {H : List Bool} {v : Value} (h : BytesAt w base g S H v) : ∀ k ∈ footB g v, k < w.heap.size := by
  intro k hk
  rcases List.mem_cons.1 hk with rfl | hk
  · exact lt_of_cell h.text
  · rcases h.owns.2 with ⟨hv, _⟩ | ⟨gh, cap, cur, hv, _, hh, _⟩
    · rw [hv] at hk; simp [Value.ownBlock] at hk
    · rw [hv] at hk
      have e : k = gh := by simpa [Value.ownBlock] using hk
      subst e
      exact lt_of_heap hh
theorem Two.only {W w w' : World} {base g gb : Nat} {m : Option Nat} {S T : ByteArray} {H K : List Bool} {v : Value} (h : Two W w base g m S H gb v T K) (ho : Only [] w w') : Two W w' base g m S H gb v T K :=
  ⟨h.d.kept ho (fun _ _ => by simp), h.b.kept ho (fun _ _ => by simp), h.dis, h.newD, h.newB, h.below.trans (ho.to_below h.below.size (fun _ hk => by cases hk)), Nat.le_trans h.base_le ho.size⟩
theorem Two.stepD {W w w' : World} {base g gb : Nat} {m m' : Option Nat} {S T S' : ByteArray} {H K H' : List Bool} {v : Value} (h : Two W w base g m S H gb v T K) (hd : DataAt w' g S' H' m') (ho : Only (footD g m) w w') (hf : ∀ k, m' = some k → k ∈ footD g m ∨ w.heap.size ≤ k) : Two W w' base g m' S' H' gb v T K := by
  have hsub : ∀ k ∈ footD g m', k ∈ footD g m ∨ w.heap.size ≤ k := fun k hk => by
    rcases List.mem_cons.1 hk with rfl | hk
    · exact Or.inl (List.mem_cons_self ..)
    · exact hf k (by simpa using hk)
  refine ⟨hd, h.b.kept ho (fun k hk hm => h.dis k hm hk), fun k hk => ?_, fun k hk => ?_, h.newB, h.below.trans (ho.to_below h.below.size h.newD), Nat.le_trans h.base_le ho.size⟩
  · rcases hsub k hk with h1 | h1
    · exact h.dis k h1
    · intro h2
      have := h.b.foot_lt k h2
      omega
  · rcases hsub k hk with h1 | h1
    · exact h.newD k h1
    · exact Nat.le_trans h.below.size h1
theorem Two.stepB {W w w' : World} {base g gb : Nat} {m : Option Nat} {S T T' : ByteArray} {H K K' : List Bool} {v v' : Value} (h : Two W w base g m S H gb v T K) (hb : BytesAt w' base gb T' K' v') (ho : Only (footB gb v) w w') (hf : ∀ k, v'.ownBlock = some k → k ∈ footB gb v ∨ w.heap.size ≤ k) : Two W w' base g m S H gb v' T' K' := by
  have hsub : ∀ k ∈ footB gb v', k ∈ footB gb v ∨ w.heap.size ≤ k := fun k hk => by
    rcases List.mem_cons.1 hk with rfl | hk
    · exact Or.inl (List.mem_cons_self ..)
    · exact hf k (by simpa using hk)
  refine ⟨h.d.kept ho h.dis, hb, fun k hk hm => ?_, h.newD, fun k hk => ?_, h.below.trans (ho.to_below h.below.size h.newB), Nat.le_trans h.base_le ho.size⟩
  · rcases hsub k hm with h1 | h1
    · exact h.dis k hk h1
    · have := h.d.foot_lt k hk
      omega
  · rcases hsub k hk with h1 | h1
    · exact h.newB k h1
    · exact Nat.le_trans h.below.size h1
/-- The program's file is another one now: a copy. -/
theorem Two.swap {W w w' : World} {base g gb gc : Nat} {m m' mc : Option Nat} {S T S' : ByteArray} {H K H' : List Bool} {v : Value} (h : Two W w base g m S H gb v T K) (hd : DataAt w' gc S' H' mc) (ho : Only (footD g m') w w') (hm : ∀ k ∈ footD g m', k ∈ footD g m ∨ w.heap.size ≤ k) (hgc : w.heap.size ≤ gc) (hmc : ∀ k, mc = some k → w.heap.size ≤ k) : Two W w' base gc mc S' H' gb v T K := by
  have hnew : ∀ k ∈ footD gc mc, w.heap.size ≤ k := fun k hk => by
    rcases List.mem_cons.1 hk with rfl | hk
    · exact hgc
    · exact hmc k (by simpa using hk)
  refine ⟨hd, h.b.kept ho (fun k hk hm' => ?_), fun k hk hb => ?_, fun k hk => Nat.le_trans h.below.size (hnew k hk), h.newB, h.below.trans (ho.to_below h.below.size (fun k hk => ?_)), Nat.le_trans h.base_le ho.size⟩
  · rcases hm k hm' with h1 | h1
    · exact h.dis k h1 hk
    · have := h.b.foot_lt k hk
      omega
  · have := h.b.foot_lt k hb
    have := hnew k hk
    omega
  · rcases hm k hk with h1 | h1
    · exact h.newD k h1
    · exact Nat.le_trans h.below.size h1

/-! ### the document's calls, each as a whole -/
theorem rwrite_any (w : World) (base g : Nat) (S s : ByteArray) (H : List Bool) (v : Value) (a : Int) (hB : BytesAt w base g S H v) (hS : S.size ≤ 4096) (hH : H.length ≤ 64) (hbw : base ≤ w.heap.size) (ha : a < 9223372036854775808) :
    Calls Tryd.prog 21 #[.pointer (some ⟨g, 0, none⟩), .int .i64 a, .string s] w fun e w' => e = .returned (.int .i64 (if a < 0 ∨ 4096 < a + (s.size : Int) then 2 else 0)) ∧
      ∃ v', (if a < 0 ∨ 4096 < a + (s.size : Int) then BytesAt w' base g S H v' else BytesAt w' base g (writeT S a.toNat s) (writeU H a.toNat s) v') ∧ Only (footB g v) w w' ∧ ∀ k, v'.ownBlock = some k → k ∈ footB g v ∨ w.heap.size ≤ k := by
  have hv : ∀ k, v.ownBlock = some k → k ∈ footB g v ∨ w.heap.size ≤ k := fun k h => Or.inl (by simp [footB, h])
  by_cases h : a < 0 ∨ 4096 < a + (s.size : Int)
  · simp only [if_pos h]
    exact (write_bound w g s a h ha).mono fun e w' ⟨he, hw⟩ => ⟨he, v, hw ▸ hB, hw ▸ Only.refl _ _, hv⟩
  · simp only [if_neg h]
    obtain ⟨a, rfl⟩ : ∃ k : Nat, a = (k : Int) := ⟨a.toNat, by omega⟩
    simp only [Int.toNat_natCast]
    unfold writeT writeU
    by_cases h0 : s.size = 0
    · simp only [if_pos h0]
      obtain rfl := size_zero h0
      exact (write_none w g a (by omega)).mono fun e w' ⟨he, hw⟩ => ⟨he, v, hw ▸ hB, hw ▸ Only.refl _ _, hv⟩
    · simp only [if_neg h0]
      exact write_walk w base g S s H v a hB hS hH (by omega) (by omega) hbw
theorem rresize_any (w : World) (base g : Nat) (S : ByteArray) (H : List Bool) (v : Value) (n : Int) (hB : BytesAt w base g S H v) (hS : S.size ≤ 4096) (hH : H.length ≤ 64) :
    Calls Tryd.prog 25 #[.pointer (some ⟨g, 0, none⟩), .int .i64 n] w fun e w' => e = .returned (.int .i64 (if n < 0 ∨ 4096 < n then 2 else 0)) ∧
      (if n < 0 ∨ 4096 < n then BytesAt w' base g S H v else BytesAt w' base g (resizeS S n.toNat) (resizeH S H n.toNat) v) ∧ Only (footB g v) w w' := by
  by_cases h : n < 0 ∨ 4096 < n
  · simp only [if_pos h]
    exact (resize_bound w g n h).mono fun e w' ⟨he, hw⟩ => ⟨he, hw ▸ hB, hw ▸ Only.refl _ _⟩
  · simp only [if_neg h]
    obtain ⟨n, rfl⟩ : ∃ k : Nat, n = (k : Int) := ⟨n.toNat, by omega⟩
    simp only [Int.toNat_natCast]
    exact resize_any w base g S H v n hB hS (by omega) (by omega)
/-- An error of the program's beside the document's number for it. -/
theorem coded_if (A : Nat → Addr) (c : Prop) [Decidable c] (w : World) (h : Errs w A) :
    Calls Tryd.prog 15 #[if c then .iface 189 (.pointer (some (A 1))) else .nilIface, .int .i64 (if c then 2 else 0)] w fun e w' => e = .returned (.bool true) ∧ Below w.heap.size w w' := by
  by_cases hc : c
  · simp only [if_pos hc]
    exact coded_err A 1 (by decide) w h
  · simp only [if_neg hc]
    exact (coded_nil w).mono fun e w' ⟨he, hw⟩ => ⟨he, hw ▸ Below.refl _ _⟩
end Go.Proofs.YthofinllkdajhabDoor
