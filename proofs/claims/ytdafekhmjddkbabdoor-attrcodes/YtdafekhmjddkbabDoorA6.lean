/- Attributes: what package attr is asked to do, as three sentences in the document's words; the statements' own helper 'asked'; AttrReads, over the second sentence. -/
import Derived.Test.YtdafekhmjddkbabDoorA5
namespace Go.Proofs.YtdafekhmjddkbabDoor
open Go Go.RowKit Go.Deep

/-- Encode does what the document asks. -/
def Encodes : Prop := ∀ (v : Nat → Int) (m : Int) (A : Nat → Addr) (w : World), (∀ i, i < 6 → -9223372036854775808 ≤ v i ∧ v i < 9223372036854775808) → Errs w A →
  Calls Tryd.prog 12 #[aggA v, .int .i64 m] w fun e w' => ((∃ (k : Nat) (l : List UInt8), m = (k : Int) ∧ k ≤ 31 ∧ encA k v 6 = some l ∧ e = .returned (.tuple #[.string (bs l), .nilIface])) ∨
    ((m < 0 ∨ 31 < m ∨ ∃ k : Nat, m = (k : Int) ∧ k ≤ 31 ∧ encA k v 6 = none) ∧ e = .returned (.tuple #[.string ⟨#[]⟩, .iface 162 (.pointer (some (A 1)))]))) ∧ Below w.heap.size w w'
/-- Decode does what the document asks. -/
def Decodes : Prop := ∀ (s : ByteArray) (A : Nat → Addr) (w : World), s.size ≤ 4000 → Errs w A →
  Calls Tryd.prog 15 #[.string s] w fun e w' => ((noA s ∧ e = .returned (.tuple #[aggA fun _ => 0, .int .i64 0, .iface 162 (.pointer (some (A 0)))])) ∨
   (∃ f r, 4 ≤ s.size ∧ numAt s 4 ≤ 31 ∧ decA (numAt s 4) (cutAt s 4) 6 = some (f, r) ∧ r.size = 0 ∧ e = .returned (.tuple #[aggA f, .int .i64 (numAt s 4), .nilIface]))) ∧ Below w.heap.size w w'
/-- Same does what the document asks. -/
def Sames : Prop := ∀ (v u : Nat → Int) (m : Int) (A : Nat → Addr) (w : World), Errs w A →
  Calls Tryd.prog 16 #[aggA v, aggA u, .int .i64 m] w fun e w' => (((m < 0 ∨ 31 < m) ∧ e = .returned (.tuple #[.bool false, .iface 162 (.pointer (some (A 1)))])) ∨
   (∃ k : Nat, m = (k : Int) ∧ k ≤ 31 ∧ e = .returned (.tuple #[.bool (sameA k v u), .nilIface]))) ∧ Below w.heap.size w w'

theorem asked_enc (hEn : Encodes) (A : Nat → Addr) (w : World) (hE : Errs w A) : Calls Tryd.prog 12 #[.agg #[.int .i64 1, .int .i64 0, .int .i64 0, .int .i64 0, .int .i64 0, .int .i64 0], .int .i64 0] w fun e w' => e = .returned (.tuple #[.string ⟨#[0, 0, 0, 0]⟩, .nilIface]) ∧ Below w.heap.size w w' := by
  refine (hEn (fun i => if i = 0 then 1 else 0) 0 A w (fun i _ => by split <;> decide) hE).mono ?_
  rintro e w' ⟨⟨k, l, hk, _, hl, he⟩ | ⟨hk, _⟩, hb⟩
  · obtain rfl : k = 0 := by omega
    have e0 : encA 0 (fun i => if i = 0 then 1 else 0) 6 = some [0, 0, 0, 0] := by decide
    rw [e0] at hl
    cases hl
    exact ⟨he, hb⟩
  · exfalso
    rcases hk with h | h | ⟨k, hk, _, hn⟩
    · exact absurd h (by decide)
    · exact absurd h (by decide)
    · obtain rfl : k = 0 := by omega
      have e0 : encA 0 (fun i => if i = 0 then 1 else 0) 6 = some [0, 0, 0, 0] := by decide
      rw [e0] at hn
      cases hn
theorem asked_any (hEn : Encodes) (A : Nat → Addr) (w : World) (hE : Errs w A) : Calls Tryd.prog 11 #[] w fun e w' => e = .returned (.bool true) ∧ Below w.heap.size w w' := by
  have hq := asked_enc hEn A w hE
  have h4 : ((⟨#[0, 0, 0, 0]⟩ : ByteArray).toList == [0, 0, 0, 0]) = true := by rw [Lib.toList_data]; rfl
  clear hE
  go_enter Tryd.func11, Tryd.ntmps11
  go_wp2_with (go_at_call 12; go_must (refine hq.mono ?_); rintro e w1 ⟨rfl, hb1⟩)
  go_ret
  exact ⟨rfl, hb1⟩

theorem noA_not {s : ByteArray} {f : Nat → Int} {r : ByteArray} (h : noA s) (h4 : 4 ≤ s.size) (h31 : numAt s 4 ≤ 31) (hd : decA (numAt s 4) (cutAt s 4) 6 = some (f, r)) (hr : r.size = 0) : False := by
  rcases h with h | h | h | ⟨f', r', h, h'⟩
  · omega
  · omega
  · rw [hd] at h; cases h
  · rw [hd] at h
    cases h
    omega
/-- Six numbers in memory. -/
def sixAt (W : World) (B : Nat) (f : Nat → Int) : Prop := W.cell? ⟨B, 0, none⟩ = some (.int .i64 (f 0)) ∧ W.cell? ⟨B, 1, none⟩ = some (.int .i64 (f 1)) ∧ W.cell? ⟨B, 2, none⟩ = some (.int .i64 (f 2)) ∧ W.cell? ⟨B, 3, none⟩ = some (.int .i64 (f 3)) ∧ W.cell? ⟨B, 4, none⟩ = some (.int .i64 (f 4)) ∧ W.cell? ⟨B, 5, none⟩ = some (.int .i64 (f 5))
theorem sixAt_new (w : World) (f : Nat → Int) (t : TypeId) : sixAt (w.alloc (.cells #[.int .i64 (f 0), .int .i64 (f 1), .int .i64 (f 2), .int .i64 (f 3), .int .i64 (f 4), .int .i64 (f 5)] t)) w.heap.size f := by
  refine ⟨?_, ?_, ?_, ?_, ?_, ?_⟩ <;> simp
theorem sixAt.later {W W' : World} {B : Nat} {f : Nat → Int} (h : sixAt W B f) (hb : Below W.heap.size W W') : sixAt W' B f := by
  obtain ⟨h0, h1, h2, h3, h4, h5⟩ := h
  exact ⟨(hb.cell (p := ⟨B, 0, none⟩) (lt_of_cell h0)).trans h0, (hb.cell (p := ⟨B, 1, none⟩) (lt_of_cell h1)).trans h1, (hb.cell (p := ⟨B, 2, none⟩) (lt_of_cell h2)).trans h2, (hb.cell (p := ⟨B, 3, none⟩) (lt_of_cell h3)).trans h3, (hb.cell (p := ⟨B, 4, none⟩) (lt_of_cell h4)).trans h4, (hb.cell (p := ⟨B, 5, none⟩) (lt_of_cell h5)).trans h5⟩

theorem attrReads_long (hEn : Encodes) (s : ByteArray) (A : Nat → Addr) (w : World) (hs : 500 < s.size) (hE : Errs w A) : Calls Tryd.prog 6 #[.string s] w fun e w' => e = .returned (.bool true) ∧ Below w.heap.size w w' := by
  have hn := asked_any hEn A w hE
  have hd : decide (500 < (s.size : Int)) = true := decide_eq_true (by omega)
  clear hE
  go_enter Tryd.func6, Tryd.ntmps6
  go_wp2_with (go_at_call 11; go_must (refine hn.mono ?_); rintro e w1 ⟨rfl, hb1⟩)
  go_ret
  exact ⟨rfl, hb1⟩
set_option maxRecDepth 100000 in
theorem attrReads_walk (hEn : Encodes) (hDe : Decodes) (s : ByteArray) (A : Nat → Addr) (w : World) (hs : s.size ≤ 500) (hE : Errs w A) : Calls Tryd.prog 6 #[.string s] w fun e w' => e = .returned (.bool true) ∧ Below w.heap.size w w' := by
  have hn := asked_any hEn A w hE
  have HE : Hid (Errs w A) := hE
  have hd : decide (500 < (s.size : Int)) = false := decide_eq_false (by omega)
  clear hE
  go_enter Tryd.func6, Tryd.ntmps6
  go_wp2_with (go_at_call 11; go_must (refine hn.mono ?_); rintro e w1 ⟨rfl, hb1⟩)
  refine (hDe s A w1 (by omega) (HE.out.below hb1 (Nat.le_refl _))).mono ?_
  rintro e w2 ⟨⟨hno, rfl⟩ | ⟨f, r, h4, h31, hd1, hr, rfl⟩, hb2⟩
  · have HB2 : Hid (Below w.heap.size w w2) := hb1.trans (hb2.mono hb1.size)
    clear hb1 hb2 hn
    unfold aggA
    go_wp2_with fail
    refine (attrFrom_any s _ (by omega)).mono ?_
    rintro e w3 ⟨⟨_, rfl⟩ | ⟨f', r', h4', h31', hd', hr', _⟩, hb3⟩
    · have q3 := (sixAt_new w2 (fun _ => 0) 28).later hb3
      have hb23 : Below w2.heap.size w2 w3 := ((Below.refl _ _).alloc (Nat.le_refl _) _).trans (hb3.mono (by simp))
      have HB3 : Hid (Below w.heap.size w w3) := HB2.out.trans (hb23.mono HB2.out.size)
      have hb34 : Below w3.heap.size w3 (w3.alloc (.cells #[.int .i64 0, .int .i64 0, .int .i64 0, .int .i64 0, .int .i64 0, .int .i64 0] 28)) := (Below.refl _ _).alloc (Nat.le_refl _) _
      have q4 := q3.later hb34
      have HB4 : Hid (Below w.heap.size w (w3.alloc (.cells #[.int .i64 0, .int .i64 0, .int .i64 0, .int .i64 0, .int .i64 0, .int .i64 0] 28))) := HB3.out.trans (hb34.mono HB3.out.size)
      have hc := coded_err A 0 (by decide) (w3.alloc (.cells #[.int .i64 0, .int .i64 0, .int .i64 0, .int .i64 0, .int .i64 0, .int .i64 0] 28)) (HE.out.below HB4.out (Nat.le_refl _))
      have Q4 : Hid (sixAt (w3.alloc (.cells #[.int .i64 0, .int .i64 0, .int .i64 0, .int .i64 0, .int .i64 0, .int .i64 0] 28)) w2.heap.size fun _ => 0) := q4
      clear q3 hb3 hb23 hb34 q4
      unfold aggA
      go_wp2_with fail
      refine hc.mono ?_
      rintro e w5 ⟨rfl, hb5⟩
      obtain ⟨k0, k1, k2, k3, k4, k5⟩ := Q4.out.later hb5
      have HB5 : Hid (Below w.heap.size w w5) := HB4.out.trans (hb5.mono HB4.out.size)
      clear hb5 hc Q4
      go_wp2
      go_ret
      exact ⟨rfl, HB5.out⟩
    · exact (noA_not hno h4' h31' hd' hr').elim
  · have HB2 : Hid (Below w.heap.size w w2) := hb1.trans (hb2.mono hb1.size)
    clear hb1 hb2 hn
    unfold aggA
    go_wp2_with fail
    refine (attrFrom_any s _ (by omega)).mono ?_
    rintro e w3 ⟨⟨hno, _⟩ | ⟨f', r', _, _, hd', _, rfl⟩, hb3⟩
    · exact (noA_not hno h4 h31 hd1 hr).elim
    · rw [hd1] at hd'
      obtain ⟨rfl, rfl⟩ : f = f' ∧ r = r' := by cases hd'; exact ⟨rfl, rfl⟩
      obtain ⟨n, hn⟩ : ∃ n, numAt s 4 = n := ⟨_, rfl⟩
      rw [hn]
      have q3 := (sixAt_new w2 f 28).later hb3
      have hb23 : Below w2.heap.size w2 w3 := ((Below.refl _ _).alloc (Nat.le_refl _) _).trans (hb3.mono (by simp))
      have HB3 : Hid (Below w.heap.size w w3) := HB2.out.trans (hb23.mono HB2.out.size)
      have hb34 : Below w3.heap.size w3 (w3.alloc (.cells #[.int .i64 (f 0), .int .i64 (f 1), .int .i64 (f 2), .int .i64 (f 3), .int .i64 (f 4), .int .i64 (f 5)] 28)) := (Below.refl _ _).alloc (Nat.le_refl _) _
      obtain ⟨k0, k1, k2, k3, k4, k5⟩ := q3.later hb34
      have HB4 : Hid (Below w.heap.size w (w3.alloc (.cells #[.int .i64 (f 0), .int .i64 (f 1), .int .i64 (f 2), .int .i64 (f 3), .int .i64 (f 4), .int .i64 (f 5)] 28))) := HB3.out.alloc HB3.out.size _
      clear hb3 hb23 hb34 hd' hd1 h4 h31 hr hn q3
      unfold aggA
      go_wp2
      go_ret
      exact ⟨rfl, HB4.out⟩
theorem attrReads_any (hEn : Encodes) (hDe : Decodes) (s : ByteArray) (A : Nat → Addr) (w : World) (hE : Errs w A) : Calls Tryd.prog 6 #[.string s] w fun e w' => e = .returned (.bool true) ∧ Below w.heap.size w w' := by
  rcases Nat.lt_or_ge 500 s.size with h | h
  · exact attrReads_long hEn s A w h hE
  · exact attrReads_walk hEn hDe s A w h hE
end Go.Proofs.YtdafekhmjddkbabDoor
