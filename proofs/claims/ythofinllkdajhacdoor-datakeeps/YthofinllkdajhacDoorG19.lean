/- DataKeeps: the walk. -/
import Derived.Test.YthofinllkdajhacDoorG18
import Derived.BigQuiet
import Derived.Deep.QuietTactic
namespace Go.Proofs.YthofinllkdajhacDoor
open Go Go.RowKit Go.Deep Go.Maps

set_option maxRecDepth 100000 in
set_option maxHeartbeats 1000000 in
theorem keeps_out (a s : ByteArray) (p b : Int) (w : World) (h : 1000 < a.size ∨ 1000 < s.size ∨ p < 0 ∨ 3000 < p ∨ b < 0 ∨ 4096 < b) :
    Calls Tryd.prog 3 #[.string a, .int .i64 p, .string s, .int .i64 b] w fun e w' => e = .returned (.bool true) ∧ Below w.heap.size w w' := by
  have ha : decide (1000 < (a.size : Int)) = decide (1000 < a.size) := decide_eq_decide.2 (by omega)
  have hs : decide (1000 < (s.size : Int)) = decide (1000 < s.size) := decide_eq_decide.2 (by omega)
  go_enter Tryd.func3, Tryd.ntmps3
  go_wp2_with (go_at_call 4; refine (one_any _).mono ?_; rintro e w1 ⟨rfl, hb1⟩)
  all_goals (go_ret; exact ⟨rfl, hb1⟩)

/-- A file of the call's own. -/
structure Lone (W w : World) (g : Nat) (m : Option Nat) (S : ByteArray) (H : List Bool) : Prop where
  d : DataAt w g S H m
  new : ∀ k ∈ footD g m, W.heap.size ≤ k
  below : Below W.heap.size W w
theorem Lone.step {W w w' : World} {g : Nat} {m m' : Option Nat} {S S' : ByteArray} {H H' : List Bool} (h : Lone W w g m S H) (hd : DataAt w' g S' H' m') (ho : Only (footD g m) w w') (hf : ∀ k, m' = some k → k ∈ footD g m ∨ w.heap.size ≤ k) : Lone W w' g m' S' H' :=
  ⟨hd, fun k hk => by
    rcases List.mem_cons.1 hk with rfl | hk
    · exact h.new _ (List.mem_cons_self ..)
    · rcases hf k (by simpa using hk) with h1 | h1
      · exact h.new k h1
      · exact Nat.le_trans h.below.size h1, h.below.trans (ho.to_below h.below.size h.new)⟩
theorem Lone.only {W w w' : World} {g : Nat} {m : Option Nat} {S : ByteArray} {H : List Bool} (h : Lone W w g m S H) (ho : Only [] w w') : Lone W w' g m S H :=
  ⟨h.d.kept ho (fun _ _ => by simp), h.new, h.below.trans (ho.to_below h.below.size (fun _ hk => by cases hk))⟩
theorem Lone.drewN {W w : World} {g : Nat} {m : Option Nat} {S : ByteArray} {H : List Bool} (h : Lone W w g m S H) (n : Nat) : Lone W (w.drewN n) g m S H := h.only ⟨rfl, rfl, rfl, Nat.le_refl _, fun _ _ _ => rfl⟩
theorem Lone.zero {W w1 : World} (hb : Below W.heap.size W w1) : Lone W (w1.alloc (.cells #[.int .i64 0, .map none] 26)) w1.heap.size none ⟨#[]⟩ [] :=
  ⟨DataAt.zero w1, fun k hk => by simp [footD] at hk; subst hk; exact hb.size, hb.alloc hb.size _⟩

set_option maxRecDepth 100000 in
set_option maxHeartbeats 4000000 in
theorem keeps_walk (a s : ByteArray) (p b : Nat) (w : World) (ha : a.size ≤ 1000) (hs : s.size ≤ 1000) (hp : p ≤ 3000) (hb : b ≤ 4096) :
    Calls Tryd.prog 3 #[.string a, .int .i64 p, .string s, .int .i64 b] w fun e w' => e = .returned (.bool true) ∧ Below w.heap.size w w' := by
  have da : decide (1000 < (a.size : Int)) = false := decide_eq_false (by omega)
  have ds : decide (1000 < (s.size : Int)) = false := decide_eq_false (by omega)
  have dp : decide ((p : Int) < 0) = false := decide_eq_false (by omega)
  have dp2 : decide (3000 < (p : Int)) = false := decide_eq_false (by omega)
  have db : decide ((b : Int) < 0) = false := decide_eq_false (by omega)
  have db2 : decide (4096 < (b : Int)) = false := decide_eq_false (by omega)
  have HA : Hid (∀ i, i < a.size → i < p → byteS (writeT (writeT ⟨#[]⟩ 0 a) p s) i = byteS a i ∧ i < (writeT (writeT ⟨#[]⟩ 0 a) p s).size) := fun i h1 h2 => stays_ahead a s p i h1 h2
  have hle : (writeT (writeT ⟨#[]⟩ 0 a) p s).size ≤ 4096 := writes_le a s p (by omega) (by omega)
  have HRS : Hid (∀ i, i < b → byteS (resizeS (writeT (writeT ⟨#[]⟩ 0 a) p s) b) i = byteS (writeT (writeT ⟨#[]⟩ 0 a) p s) i) := fun i h => resizeS_bytes _ b i h
  have hrz : (resizeS (writeT (writeT ⟨#[]⟩ 0 a) p s) b).size = b := resizeS_size _ b
  have C1 : Hid (∀ W g, Lone w W g none ⟨#[]⟩ [] → Calls Tryd.prog 5 #[.pointer (some ⟨g, 0, none⟩), .int .i64 0, .string a] W fun e w' => e = .returned .nilIface ∧ ∃ m H, Lone w w' g m (writeT ⟨#[]⟩ 0 a) H) := fun W g h =>
    (dwrite_fit W g ⟨#[]⟩ a [] none 0 h.d (by omega)).mono fun e w' ⟨he, m', H', h1, h2, h3⟩ => ⟨he, m', H', h.step h1 h2 h3⟩
  have C2 : Hid (∀ W g m H, Lone w W g m (writeT ⟨#[]⟩ 0 a) H → Calls Tryd.prog 5 #[.pointer (some ⟨g, 0, none⟩), .int .i64 p, .string s] W fun e w' => e = .returned .nilIface ∧ ∃ m H, Lone w w' g m (writeT (writeT ⟨#[]⟩ 0 a) p s) H) := fun W g m H h =>
    (dwrite_fit W g _ s H m p h.d (by omega)).mono fun e w' ⟨he, m', H', h1, h2, h3⟩ => ⟨he, m', H', h.step h1 h2 h3⟩
  have C3 : Hid (∀ W g m H, Lone w W g m (writeT (writeT ⟨#[]⟩ 0 a) p s) H → Calls Tryd.prog 6 #[.pointer (some ⟨g, 0, none⟩), .int .i64 p, .int .i64 s.size] W fun e w' => (∃ fl, e = .returned (.tuple #[.string s, .bool fl, .nilIface])) ∧ Lone w w' g m (writeT (writeT ⟨#[]⟩ 0 a) p s) H) := fun W g m H h =>
    (dread_back W g _ s H m p h.d (by omega)).mono fun e w' ⟨he, ho⟩ => ⟨he, h.only ho⟩
  have C6 : Hid (∀ W g m H, Lone w W g m (writeT (writeT ⟨#[]⟩ 0 a) p s) H → Calls Tryd.prog 8 #[.pointer (some ⟨g, 0, none⟩), .int .i64 b] W fun e w' => e = .returned .nilIface ∧ ∃ H', Lone w w' g m (resizeS (writeT (writeT ⟨#[]⟩ 0 a) p s) b) H') := fun W g m H h =>
    (dresize W g _ H m b h.d hb).mono fun e w' ⟨he, h1, h2⟩ => ⟨he, _, h.step h1 h2 (fun k hk => Or.inl (by simp [footD, hk]))⟩
  generalize writeT (writeT ⟨#[]⟩ 0 a) p s = S2 at HA hle HRS hrz C2 C3 C6
  generalize writeT ⟨#[]⟩ 0 a = S1 at C1 C2
  generalize resizeS S2 b = S3 at HRS hrz C6
  have C4 : Hid (∀ W g m S H, Lone w W g m S H → Calls Tryd.prog 7 #[.pointer (some ⟨g, 0, none⟩)] W fun e w' => e = .returned (.int .i64 (S.size : Nat)) ∧ W = w') := fun W g m S H h => dsize W g S H m h.d
  have C5 : Hid (∀ W g m S H (n : Nat), Lone w W g m S H → S.size ≤ n → n ≤ 4096 → Calls Tryd.prog 6 #[.pointer (some ⟨g, 0, none⟩), .int .i64 0, .int .i64 n] W fun e w' => e = .returned (.tuple #[.string S, .bool true, .nilIface]) ∧ Lone w w' g m S H) := fun W g m S H n h h1 h2 =>
    (dread_whole W g S H m n h.d (by omega) h1).mono fun e w' ⟨he, ho⟩ => ⟨he, h.only ho⟩
  go_enter Tryd.func3, Tryd.ntmps3
  go_wp2_with (first
    | (go_at_call 4; refine (one_any _).mono ?_; rintro e w1 ⟨rfl, hb1⟩
       have L0 : Hid _ := Lone.zero hb1
       generalize hg : w1.heap.size = g at L0
       have D1 := C1.out _ _ L0.out
       clear hb1)
    | (go_at_call 5; refine D1.mono ?_; rintro e w2 ⟨rfl, m2, H2, hl2⟩; have D2 := C2.out _ _ _ _ hl2; clear hl2 D1 L0 C1 C2)
    | (go_at_call 5; refine D2.mono ?_; rintro e w3 ⟨rfl, m3, H3, hl3⟩; have D3 := C3.out _ _ _ _ hl3; clear hl3 D2 C3)
    | (go_at_call 6; refine D3.mono ?_; rintro e w4 ⟨⟨fl, rfl⟩, hl4⟩; have D4 := C4.out _ _ _ _ _ hl4; have D5 := C5.out _ _ _ _ _ S2.size hl4 (Nat.le_refl _) hle; have HL4 : Hid (Lone w w4 g m3 S2 H3) := hl4; clear hl4 D3)
    | (go_at_call 6; refine D5.mono ?_; rintro e w5 ⟨rfl, hl5⟩; have D6 := C4.out _ _ _ _ _ hl5; have HL5 : Hid (Lone w w5 g m3 S2 H3) := hl5; clear hl5 D4 D5 HL4)
    | (go_at_call 7; refine D4.mono ?_; rintro e w6 ⟨rfl, rfl⟩)
    | (go_at_call 7; refine D6.mono ?_; rintro e w6 ⟨rfl, rfl⟩)
    | go_in)
  go_loopw [16] (fun i wr => ∃ j : Nat, j ≤ a.size ∧ i = .int .i64 j ∧ Lone w wr g m3 S2 H3) (fun i _ => a.size - (intOf i).toNat)
  case atStart => exact ⟨0, Nat.zero_le _, rfl, HL5.out⟩
  case round =>
    obtain ⟨j, hj, rfl, hl6⟩ := hrel
    clear D6 HL5 da ds dp dp2 db db2
    have HL6 : Hid (Lone w wr g m3 S2 H3) := hl6
    clear hl6
    by_cases hc : j < a.size ∧ j < p
    · obtain ⟨h1, h2⟩ := hc
      obtain ⟨e1, h3⟩ := HA.out j h1 h2
      have hEq : S2[j] = a[j] := by rw [byteS_at S2 j h3, byteS_at a j h1, e1]
      clear e1
      go_wp2
      go_big_quiet (fail)
      go_wp2
      exact ⟨⟨j + 1, by omega, by go_num, HL6.out.drewN nq⟩, by simp [intOf]; omega⟩
    · have hcase : j = a.size ∨ (j < a.size ∧ p ≤ j) := by omega
      have D6 := C6.out _ _ _ _ HL6.out
      clear hc HA
      rcases hcase with rfl | ⟨h1, h2⟩
      all_goals
        go_wp2_with (first
          | (go_at_call 8; refine D6.mono ?_; rintro e w7 ⟨rfl, H7, hl7⟩; have D7 := C4.out _ _ _ _ _ hl7; have D8 := C5.out _ _ _ _ _ 4096 hl7 (by omega) (Nat.le_refl _); clear D6 HL6 hl7)
          | (go_at_call 7; refine D7.mono ?_; rintro e w8 ⟨rfl, rfl⟩)
          | (go_at_call 6; refine D8.mono ?_; rintro e w9 ⟨rfl, hl9⟩; have HL9 : Hid (Lone w w9 g m3 S3 H7) := hl9; clear D7 D8 hl9)
          | go_in)
        go_loopw [19] (fun i wx => ∃ k : Nat, k ≤ b ∧ i = .int .i64 k ∧ Lone w wx g m3 S3 H7) (fun i _ => b - (intOf i).toNat)
        case atStart => exact ⟨0, Nat.zero_le _, rfl, HL9.out⟩
        case round =>
          obtain ⟨k, hk, rfl, hlx⟩ := hrel
          have HLX : Hid (Lone w wr g m3 S3 H7) := hlx
          clear hlx HL9
          by_cases hkb : k < b
          · have hk3 : k < S3.size := by omega
            have e3 := HRS.out k hkb
            by_cases hk2 : k < S2.size
            · have hd1 : decide (S2.size ≤ k) = false := decide_eq_false (by omega)
              have hEq : S3[k] = S2[k] := by rw [byteS_at S3 k hk3, byteS_at S2 k hk2, e3]
              clear e3
              go_wp2
              go_big_quiet (fail)
              go_wp2
              exact ⟨⟨k + 1, by omega, by go_num, HLX.out.drewN nq⟩, by simp [intOf]; omega⟩
            · have hd1 : decide (k < S2.size) = false := decide_eq_false hk2
              have hd2 : decide (S2.size ≤ k) = true := decide_eq_true (by omega)
              have hEq : S3[k].toNat = 0 := by rw [byteS_at S3 k hk3, e3, byteS_out (by omega)]; rfl
              clear e3
              go_wp2
              go_big_quiet (fail)
              go_wp2
              exact ⟨⟨k + 1, by omega, by go_num, HLX.out.drewN nq⟩, by simp [intOf]; omega⟩
          · obtain rfl : k = b := by omega
            go_wp2
            go_ret
            exact ⟨rfl, HLX.out.below⟩
theorem keeps_all (a s : ByteArray) (p b : Int) (w : World) : Calls Tryd.prog 3 #[.string a, .int .i64 p, .string s, .int .i64 b] w fun e w' => e = .returned (.bool true) ∧ Below w.heap.size w w' := by
  by_cases h : 1000 < a.size ∨ 1000 < s.size ∨ p < 0 ∨ 3000 < p ∨ b < 0 ∨ 4096 < b
  · exact keeps_out a s p b w h
  · obtain ⟨p, rfl⟩ : ∃ k : Nat, p = (k : Int) := ⟨p.toNat, by omega⟩
    obtain ⟨b, rfl⟩ : ∃ k : Nat, b = (k : Int) := ⟨b.toNat, by omega⟩
    exact keeps_walk a s p b w (by omega) (by omega) (by omega) (by omega)
end Go.Proofs.YthofinllkdajhacDoor
