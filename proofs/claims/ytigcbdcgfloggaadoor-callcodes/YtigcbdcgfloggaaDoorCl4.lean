/- CallCodes: any request on the wire; any text. -/
import Derived.Test.YtigcbdcgfloggaaDoorCl2
namespace Go.Proofs.YtigcbdcgfloggaaDoor
open Go Go.RowKit Go.Deep

theorem beq_self_list (s : ByteArray) : (s.toList == s.toList) = true := by simp
set_option maxRecDepth 100000 in
set_option maxHeartbeats 1000000 in
theorem codes_many (A : Nat → Addr) (id : Int) (x s : ByteArray) (w : World) (hE : Errs w A) (h : 5000 < x.size ∨ x.size ≤ 5000 ∧ 4100 < s.size) :
    Calls Tryd.prog 3 #[.int .i64 id, .string x, .string s] w fun e w' => e = .returned (.bool true) ∧ Below w.heap.size w w' := by
  have H : Hid (Calls Tryd.prog 5 #[] w fun e w' => e = .returned (.bool true) ∧ Below w.heap.size w w') := asks_any A w hE
  clear hE
  rcases h with h | ⟨h, h'⟩
  · have hd : decide (5000 < (x.size : Int)) = true := decide_eq_true (by omega)
    clear h
    go_enter Tryd.func3, Tryd.ntmps3
    go_wp2_with (go_at_call 5; go_must (refine H.out.mono ?_); rintro e w1 ⟨rfl, hb⟩)
    go_ret
    exact ⟨rfl, hb⟩
  · have hd : decide (5000 < (x.size : Int)) = false := decide_eq_false (by omega)
    have hd' : decide (4100 < (s.size : Int)) = true := decide_eq_true (by omega)
    clear h h'
    go_enter Tryd.func3, Tryd.ntmps3
    go_wp2_with (go_at_call 5; go_must (refine H.out.mono ?_); rintro e w1 ⟨rfl, hb⟩)
    go_ret
    exact ⟨rfl, hb⟩
/-- What is known of the text s at any later world. -/
theorem codes_text (A : Nat → Addr) (s : ByteArray) (w : World) (hE : Errs w A) (hs : s.size ≤ 4100) :
    (∃ (N : Int) (X : ByteArray), Hid (∀ W, Below w.heap.size w W → Calls Tryd.prog 9 #[.string s] W fun e w' => e = .returned (.tuple #[.agg #[.int .i64 N, .string X], .nilIface]) ∧ Below w.heap.size w w') ∧
      Hid (∀ W, Below w.heap.size w W → Calls Tryd.prog 10 #[.string s] W fun e w' => e = .returned (.tuple #[.int .i64 N, .string X, .bool true]) ∧ Only [] W w')) ∨
    (Hid (∀ W, Below w.heap.size w W → Calls Tryd.prog 9 #[.string s] W fun e w' => e = .returned (.tuple #[.agg #[.int .i64 0, .string ⟨#[]⟩], erV A 0]) ∧ Below w.heap.size w w') ∧
      Hid (∀ W, Below w.heap.size w W → Calls Tryd.prog 10 #[.string s] W fun e w' => e = .returned (.tuple #[.int .i64 0, .string ⟨#[]⟩, .bool false]) ∧ Only [] W w')) := by
  by_cases h : ReqOk s
  · refine Or.inl ⟨((numAt s 8 : Nat) : Int), reqX s, fun W hb => (decode_any A s W (hE.below hb (Nat.le_refl _)) (by omega)).mono fun e w' q => ?_, fun W hb => (reqOf_any s W (by omega)).mono fun e w' q => ?_⟩
    · obtain ⟨⟨r, he, ⟨_, hr⟩ | ⟨hn, _⟩⟩, hb'⟩ := q
      · exact ⟨by rw [he, hr], hb.trans (hb'.mono hb.size)⟩
      · exact absurd h hn
    · obtain ⟨⟨r, he, ⟨_, hr⟩ | ⟨hn, _⟩⟩, hb'⟩ := q
      · exact ⟨by rw [he, hr], Only.of_below hb' _⟩
      · exact absurd h hn
  · refine Or.inr ⟨fun W hb => (decode_any A s W (hE.below hb (Nat.le_refl _)) (by omega)).mono fun e w' q => ?_, fun W hb => (reqOf_any s W (by omega)).mono fun e w' q => ?_⟩
    · obtain ⟨⟨r, he, ⟨hn, _⟩ | ⟨_, hr⟩⟩, hb'⟩ := q
      · exact absurd hn h
      · exact ⟨by rw [he, hr], hb.trans (hb'.mono hb.size)⟩
    · obtain ⟨⟨r, he, ⟨hn, _⟩ | ⟨_, hr⟩⟩, hb'⟩ := q
      · exact absurd hn h
      · exact ⟨by rw [he, hr], Only.of_below hb' _⟩
theorem only_below {w W W' : World} (hb : Below w.heap.size w W) (ho : Only [] W W') : Below w.heap.size w W' := hb.trans (ho.to_below hb.size (fun k hk => by cases hk))
theorem req_box {W w' : World} {x y : Value} {t : TypeId} (ho : Only [] (W.alloc (.cells #[x, y] t)) w') : w'.cell? ⟨W.heap.size, 0, none⟩ = some x ∧ w'.cell? ⟨W.heap.size, 1, none⟩ = some y := by
  constructor
  · exact (ho.cell (p := ⟨W.heap.size, 0, none⟩) (by simp) (by simp)).trans (by simp)
  · exact (ho.cell (p := ⟨W.heap.size, 1, none⟩) (by simp) (by simp)).trans (by simp)
theorem req_kept {W W' : World} {b : Nat} {x y : Value} (c0 : W.cell? ⟨b, 0, none⟩ = some x) (c1 : W.cell? ⟨b, 1, none⟩ = some y) (hb : Below W.heap.size W W') : W'.cell? ⟨b, 0, none⟩ = some x ∧ W'.cell? ⟨b, 1, none⟩ = some y :=
  ⟨(hb.cell (p := ⟨b, 0, none⟩) (lt_of_cell c0)).trans c0, (hb.cell (p := ⟨b, 1, none⟩) (lt_of_cell c1)).trans c1⟩
set_option maxRecDepth 100000 in
set_option maxHeartbeats 1000000 in
/-- Where the request can't be written. -/
theorem codes_bad (A : Nat → Addr) (id : Int) (x s : ByteArray) (k : Nat) (w : World) (hE : Errs w A) (hk : k < 15) (hx : x.size ≤ 5000) (hs : s.size ≤ 4100)
    (h1 : ∀ W, Errs W A → Calls Tryd.prog 6 #[.agg #[.int .i64 id, .string x]] W fun e w' => e = .returned (.tuple #[.string ⟨#[]⟩, erV A k]) ∧ Below W.heap.size W w')
    (h2 : ∀ W, Calls Tryd.prog 7 #[.int .i64 id, .string x] W fun e w' => e = .returned (.tuple #[.string ⟨#[]⟩, .int .i64 ((k : Int) + 1)]) ∧ Below W.heap.size W w') :
    Calls Tryd.prog 3 #[.int .i64 id, .string x, .string s] w fun e w' => e = .returned (.bool true) ∧ Below w.heap.size w w' := by
  have HE : Hid (∀ W, Below w.heap.size w W → Errs W A) := fun W hb => hE.below hb (Nat.le_refl _)
  have H : Hid (Calls Tryd.prog 5 #[] w fun e w' => e = .returned (.bool true) ∧ Below w.heap.size w w') := asks_any A w hE
  have H1 : Hid (∀ W, Errs W A → Calls Tryd.prog 6 #[.agg #[.int .i64 id, .string x]] W fun e w' => e = .returned (.tuple #[.string ⟨#[]⟩, erV A k]) ∧ Below W.heap.size W w') := h1
  have H2 : Hid (∀ W, Calls Tryd.prog 7 #[.int .i64 id, .string x] W fun e w' => e = .returned (.tuple #[.string ⟨#[]⟩, .int .i64 ((k : Int) + 1)]) ∧ Below W.heap.size W w') := h2
  have hd : decide (5000 < (x.size : Int)) = false := decide_eq_false (by omega)
  have hd' : decide (4100 < (s.size : Int)) = false := decide_eq_false (by omega)
  have hk0 : ((k : Int) + 1 == 0) = false := by rw [beq_eq_false_iff_ne]; omega
  have H0 : Hid (∀ W, Below w.heap.size w W → Calls Tryd.prog 8 #[erV A 0, .int .i64 1] W fun e w' => e = .returned (.bool true) ∧ Below W.heap.size W w') := fun W hb => coded3_err A 0 (by decide) W (hE.below hb (Nat.le_refl _))
  have HC := codes_text A s w hE hs
  clear hE h1 h2 hx hs
  rcases HC with ⟨N, X, HD, HR⟩ | ⟨HD, HR⟩
  all_goals
    go_enter Tryd.func3, Tryd.ntmps3
    go_wp2_with (first
      | (go_at_call 5; refine H.out.mono ?_; rintro e w1 ⟨rfl, hb⟩; have B1 : Hid (Below w.heap.size w w1) := hb; clear hb)
      | (go_at_call 6; refine (H1.out w1 (HE.out w1 B1.out)).mono ?_; rintro e w2 ⟨rfl, hb⟩; have B2 : Hid (Below w.heap.size w w2) := B1.out.trans (hb.mono B1.out.size); clear hb)
      | (go_at_call 7; refine (H2.out w2).mono ?_; rintro e w3 ⟨rfl, hb⟩; have B3 : Hid (Below w.heap.size w w3) := B2.out.trans (hb.mono B2.out.size); clear hb)
      | (go_at_call 8; refine (coded3_err A k hk w3 (HE.out w3 B3.out)).mono ?_; rintro e w4 ⟨rfl, hb⟩; have B4 : Hid (Below w.heap.size w w4) := B3.out.trans (hb.mono B3.out.size); clear hb))
    go_wp2_with (first
      | (go_at_call 9; go_must (refine (HD.out w4 B4.out).mono ?_); rintro e w5 ⟨rfl, hb⟩; have B5 : Hid (Below w.heap.size w w5) := hb; clear hb)
      | (go_at_call 10; go_must (refine (HR.out _ (B5.out.alloc B5.out.size _)).mono ?_); rintro e w6 ⟨rfl, ho⟩; obtain ⟨c0, c1⟩ := req_box ho; have B6 : Hid (Below w.heap.size w w6) := only_below (B5.out.alloc B5.out.size _) ho; clear ho)
      | (go_at_call 8; go_must (refine (H0.out w6 B6.out).mono ?_); rintro e w7 ⟨rfl, hb⟩; obtain ⟨d0, d1⟩ := req_kept c0 c1 hb; have B7 : Hid (Below w.heap.size w w7) := B6.out.trans (hb.mono B6.out.size); clear hb))
  · go_ret
    exact ⟨by simp, B6.out⟩
  · go_ret
    exact ⟨rfl, B7.out⟩
set_option maxRecDepth 100000 in
set_option maxHeartbeats 1000000 in
/-- Where it can. -/
theorem codes_good (A : Nat → Addr) (n : Nat) (x s : ByteArray) (w : World) (hE : Errs w A) (hn : n < 9223372036854775808) (hx : x.size ≤ 4000) (hz : (reqS n x).size ≤ 4000) (hs : s.size ≤ 4100) :
    Calls Tryd.prog 3 #[.int .i64 n, .string x, .string s] w fun e w' => e = .returned (.bool true) ∧ Below w.heap.size w w' := by
  have HE : Hid (∀ W, Below w.heap.size w W → Errs W A) := fun W hb => hE.below hb (Nat.le_refl _)
  have H : Hid (Calls Tryd.prog 5 #[] w fun e w' => e = .returned (.bool true) ∧ Below w.heap.size w w') := asks_any A w hE
  have H1 : Hid (∀ W, Errs W A → Calls Tryd.prog 6 #[.agg #[.int .i64 n, .string x]] W fun e w' => e = .returned (.tuple #[.string (reqS n x), .nilIface]) ∧ Below W.heap.size W w') := fun W hW => encode_ok A n x W hW hn hx hz
  have H2 : Hid (∀ W, Calls Tryd.prog 7 #[.int .i64 n, .string x] W fun e w' => e = .returned (.tuple #[.string (reqS n x), .int .i64 0]) ∧ Below W.heap.size W w') := fun W => reqText_ok n x W hn (by omega) hz
  have H3 : Hid (∀ W, Errs W A → Calls Tryd.prog 9 #[.string (reqS n x)] W fun e w' => e = .returned (.tuple #[.agg #[.int .i64 n, .string x], .nilIface]) ∧ Below W.heap.size W w') := fun W hW => (decode_any A (reqS n x) W hW (by omega)).mono fun e w' q => by
    obtain ⟨b1, b2, b3⟩ := req_back n x hn hx
    obtain ⟨⟨r, he, ⟨_, hr⟩ | ⟨hn, _⟩⟩, hb'⟩ := q
    · rw [b2, b3] at hr
      exact ⟨by rw [he, hr], hb'⟩
    · exact absurd b1 hn
  have hd : decide (5000 < (x.size : Int)) = false := decide_eq_false (by omega)
  have hd' : decide (4100 < (s.size : Int)) = false := decide_eq_false (by omega)
  have H0 : Hid (∀ W, Below w.heap.size w W → Calls Tryd.prog 8 #[erV A 0, .int .i64 1] W fun e w' => e = .returned (.bool true) ∧ Below W.heap.size W w') := fun W hb => coded3_err A 0 (by decide) W (hE.below hb (Nat.le_refl _))
  have HC := codes_text A s w hE hs
  obtain ⟨T, hT⟩ : ∃ T, reqS n x = T := ⟨_, rfl⟩
  rw [hT] at H1 H2 H3
  clear hE hx hs hn hz hT
  rcases HC with ⟨N, X, HD, HR⟩ | ⟨HD, HR⟩
  all_goals
    go_enter Tryd.func3, Tryd.ntmps3
    go_wp2_with (first
      | (go_at_call 5; refine H.out.mono ?_; rintro e w1 ⟨rfl, hb⟩; have B1 : Hid (Below w.heap.size w w1) := hb; clear hb)
      | (go_at_call 6; refine (H1.out w1 (HE.out w1 B1.out)).mono ?_; rintro e w2 ⟨rfl, hb⟩; have B2 : Hid (Below w.heap.size w w2) := B1.out.trans (hb.mono B1.out.size); clear hb)
      | (go_at_call 7; refine (H2.out w2).mono ?_; rintro e w3 ⟨rfl, hb⟩; have B3 : Hid (Below w.heap.size w w3) := B2.out.trans (hb.mono B2.out.size); clear hb)
      | (go_at_call 8; refine (coded3_nil w3).mono ?_; rintro e w4 ⟨rfl, hb⟩; have B4 : Hid (Below w.heap.size w w4) := B3.out.trans (hb.mono B3.out.size); clear hb))
    refine (H3.out w4 (HE.out w4 B4.out)).mono ?_
    rintro e w8 ⟨rfl, hb⟩
    have B8 : Hid (Below w.heap.size w w8) := B4.out.trans (hb.mono B4.out.size)
    clear hb
    go_wp2_with fail
    go_wp2_with (first
      | (go_at_call 9; go_must (refine (HD.out _ (B8.out.alloc B8.out.size _)).mono ?_); rintro e w5 ⟨rfl, hb⟩; have B5 : Hid (Below w.heap.size w w5) := hb; clear hb)
      | (go_at_call 10; go_must (refine (HR.out _ (B5.out.alloc B5.out.size _)).mono ?_); rintro e w6 ⟨rfl, ho⟩; obtain ⟨c0, c1⟩ := req_box ho; have B6 : Hid (Below w.heap.size w w6) := only_below (B5.out.alloc B5.out.size _) ho; clear ho)
      | (go_at_call 8; go_must (refine (H0.out w6 B6.out).mono ?_); rintro e w7 ⟨rfl, hb⟩; obtain ⟨d0, d1⟩ := req_kept c0 c1 hb; have B7 : Hid (Below w.heap.size w w7) := B6.out.trans (hb.mono B6.out.size); clear hb))
  · go_ret
    exact ⟨by simp, B6.out⟩
  · go_ret
    exact ⟨rfl, B7.out⟩
theorem int_lt {n : Int} (h : (Lit.int .i64 n).wf = true) : n < 9223372036854775808 := by
  simp [Lit.wf, IntKind.min, IntKind.max, IntKind.signed, IntKind.bits] at h
  omega
theorem codes_all (A : Nat → Addr) (id : Int) (x s : ByteArray) (w : World) (hE : Errs w A) (hi : id < 9223372036854775808) :
    Calls Tryd.prog 3 #[.int .i64 id, .string x, .string s] w fun e w' => e = .returned (.bool true) ∧ Below w.heap.size w w' := by
  by_cases hx : 5000 < x.size
  · exact codes_many A id x s w hE (Or.inl hx)
  by_cases hs : 4100 < s.size
  · exact codes_many A id x s w hE (Or.inr ⟨by omega, hs⟩)
  by_cases h0 : id < 0
  · exact codes_bad A id x s 1 w hE (by decide) (by omega) (by omega) (fun W hW => encode_neg A id x W hW h0) (fun W => reqText_neg id x W h0)
  obtain ⟨n, rfl⟩ : ∃ n : Nat, id = n := ⟨id.toNat, by omega⟩
  have hz := reqS_size n x
  by_cases h4 : 4000 < x.size
  · exact codes_bad A n x s 8 w hE (by decide) (by omega) (by omega) (fun W hW => encode_long A n x W hW (by omega) h4) (fun W => reqText_full n x W (by omega) (by omega) (by omega))
  by_cases hf : 4000 < (reqS n x).size
  · exact codes_bad A n x s 8 w hE (by decide) (by omega) (by omega) (fun W hW => encode_full A n x W hW (by omega) (by omega) hf) (fun W => reqText_full n x W (by omega) (by omega) hf)
  exact codes_good A n x s w hE (by omega) (by omega) (by omega) (by omega)
end Go.Proofs.YtigcbdcgfloggaaDoor
