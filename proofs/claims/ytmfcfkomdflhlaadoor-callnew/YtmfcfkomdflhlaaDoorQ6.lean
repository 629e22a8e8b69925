/- Package names, ahead of the rest: a sign of a name (the closure that signs makes), isName and Check, by their contracts in the document's words. -/
import Derived.Test.YtmfcfkomdflhlaaDoorM0
import Derived.Test.YtmfcfkomdflhlaaDoorShelf
import Derived.Lib.IndexAny
import Derived.Test.YtmfcfkomdflhlaaDoorE3
/- Package names, ahead of the rest: a sign of a name (the closure that signs makes), isName and Check, by their contracts in the document's words. -/
namespace Go.Proofs.YtmfcfkomdflhlaaDoor
open Go Go.RowKit Go.Deep

/-- Where a byte stands among '.-_'. -/
def ix (c : Nat) : Int := if c = 46 then 0 else if c = 45 then 1 else if c = 95 then 2 else -1
theorem ix_is (c : UInt8) : Lib.indexByte [46, 45, 95] c = ix c.toNat := by
  have key : ∀ k : Fin 256, Lib.indexByte [46, 45, 95] (UInt8.ofNat k.val) = ix k.val := by decide +kernel
  have := key ⟨c.toNat, c.toNat_lt⟩
  simpa using this
theorem place_any (c : UInt8) (w : World) : Calls Tryd.prog 41 #[.string ⟨#[46, 45, 95]⟩, .int .u8 c.toNat] w fun e w' => e = .returned (.int .i64 (ix c.toNat)) ∧ w = w' :=
  (Tryd.strings_IndexByte ⟨#[46, 45, 95]⟩ (c.toNat : Int) w).mono fun e w' ⟨he, hw⟩ => ⟨by
    rw [he, ← ix_is]
    simp, hw.symm⟩

theorem ix_not (c : Nat) (h1 : c ≠ 46) (h2 : c ≠ 45) (h3 : c ≠ 95) : ix c = -1 := by unfold ix; rw [if_neg h1, if_neg h2, if_neg h3]

set_option maxHeartbeats 1000000 in
set_option maxRecDepth 100000 in
theorem sign_any (c : UInt8) (g : Nat) (w : World) (h : w.cell? ⟨g, 0, none⟩ = some (.string ⟨#[46, 45, 95]⟩)) :
    Calls Tryd.prog 40 #[.int .u8 c.toNat, .pointer (some ⟨g, 0, none⟩)] w fun e w' => e = .returned (.bool (okC c.toNat)) ∧ w = w' := by
  have hp := place_any c w
  have hx : ∃ k, ix c.toNat = k ∧ (k = -1 ∧ ¬ (46 ≤ c.toNat ∧ c.toNat ≤ 46) ∧ ¬ (45 ≤ c.toNat ∧ c.toNat ≤ 45) ∧ ¬ (95 ≤ c.toNat ∧ c.toNat ≤ 95) ∨ k = 0 ∧ 46 ≤ c.toNat ∧ c.toNat ≤ 46 ∨ k = 1 ∧ 45 ≤ c.toNat ∧ c.toNat ≤ 45 ∨ k = 2 ∧ 95 ≤ c.toNat ∧ c.toNat ≤ 95) := by
    refine ⟨_, rfl, ?_⟩
    unfold ix
    split
    · omega
    · split
      · omega
      · split <;> omega
  obtain ⟨k, hk, hk'⟩ := hx
  rw [hk] at hp
  clear hk
  rcases classes c.toNat with ⟨hok, hcl⟩ | ⟨hok, hcl⟩
  all_goals rw [hok]
  all_goals
    clear hok
    rcases hcl with ⟨hl, hu⟩ | ⟨hl, hu⟩ | ⟨hl, hu⟩ | ⟨hl, hu⟩ | ⟨hl, hu⟩ | ⟨hl, hu⟩
    all_goals
      rcases hk' with ⟨rfl, hk'⟩ | ⟨rfl, hk'⟩ | ⟨rfl, hk'⟩ | ⟨rfl, hk'⟩
      all_goals first
        | (exfalso; omega)
        | skip
      all_goals
        clear hk'
        go_enter Tryd.func40, Tryd.ntmps40
        go_wp2_with (go_at_call 41; go_must (refine hp.mono ?_); rintro e w1 ⟨rfl, rfl⟩)
        all_goals first
          | (exfalso; omega)
          | (go_ret; exact ⟨rfl, rfl⟩)
          | (go_ret; exact ⟨congrArg (fun b => Ending.returned (Value.bool b)) (by simp; omega), rfl⟩)

theorem signs_any (s : ByteArray) (w : World) : Calls Tryd.prog 31 #[.string s] w fun e w' => e = .returned (.func (.func 40) #[] #[.pointer (some ⟨w.heap.size, 0, none⟩)]) ∧ w' = w.alloc (.cells #[.string s] 9) := by
  have hmf : ∀ (fn : Fn) (first cap : Array Value) (w : World), (Instr.makeFunc fn first cap).run Tryd.prog w = .ok (.func fn first cap) w := fun _ _ _ _ => rfl
  go_enter Tryd.func31, Tryd.ntmps31
  go_wp2
  go_ret
  exact ⟨rfl, rfl⟩

/-- Yes or no, as OkN says. -/
def Says (s : ByteArray) (e : Ending) : Prop := (OkN s ∧ e = .returned (.bool true)) ∨ (¬ OkN s ∧ e = .returned (.bool false))

theorem isName_short (s : ByteArray) (w : World) (h : (s.toList == []) = true ∨ (s.toList == []) = false ∧ (s.toList == [46]) = true ∨ (s.toList == []) = false ∧ (s.toList == [46]) = false ∧ (s.toList == [46, 46]) = true) : Calls Tryd.prog 19 #[.string s] w fun e w' => e = .returned (.bool false) ∧ w = w' := by
  rcases h with h | ⟨h, h'⟩ | ⟨h, h', h''⟩
  all_goals
    go_enter Tryd.func19, Tryd.ntmps19
    go_wp2
    go_ret
    exact ⟨rfl, rfl⟩
theorem isName_long (s : ByteArray) (w : World) (h : (s.toList == []) = false) (h' : (s.toList == [46]) = false) (h'' : (s.toList == [46, 46]) = false) (hl : 24 < s.size) : Calls Tryd.prog 19 #[.string s] w fun e w' => e = .returned (.bool false) ∧ w = w' := by
  have hd : decide (24 < (s.size : Int)) = true := decide_eq_true (by omega)
  go_enter Tryd.func19, Tryd.ntmps19
  go_wp2
  go_ret
  exact ⟨rfl, rfl⟩
end Go.Proofs.YtmfcfkomdflhlaaDoor
/- Package names: isName and Check by their contracts in the document's words. -/
namespace Go.Proofs.YtmfcfkomdflhlaaDoor
open Go Go.RowKit Go.Deep

set_option maxHeartbeats 1000000 in
theorem isName_loop (s : ByteArray) (w : World) (h : (s.toList == []) = false) (h' : (s.toList == [46]) = false) (h'' : (s.toList == [46, 46]) = false) (h1 : 1 ≤ s.size) (h2 : s.size ≤ 24) :
    Calls Tryd.prog 19 #[.string s] w fun e w' => Says s e ∧ Below w.heap.size w w' := by
  have hd : decide (24 < (s.size : Int)) = false := decide_eq_false (by omega)
  have HS : Hid (∀ c : UInt8, Calls Tryd.prog 40 #[.int .u8 c.toNat, .pointer (some ⟨w.heap.size, 0, none⟩)] (w.alloc (.cells #[.string ⟨#[46, 45, 95]⟩] 9)) fun e w' => e = .returned (.bool (okC c.toNat)) ∧ w.alloc (.cells #[.string ⟨#[46, 45, 95]⟩] 9) = w') :=
    fun c => sign_any c _ _ (by rw [World.cell?_alloc_new]; rfl)
  have hB : Hid (Below w.heap.size w (w.alloc (.cells #[.string ⟨#[46, 45, 95]⟩] 9))) := (Below.refl _ _).alloc (Nat.le_refl _) _
  have H3 : Hid ((s.toList == [46]) = false ∧ (s.toList == [46, 46]) = false) := ⟨h', h''⟩
  go_enter Tryd.func19, Tryd.ntmps19
  go_wp2_with (go_at_call 31; go_must (refine (signs_any _ _).mono ?_); rintro e w1 ⟨rfl, rfl⟩)
  clear h h' h'' hd
  go_loop [23] (fun i => ∃ j : Nat, j ≤ s.size ∧ i = .int .i64 j ∧ ∀ x, (hx : x < s.size) → x < j → okC s[x].toNat = true) (fun i => s.size - (intOf i).toNat)
  case atStart => exact ⟨0, Nat.zero_le _, rfl, fun x _ h => absurd h (Nat.not_lt_zero _)⟩
  case round =>
    obtain ⟨j, hj, rfl, hall⟩ := hrel
    have HA : Hid _ := hall
    clear hall
    by_cases hlt : j < s.size
    · have hc := HS.out s[j]
      cases hok : okC s[j].toNat
      · rw [hok] at hc
        have HN : Hid (¬ OkN s) := fun k => by
          have := k.2.2.2.2 j hlt
          rw [hok] at this
          cases this
        clear hok HA
        go_wp2_with (go_at_call 40; go_must (refine hc.mono ?_); rintro e w1 ⟨rfl, rfl⟩)
        go_ret
        exact ⟨Or.inr ⟨HN.out, rfl⟩, hB.out⟩
      · rw [hok] at hc
        have HN : Hid (∀ x, (hx : x < s.size) → x < j + 1 → okC s[x].toNat = true) := fun x hx hxj => by
          rcases Nat.lt_or_ge x j with h1 | h1
          · exact HA.out x hx h1
          · obtain rfl : x = j := by omega
            exact hok
        clear hok HA
        go_wp2_with (go_at_call 40; go_must (refine hc.mono ?_); rintro e w1 ⟨rfl, rfl⟩)
        go_round
        case rel => exact ⟨j + 1, by omega, by go_num, HN.out⟩
        case measure => simp [intOf]; omega
    · have HO : Hid (OkN s) := ⟨h1, h2, H3.out.1, H3.out.2, fun x hx => HA.out x hx (by omega)⟩
      clear HA
      go_wp2
      go_ret
      exact ⟨Or.inl ⟨HO.out, rfl⟩, hB.out⟩

theorem empty_toList (s : ByteArray) (h : (s.toList == []) = true) : s.size = 0 := by
  have h2 : s.toList = [] := by simpa using h
  have h3 : s.data.toList = [] := by rw [← h2]; exact (Lib.toList_data s).symm
  have : s.data.toList.length = 0 := by rw [h3]; rfl
  exact this
theorem full_toList (s : ByteArray) (h : (s.toList == []) = false) : 1 ≤ s.size := by
  rcases Nat.lt_or_ge 0 s.size with h1 | h1
  · exact h1
  · exfalso
    have h3 : s.data.toList = [] := List.eq_nil_of_length_eq_zero (Nat.le_zero.1 h1)
    rw [Lib.toList_data, h3] at h
    cases h

theorem isName_any (s : ByteArray) (w : World) : Calls Tryd.prog 19 #[.string s] w fun e w' => Says s e ∧ Below w.heap.size w w' := by
  cases h : (s.toList == [])
  · cases h' : (s.toList == [46])
    · cases h'' : (s.toList == [46, 46])
      · rcases Nat.lt_or_ge 24 s.size with hl | hl
        · exact (isName_long s w h h' h'' hl).mono fun e w' k => ⟨Or.inr ⟨fun o => absurd o.2.1 (by omega), k.1⟩, k.2 ▸ Below.refl _ _⟩
        · exact isName_loop s w h h' h'' (full_toList s h) hl
      · exact (isName_short s w (Or.inr (Or.inr ⟨h, h', h''⟩))).mono fun e w' k => ⟨Or.inr ⟨fun o => Bool.noConfusion (h''.symm.trans o.2.2.2.1), k.1⟩, k.2 ▸ Below.refl _ _⟩
    · exact (isName_short s w (Or.inr (Or.inl ⟨h, h'⟩))).mono fun e w' k => ⟨Or.inr ⟨fun o => Bool.noConfusion (h'.symm.trans o.2.2.1), k.1⟩, k.2 ▸ Below.refl _ _⟩
  · exact (isName_short s w (Or.inl h)).mono fun e w' k => ⟨Or.inr ⟨fun o => absurd o.1 (by have := empty_toList s h; omega), k.1⟩, k.2 ▸ Below.refl _ _⟩

theorem check_any (s : ByteArray) (A : Nat → Addr) (w : World) (h : Errs w A) : Calls Tryd.prog 11 #[.string s] w fun e w' => ((OkN s ∧ e = .returned .nilIface) ∨ (¬ OkN s ∧ e = .returned (.iface 171 (.pointer (some (A 3)))))) ∧ Below w.heap.size w w' := by
  have H : Hid _ := h
  clear h
  go_enter Tryd.func11, Tryd.ntmps11
  go_wp2_with fail
  refine (isName_any _ _).mono ?_
  rintro e w1 ⟨(⟨ho, rfl⟩ | ⟨ho, rfl⟩), hb⟩
  · have HO : Hid _ := ho
    have HB : Hid _ := hb
    clear ho hb
    go_wp2
    go_ret
    exact ⟨Or.inl ⟨HO.out, rfl⟩, HB.out⟩
  · have HO : Hid _ := ho
    have HB : Hid _ := hb
    have hcell : w1.cell? ⟨2, 0, none⟩ = some (.iface 171 (.pointer (some (A 3)))) := ((H.out.below hb (Nat.le_refl _)).cell 3 (by decide))
    clear ho hb
    go_wp2
    go_ret
    exact ⟨Or.inr ⟨HO.out, rfl⟩, HB.out⟩
end Go.Proofs.YtmfcfkomdflhlaaDoor
