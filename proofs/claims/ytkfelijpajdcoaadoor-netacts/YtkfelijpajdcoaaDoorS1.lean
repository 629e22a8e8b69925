/- Package names, ahead of the rest: a sign of a name (the closure that signs makes), isName and Check, by their contracts in the document's words. -/
import Derived.Test.YtkfelijpajdcoaaDoorM0
import Derived.Test.YtkfelijpajdcoaaDoorShelf
import Derived.Lib.IndexAny
namespace Go.Proofs.YtkfelijpajdcoaaDoor
open Go Go.RowKit Go.Deep

/-- Where a byte stands among '.-_'. -/
def ix (c : Nat) : Int := if c = 46 then 0 else if c = 45 then 1 else if c = 95 then 2 else -1
theorem ix_is (c : UInt8) : Lib.indexByte [46, 45, 95] c = ix c.toNat := by
  have key : ∀ k : Fin 256, Lib.indexByte [46, 45, 95] (UInt8.ofNat k.val) = ix k.val := by decide +kernel
  have := key ⟨c.toNat, c.toNat_lt⟩
  simpa using this
theorem place_any (c : UInt8) (w : World) : Calls Tryd.prog 49 #[.string ⟨#[46, 45, 95]⟩, .int .u8 c.toNat] w fun e w' => e = .returned (.int .i64 (ix c.toNat)) ∧ w = w' :=
  (Tryd.strings_IndexByte ⟨#[46, 45, 95]⟩ (c.toNat : Int) w).mono fun e w' ⟨he, hw⟩ => ⟨by
    rw [he, ← ix_is]
    simp, hw.symm⟩

theorem ix_not (c : Nat) (h1 : c ≠ 46) (h2 : c ≠ 45) (h3 : c ≠ 95) : ix c = -1 := by unfold ix; rw [if_neg h1, if_neg h2, if_neg h3]

set_option maxHeartbeats 1000000 in
set_option maxRecDepth 100000 in
theorem sign_any (c : UInt8) (g : Nat) (w : World) (h : w.cell? ⟨g, 0, none⟩ = some (.string ⟨#[46, 45, 95]⟩)) :
    Calls Tryd.prog 48 #[.int .u8 c.toNat, .pointer (some ⟨g, 0, none⟩)] w fun e w' => e = .returned (.bool (okC c.toNat)) ∧ w = w' := by
  have hp := place_any c w
  have hx : ∃ k, ix c.toNat = k ∧ (k = -1 ∧ ¬ (46 ≤ c.toNat ∧ c.toNat ≤ 46) ∧ ¬ (45 ≤ c.toNat ∧ c.toNat ≤ 45) ∧ ¬ (95 ≤ c.toNat ∧ c.toNat ≤ 95) ∨ k = 0 ∧ 46 ≤ c.toNat ∧ c.toNat ≤ 46 ∨ k = 1 ∧ 45 ≤ c.toNat ∧ c.toNat ≤ 45 ∨ k = 2 ∧ 95 ≤ c.toNat ∧ c.toNat ≤ 95) := by
    refine ⟨_, rfl, ?_⟩
    unfold ix
    split
    · omega
    · split
      · omega
      · split <;> omega
  obtain ⟨k, hk, hk'⟩ := hx
  rw [hk] at hp
  clear hk
  rcases classes c.toNat with ⟨hok, hcl⟩ | ⟨hok, hcl⟩
  all_goals rw [hok]
  all_goals
    clear hok
    rcases hcl with ⟨hl, hu⟩ | ⟨hl, hu⟩ | ⟨hl, hu⟩ | ⟨hl, hu⟩ | ⟨hl, hu⟩ | ⟨hl, hu⟩
    all_goals
      rcases hk' with ⟨rfl, hk'⟩ | ⟨rfl, hk'⟩ | ⟨rfl, hk'⟩ | ⟨rfl, hk'⟩
      all_goals first
        | (exfalso; omega)
        | skip
      all_goals
        clear hk'
        go_enter Tryd.func48, Tryd.ntmps48
        go_wp2_with (go_at_call 49; go_must (refine hp.mono ?_); rintro e w1 ⟨rfl, rfl⟩)
        all_goals first
          | (exfalso; omega)
          | (go_ret; exact ⟨rfl, rfl⟩)
          | (go_ret; exact ⟨congrArg (fun b => Ending.returned (Value.bool b)) (by simp; omega), rfl⟩)

theorem signs_any (s : ByteArray) (w : World) : Calls Tryd.prog 40 #[.string s] w fun e w' => e = .returned (.func (.func 48) #[] #[.pointer (some ⟨w.heap.size, 0, none⟩)]) ∧ w' = w.alloc (.cells #[.string s] 9) := by
  have hmf : ∀ (fn : Fn) (first cap : Array Value) (w : World), (Instr.makeFunc fn first cap).run Tryd.prog w = .ok (.func fn first cap) w := fun _ _ _ _ => rfl
  go_enter Tryd.func40, Tryd.ntmps40
  go_wp2
  go_ret
  exact ⟨rfl, rfl⟩

/-- Yes or no, as OkN says. -/
def Says (s : ByteArray) (e : Ending) : Prop := (OkN s ∧ e = .returned (.bool true)) ∨ (¬ OkN s ∧ e = .returned (.bool false))

theorem isName_short (s : ByteArray) (w : World) (h : (s.toList == []) = true ∨ (s.toList == []) = false ∧ (s.toList == [46]) = true ∨ (s.toList == []) = false ∧ (s.toList == [46]) = false ∧ (s.toList == [46, 46]) = true) : Calls Tryd.prog 29 #[.string s] w fun e w' => e = .returned (.bool false) ∧ w = w' := by
  rcases h with h | ⟨h, h'⟩ | ⟨h, h', h''⟩
  all_goals
    go_enter Tryd.func29, Tryd.ntmps29
    go_wp2
    go_ret
    exact ⟨rfl, rfl⟩
theorem isName_long (s : ByteArray) (w : World) (h : (s.toList == []) = false) (h' : (s.toList == [46]) = false) (h'' : (s.toList == [46, 46]) = false) (hl : 24 < s.size) : Calls Tryd.prog 29 #[.string s] w fun e w' => e = .returned (.bool false) ∧ w = w' := by
  have hd : decide (24 < (s.size : Int)) = true := decide_eq_true (by omega)
  go_enter Tryd.func29, Tryd.ntmps29
  go_wp2
  go_ret
  exact ⟨rfl, rfl⟩
end Go.Proofs.YtkfelijpajdcoaaDoor
