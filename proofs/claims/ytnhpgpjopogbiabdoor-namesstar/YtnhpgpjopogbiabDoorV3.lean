/- NamesStar, walked over the contracts. -/
import Derived.Test.YtnhpgpjopogbiabDoorS7
import Derived.Test.YtnhpgpjopogbiabDoorS8
import Derived.Test.YtnhpgpjopogbiabDoorK2
namespace Go.Proofs.YtnhpgpjopogbiabDoor
open Go Go.RowKit Go.Deep

theorem yes_self (a : ByteArray) (w : World) (h : a.size ≤ 200) : Calls Tryd.prog 6 #[.string a, .string a] w fun e w' => e = .returned (.bool true) ∧ Below w.heap.size w w' :=
  (match_any a a w h h).mono fun _ _ k => ⟨by rw [k.1, pm_self], k.2⟩
theorem yes_mid (a b x : ByteArray) (w : World) (h : a.size + b.size ≤ 60) (hx : x.size ≤ 60) : Calls Tryd.prog 6 #[.string (a ++ ⟨#[42]⟩ ++ b), .string (a ++ x ++ b)] w fun e w' => e = .returned (.bool true) ∧ Below w.heap.size w w' :=
  (match_any (a ++ ⟨#[42]⟩ ++ b) (a ++ x ++ b) w (by rw [ByteArray.size_append, ByteArray.size_append]; have : (⟨#[42]⟩ : ByteArray).size = 1 := rfl; omega) (by rw [ByteArray.size_append, ByteArray.size_append]; omega)).mono fun _ _ k => ⟨by rw [k.1, pm_mid a b x ⟨#[42]⟩ rfl rfl], k.2⟩
theorem yes_all (x : ByteArray) (w : World) (hx : x.size ≤ 60) : Calls Tryd.prog 6 #[.string ⟨#[42]⟩, .string x] w fun e w' => e = .returned (.bool true) ∧ Below w.heap.size w w' :=
  (match_any ⟨#[42]⟩ x w (by decide) (by omega)).mono fun _ _ k => ⟨by rw [k.1, show (⟨#[42]⟩ : ByteArray).size = 1 from rfl, pm_all x ⟨#[42]⟩ rfl], k.2⟩
theorem yes_one (x : ByteArray) (w : World) (hx : x.size = 1) : Calls Tryd.prog 6 #[.string ⟨#[63]⟩, .string x] w fun e w' => e = .returned (.bool true) ∧ Below w.heap.size w w' :=
  (match_any ⟨#[63]⟩ x w (by decide) (by omega)).mono fun _ _ k => ⟨by rw [k.1, show (⟨#[63]⟩ : ByteArray).size = 1 from rfl, hx, pm_sign x ⟨#[63]⟩ rfl], k.2⟩

set_option maxRecDepth 100000 in
theorem namesStar_any (a b x : ByteArray) (A : Nat → Addr) (m : Int) (w : World) (ha : a.size ≤ 140737488351232) (hb : b.size ≤ 140737488351232) (hE : Errs w A) (hm : w.cell? ⟨18, 0, none⟩ = some (.int .i64 m)) :
    Calls Tryd.prog 4 #[.string a, .string b, .string x] w fun e w' => e = .returned (.bool true) ∧ Below w.heap.size w w' := by
  have hn := named_any A m w hE hm
  clear hE hm
  have hw : IntKind.i64.wrap ((a.size : Int) + (b.size : Int)) = (a.size : Int) + (b.size : Int) := by simp [IntKind.wrap, IntKind.signed, IntKind.bits]; omega
  by_cases hab : 60 < a.size + b.size
  · have hd : decide (60 < (a.size : Int) + (b.size : Int)) = true := decide_eq_true (by omega)
    go_enter Tryd.func4, Tryd.ntmps4
    go_wp2_with (go_at_call 5; go_must (refine hn.mono ?_); rintro e w1 ⟨rfl, hb1⟩)
    go_ret
    exact ⟨rfl, hb1⟩
  · have hd : decide (60 < (a.size : Int) + (b.size : Int)) = false := decide_eq_false (by omega)
    by_cases hX : 60 < x.size
    · have hd' : decide (60 < (x.size : Int)) = true := decide_eq_true (by omega)
      go_enter Tryd.func4, Tryd.ntmps4
      go_wp2_with (go_at_call 5; go_must (refine hn.mono ?_); rintro e w1 ⟨rfl, hb1⟩)
      go_ret
      exact ⟨rfl, hb1⟩
    · have hd' : decide (60 < (x.size : Int)) = false := decide_eq_false (by omega)
      by_cases h1 : x.size = 1
      · have e1 : ((x.size : Int) != 1) = false := by simp; omega
        go_enter Tryd.func4, Tryd.ntmps4
        go_wp2_with (go_at_call 5; go_must (refine hn.mono ?_); rintro e w1 ⟨rfl, hb1⟩)
        refine (yes_self a w1 (by omega)).mono ?_
        rintro e w2 ⟨rfl, hb2⟩
        go_wp2_with fail
        refine (yes_mid a b x w2 (by omega) (by omega)).mono ?_
        rintro e w3 ⟨rfl, hb3⟩
        go_wp2_with fail
        refine (yes_all x w3 (by omega)).mono ?_
        rintro e w4 ⟨rfl, hb4⟩
        go_wp2_with fail
        refine (yes_one x w4 h1).mono ?_
        rintro e w5 ⟨rfl, hb5⟩
        go_wp2
        go_ret
        exact ⟨rfl, hb1.trans ((hb2.trans ((hb3.trans ((hb4.trans (hb5.mono hb4.size)).mono hb3.size)).mono hb2.size)).mono hb1.size)⟩
      · have e1 : ((x.size : Int) != 1) = true := by simp; omega
        go_enter Tryd.func4, Tryd.ntmps4
        go_wp2_with (go_at_call 5; go_must (refine hn.mono ?_); rintro e w1 ⟨rfl, hb1⟩)
        refine (yes_self a w1 (by omega)).mono ?_
        rintro e w2 ⟨rfl, hb2⟩
        go_wp2_with fail
        refine (yes_mid a b x w2 (by omega) (by omega)).mono ?_
        rintro e w3 ⟨rfl, hb3⟩
        go_wp2_with fail
        refine (yes_all x w3 (by omega)).mono ?_
        rintro e w4 ⟨rfl, hb4⟩
        go_wp2
        go_ret
        exact ⟨rfl, hb1.trans ((hb2.trans ((hb3.trans (hb4.mono hb3.size)).mono hb2.size)).mono hb1.size)⟩
end Go.Proofs.YtnhpgpjopogbiabDoor
