/- NamesMatch and NamesStar, walked over the contracts. -/
import Derived.Test.YtnhpgpjopogbiabDoorS7
import Derived.Test.YtnhpgpjopogbiabDoorS8
import Derived.Test.YtnhpgpjopogbiabDoorK2
namespace Go.Proofs.YtnhpgpjopogbiabDoor
open Go Go.RowKit Go.Deep

theorem namesMatch_any (P S : ByteArray) (A : Nat → Addr) (m : Int) (w : World) (hE : Errs w A) (hm : w.cell? ⟨18, 0, none⟩ = some (.int .i64 m)) :
    Calls Tryd.prog 3 #[.string P, .string S] w fun e w' => e = .returned (.bool true) ∧ Below w.heap.size w w' := by
  have hn := named_any A m w hE hm
  clear hE hm
  by_cases hP : 60 < P.size
  · have hd : decide (60 < (P.size : Int)) = true := decide_eq_true (by omega)
    go_enter Tryd.func3, Tryd.ntmps3
    go_wp2_with (go_at_call 5; go_must (refine hn.mono ?_); rintro e w1 ⟨rfl, hb1⟩)
    go_ret
    exact ⟨rfl, hb1⟩
  · have hd : decide (60 < (P.size : Int)) = false := decide_eq_false (by omega)
    by_cases hS : 60 < S.size
    · have hd' : decide (60 < (S.size : Int)) = true := decide_eq_true (by omega)
      go_enter Tryd.func3, Tryd.ntmps3
      go_wp2_with (go_at_call 5; go_must (refine hn.mono ?_); rintro e w1 ⟨rfl, hb1⟩)
      go_ret
      exact ⟨rfl, hb1⟩
    · have hd' : decide (60 < (S.size : Int)) = false := decide_eq_false (by omega)
      go_enter Tryd.func3, Tryd.ntmps3
      go_wp2_with (go_at_call 5; go_must (refine hn.mono ?_); rintro e w1 ⟨rfl, hb1⟩)
      have HB1 : Hid (Below w.heap.size w w1) := hb1
      clear hb1 hn
      refine (match_any P S w1 (by omega) (by omega)).mono ?_
      rintro e w2 ⟨rfl, hb2⟩
      have HB2 : Hid (Below w.heap.size w w2) := HB1.out.trans (hb2.mono HB1.out.size)
      clear hb2 HB1
      have hq := matchOf_any P S w2 (by omega) (by omega)
      generalize pm P S P.size S.size = v at hq ⊢
      go_wp2_with (go_at_call 7; go_must (refine hq.mono ?_); rintro e w3 ⟨rfl, hb3⟩)
      go_ret
      exact ⟨by cases v <;> rfl, HB2.out.trans (hb3.mono HB2.out.size)⟩
end Go.Proofs.YtnhpgpjopogbiabDoor
