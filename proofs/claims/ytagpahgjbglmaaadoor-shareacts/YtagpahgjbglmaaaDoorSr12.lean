/- ShareActs: for every list of acts. -/
import Derived.Test.YtagpahgjbglmaaaDoorSr11
namespace Go.Proofs.YtagpahgjbglmaaaDoor
open Go Go.RowKit Go.Deep

set_option maxRecDepth 100000 in
set_option maxHeartbeats 1000000 in
theorem sacts_out (a : Option Addr) (len cap : Nat) (A : Nat → Addr) (w : World) (hE : Errs w A) (h : 80 < len) :
    Calls Tryd.prog 3 #[.slice a len cap] w fun e w' => e = .returned (.bool true) ∧ Below w.heap.size w w' := by
  have hsh := shared_any A w hE.five
  have hd1 : decide (80 < (len : Int)) = true := decide_eq_true (by omega)
  clear hE
  go_enter Tryd.func3, Tryd.ntmps3
  go_wp2_with (go_at_call 5; refine hsh.mono ?_; rintro e w1 ⟨rfl, hb1⟩; have HB : Hid (Below w.heap.size w w1) := hb1; clear hb1 hsh)
  go_ret
  exact ⟨rfl, HB.out⟩
set_option maxRecDepth 100000 in
set_option maxHeartbeats 2000000 in
theorem sacts_none (a : Option Addr) (cap : Nat) (A : Nat → Addr) (w : World) (hE : Errs w A) :
    Calls Tryd.prog 3 #[.slice a 0 cap] w fun e w' => e = .returned (.bool true) ∧ Below w.heap.size w w' := by
  have hsh := shared_any A w hE.five
  clear hE
  go_enter Tryd.func3, Tryd.ntmps3
  go_wp2_with (go_at_call 5; refine hsh.mono ?_; rintro e w1 ⟨rfl, hb1⟩; have HG0 : Hid (Two0 w ((w1.alloc (.cells #[.slice none 0 0] 27)).alloc (.cells #[.slice none 0 0] 31)) w1.heap.size (w1.heap.size + 1) [] []) := Two0.fresh hb1; clear hsh hb1)
  generalize (w1.alloc (.cells #[.slice none 0 0] 27)).alloc (.cells #[.slice none 0 0] 31) = wr at HG0 ⊢
  generalize w1.heap.size + 1 = r at HG0 ⊢
  generalize w1.heap.size = t at HG0 ⊢
  have HL : Hid (∀ _u : Unit, _) := fun _u => HG0.out.listP
  rw [show ([] : List Opn).length = 0 from rfl] at HL
  refine wp_loop_rounds 1 ?_
  rw [rounds_succ]
  go_wp2_with (first
    | (go_at_call 21; refine (HL.out ()).mono ?_; rintro e w3 ⟨ad, cp, rfl, hO3, had, hT3⟩; have HA : Hid (([] : List Opn) ≠ [] → ∃ g, ad = some ⟨g, 0, none⟩) := had; have HO3 : Hid (Opns w3 wr.heap.size (.slice ad 0 cp) []) := hO3; have HT3 : Hid (Two0 w w3 t r [] []) := hT3; clear HL hO3 had hT3)
    | (go_at_call 20; refine (opens_any w3 wr.heap.size 0 cp ad [] HO3.out rfl (by decide) HA.out).mono ?_; rintro e w4 ⟨v4, rfl, hR4, ho4⟩; have HR4 : Hid (Rns w4 w3.heap.size v4 []) := hR4; have HT4 : Hid (Two0 w w4 t r [] []) := HT3.out.only ho4; clear hR4 ho4)
    | (go_at_call 22; refine (HT4.out.listD List.Perm.nil).mono ?_; rintro e w5 ⟨z5, rfl, hR5, hT5, ho5⟩; have HR5 : Hid (Rns w5 w.heap.size z5 []) := hR5; have HV5 : Hid (Rns w5 w3.heap.size v4 []) := HR4.out.only ho5 (fun _ _ => by simp); have HB5 : Hid (Below w.heap.size w w5) := hT5.shw.below; clear hR5 hT5 ho5)
    | (go_at_call 19; refine (same_any w5 w3.heap.size w.heap.size v4 z5 [] HV5.out HR5.out (by decide)).mono ?_; rintro e w6 ⟨rfl, ho6⟩; have HB6 : Hid (Below w.heap.size w w6) := HB5.out.trans (ho6.to_below HB5.out.size (fun k hk => by cases hk)); clear ho6)
    | go_in)
  go_ret
  exact ⟨rfl, HB6.out⟩
theorem sacts_all (a : Option Addr) (len cap : Nat) (A : Nat → Addr) (w : World) (hp : IsSActs w a len) (hE : Errs w A) :
    Calls Tryd.prog 3 #[.slice a len cap] w fun e w' => e = .returned (.bool true) ∧ Below w.heap.size w w' := by
  by_cases h : 80 < len
  · exact sacts_out a len cap A w hE h
  · rcases hp with rfl | ⟨ab, ao, P, rfl, hP⟩
    · exact sacts_none a cap A w hE
    · exact sacts_walk ab ao len cap P A w hP (by omega) hE
end Go.Proofs.YtagpahgjbglmaaaDoor
