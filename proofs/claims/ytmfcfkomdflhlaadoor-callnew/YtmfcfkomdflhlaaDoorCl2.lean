/- Calls: the document's answer for a request on the wire: RequestText, RequestOf by their contracts; coded, asks. -/
import Derived.Test.YtmfcfkomdflhlaaDoorCl3
import Derived.Test.YtmfcfkomdflhlaaDoorB3
namespace Go.Proofs.YtmfcfkomdflhlaaDoor
open Go Go.RowKit Go.Deep

theorem nil_add (s : ByteArray) : (⟨#[]⟩ : ByteArray) ++ s = s := by
  apply data_inj
  simp [ByteArray.data_append]
theorem reqS_eq (n : Nat) (s : ByteArray) : bs (be 8 n) ++ itemS s = reqS n s := by
  unfold reqS
  rw [nil_add]
def ReqR (s : ByteArray) (r : Value) : Prop :=
  (ReqOk s ∧ r = .tuple #[.int .i64 (numAt s 8 : Nat), .string (reqX s), .bool true]) ∨ (¬ ReqOk s ∧ r = .tuple #[.int .i64 0, .string ⟨#[]⟩, .bool false])
theorem toList_nil {t : ByteArray} (h : t.size = 0) : (t.toList == []) = true := by
  rw [Lib.toList_data, List.eq_nil_of_length_eq_zero (l := t.data.toList) (by rw [data_length]; exact h)]
  rfl
theorem toList_some {t : ByteArray} (h : 0 < t.size) : (t.toList == []) = false := by
  rw [Lib.toList_data, beq_eq_false_iff_ne]
  intro e
  have : t.data.toList.length = 0 := by rw [e]; rfl
  rw [data_length] at this
  omega
/-! ### coded, asks -/
theorem coded3_nil (w : World) : Calls Tryd.prog 7 #[.nilIface, .int .i64 0] w fun e w' => e = .returned (.bool true) ∧ Below w.heap.size w w' := by
  go_enter Tryd.func7, Tryd.ntmps7
  go_wp2_with (go_at_call 12; refine (code_nil _).mono ?_; rintro e w2 ⟨rfl, rfl⟩)
  go_ret
  exact ⟨rfl, Below.refl _ _⟩
theorem coded3_err (A : Nat → Addr) (k : Nat) (hk : k < 15) (w : World) (h : Errs w A) : Calls Tryd.prog 7 #[erV A k, .int .i64 ((k : Int) + 1)] w fun e w' => e = .returned (.bool true) ∧ Below w.heap.size w w' := by
  have H : Hid (Errs w A) := h
  clear h
  go_enter Tryd.func7, Tryd.ntmps7
  go_wp2_with (go_at_call 12; refine (code_err A k hk _ H.out).mono ?_; rintro e w2 ⟨rfl, hb⟩)
  go_ret
  exact ⟨rfl, hb⟩
theorem asks_text : reqS 1 ⟨#[97, 98]⟩ = ⟨#[0, 0, 0, 0, 0, 0, 0, 1, 0, 0, 0, 2, 97, 98, 0, 0]⟩ := by
  apply data_inj
  rw [reqS_data, itemS_data]
  decide
theorem asks_any (A : Nat → Addr) (w : World) (hE : Errs w A) : Calls Tryd.prog 4 #[] w fun e w' => e = .returned (.bool true) ∧ Below w.heap.size w w' := by
  have H : Hid (Calls Tryd.prog 10 #[.agg #[.int .i64 1, .string ⟨#[97, 98]⟩]] w fun e w' => e = .returned (.tuple #[.string ⟨#[0, 0, 0, 0, 0, 0, 0, 1, 0, 0, 0, 2, 97, 98, 0, 0]⟩, .nilIface]) ∧ Below w.heap.size w w') := by
    rw [← asks_text]
    exact encode_ok A 1 ⟨#[97, 98]⟩ w hE (by decide) (by decide) (by rw [asks_text]; decide)
  clear hE
  go_enter Tryd.func4, Tryd.ntmps4
  go_wp2_with (go_at_call 10; go_must (refine H.out.mono ?_); rintro e w1 ⟨rfl, hb1⟩)
  go_ret
  exact ⟨rfl, hb1⟩
end Go.Proofs.YtmfcfkomdflhlaaDoor
