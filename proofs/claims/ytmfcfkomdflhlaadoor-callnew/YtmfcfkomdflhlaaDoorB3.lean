/- CutItem by its contract. -/
import Derived.Test.YtmfcfkomdflhlaaDoorB2
namespace Go.Proofs.YtmfcfkomdflhlaaDoor
open Go Go.RowKit Go.Deep

/-- How CutItem ends. -/
def CutEnds (s : ByteArray) (m : Int) (w : World) (e : Ending) (w' : World) : Prop :=
  ((ItemOk s m ∧ e = .returned (.tuple #[.string (s.extract 4 (4 + numAt s 4)), .string (cutAt s (4 + numAt s 4 + fillN (numAt s 4))), .bool true])) ∨
   (¬ ItemOk s m ∧ e = .returned (.tuple #[.string (bs []), .string s, .bool false]))) ∧ Below w.heap.size w w'

theorem fill_step (c j : Nat) (h : j < fillN c) : 0 < (c + j) % 4 := by unfold fillN at h; omega
theorem fill_end (c : Nat) : (c + fillN c) % 4 = 0 := by unfold fillN; omega

/-- Behind the number: the bytes and their filling. -/
def FillOk (R : ByteArray) (c : Nat) : Prop := c + fillN c ≤ R.size ∧ ∀ x, (hx : c + x < R.size) → x < fillN c → R[c + x] = 0

end Go.Proofs.YtmfcfkomdflhlaaDoor
