/- A disk: what an act leaves alone; Zeros; what stays behind the power's going. -/
import Derived.Test.YtlcloahkeamdkaaDoorDk13
import Derived.Test.YtlcloahkeamdkaaDoorDk11
import Derived.Test.YtlcloahkeamdkaaDoorP4
import Derived.Deep.OwnRows
import Derived.Laws.IdiomStrings
namespace Go.Proofs.YtlcloahkeamdkaaDoor
open Go Go.RowKit Go.Deep

theorem stepD_len (x : Ac) (s : DSt) : (stepD x s).2.sec.length = s.sec.length := by
  unfold stepD
  split
  · split
    · split
      · rfl
      · split
        · rfl
        · simp
    · rfl
  · split
    · split <;> rfl
    · split
      · split <;> rfl
      · split
        · simp [redo_len, undo_len]
        · rfl
theorem stepD_wt (x : Ac) (s : DSt) : (stepD x s).2.wt.length ≤ s.wt.length + 1 := by
  unfold stepD
  split
  · split
    · split
      · simp
      · split
        · simp
        · simp
    · simp
  · split
    · split <;> simp
    · split
      · split <;> simp
      · split <;> simp
theorem stepD_pw (x : Ac) (s : DSt) (hx : x.N < 9223372036854775808) (h : ∀ k, s.pw = some k → k < 9223372036854775808) : ∀ k, (stepD x s).2.pw = some k → k < 9223372036854775808 := by
  have hm : ∀ k, s.pw.map (· - 1) = some k → k < 9223372036854775808 := fun k hk => by
    obtain ⟨j, hj, rfl⟩ := Option.map_eq_some_iff.1 hk
    have := h j hj
    omega
  unfold stepD
  split
  · split
    · split
      · exact h
      · split
        · exact h
        · exact hm
    · exact h
  · split
    · split
      · exact h
      · exact hm
    · split
      · split
        · exact h
        · intro k hk
          have : x.N.toNat = k := by simpa using hk
          omega
      · split
        · intro k hk
          cases hk
        · exact h
theorem zer_pad {s : ByteArray} (h : s.size ≤ 64) : bs (padB s).1 = s ++ zer (64 - s.size) := by
  apply ByteArray.ext
  rw [ByteArray.data_append]
  apply Array.toList_inj.1
  rw [Array.toList_append]
  show (padB s).1 = s.data.toList ++ List.replicate (64 - s.size) 0
  exact padB_val h
theorem u8Info : (Tryd.prog.info? 5).map (fun i => (i.zero, i.size, i.bytes)) = some (some (.int .u8 0), 1, 1) := by kernel_rfl
/-! ### the foot -/
section
variable {w : World} {base t : Nat} {pw : Option Nat} {vs vw : Value} {sec : List Sec} {wt : List Wr}
theorem DkAt.foot_ge (h : DkAt w base t pw vs vw sec wt) : ∀ k ∈ dkFoot t vs vw, base ≤ k := fun k hk => by
  rcases mem_foot.1 hk with rfl | hk | hk
  · exact h.tb
  · exact (own_blk h.secs hk).1
  · exact (own_blk h.wts hk).1
theorem DkAt.foot_lt (h : DkAt w base t pw vs vw sec wt) : ∀ k ∈ dkFoot t vs vw, k < w.heap.size := fun k hk => by
  obtain ⟨c, ty, f, e⟩ := h.foot_cells hk
  exact (Array.getElem?_eq_some_iff.1 e).1
end
/-- One write waits, and the power goes. -/
theorem one_crash (S : List Sec) {a : Nat} {x0 p : Sec} (h : S[a]? = some x0) (keep : Bool) : redo (keepB [keep]) [⟨a, x0, p⟩] (undo (S.set a p) [⟨a, x0, p⟩]) 1 = if keep then S.set a p else S := by
  obtain ⟨ha, rfl⟩ := List.getElem?_eq_some_iff.1 h
  have e : undo (S.set a p) [⟨a, S[a], p⟩] = S := by simp [undo]
  rw [e]
  cases keep <;> simp [redo, keepB]
end Go.Proofs.YtlcloahkeamdkaaDoor
