/- A disk: Read, Flush, Fail. -/
import Derived.Test.YtlcloahkeamdkaaDoorDk2
import Derived.Laws.IdiomStrings
namespace Go.Proofs.YtlcloahkeamdkaaDoor
open Go Go.RowKit Go.Deep

theorem secUnd : Tryd.prog.underlying 81 = some (.array 64 5) := by kernel_rfl
theorem secUnd' : Tryd.prog.underlying 81 = some (.array (Tryd.prog.arrayLen 81) (Tryd.prog.elem 81)) := by kernel_rfl
theorem secInfo : (Tryd.prog.info? 81).map (fun i => (i.zero, i.size, i.bytes)) = some (some (.agg (secC zeroS).toArray), 64, 64) := by kernel_rfl
theorem secSize : (Tryd.prog.info? 81).map (·.size) = some 64 := by kernel_rfl
theorem secsUnd : Tryd.prog.underlying 55 = some (.slice 81) := by kernel_rfl
theorem slice_all (W : World) (g o : Nat) : (Instr.sliceAt 81 (.pointer (some ⟨g, o, none⟩)) none none none).run Tryd.prog W = .ok (.slice (some ⟨g, o, none⟩) 64 64) W := by
  have hl : Tryd.prog.arrayLen 81 = 64 := by kernel_rfl
  have he : Tryd.prog.elem 81 = 5 := by kernel_rfl
  have hadd : (⟨g, o, none⟩ : Addr).add (0 * 1) = ⟨g, o, none⟩ := by unfold Addr.add; split <;> simp_all
  rw [run_sliceAt_array_all (P := Tryd.prog) W 81 ⟨g, o, none⟩ secUnd', he, Tryd.sizeOf5, hl]
  simp only [Result.andThen, slicedAt, hadd]
  rw [if_neg (by omega)]
theorem sec_text {w : World} {g o : Nat} {s : Sec} (h : w.rangeAt g o (secC s)) : (convert 101 9 (.slice (some ⟨g, o, none⟩) 64 64)).run Tryd.prog w = .ok (.string (bs s.1)) w := by
  have := run_convert_bytes_back (P := Tryd.prog) w 101 9 5 ⟨g, o, none⟩ 64 s.1 Tryd.underlying101 Tryd.underlying5 Tryd.underlying9 (fun x hx => by
    rw [Addr.add_mid, h x (.int .u8 (s.1[x].toNat : Int)) (by simp [secC, Lib.byteCells, hx])])
  rwa [s.2] at this
section
variable {w w' : World} {base t : Nat} {pw : Option Nat} {vs vw : Value} {sec : List Sec} {wt : List Wr}
theorem DkAt.range (h : DkAt w base t pw vs vw sec wt) {g cap : Nat} (hv : vs = .slice (some ⟨g, 0, none⟩) sec.length cap) {n : Nat} {s : Sec} (hs : sec[n]? = some s) : w.rangeAt g (n * 64) (secC s) := by
  subst hv
  exact own_range h.secs (n * 64) (rowOf_part secC_len sec n s hs)
end
/-! ### Read -/
set_option maxHeartbeats 1000000 in
theorem read_bad (A : Nat → Addr) {w : World} {base t : Nat} {pw : Option Nat} {vs vw : Value} {sec : List Sec} {wt : List Wr} (hE : Err3 w A) (h : DkAt w base t pw vs vw sec wt) (n : Int) (hn : ¬ (0 ≤ n ∧ n < sec.length)) :
    Calls Tryd.prog 46 #[.pointer (some ⟨t, 0, none⟩), .int .i64 n] w fun e w' => e = .returned (.tuple #[.string ⟨#[]⟩, sErr A 1]) ∧ Only [] w w' := by
  have hh := has_any h n
  rw [decide_eq_false hn] at hh
  have H : Hid (Calls Tryd.prog 53 #[.pointer (some ⟨t, 0, none⟩), .int .i64 n] w fun e w' => e = .returned (.bool false) ∧ w' = w) := hh
  have c1 : w.cell? ⟨0, 0, none⟩ = some (.iface 154 (.pointer (some (A 1)))) := hE 1 (by simp)
  unfold sErr
  clear hE h hh
  go_enter Tryd.func46, Tryd.ntmps46
  go_wp2_with (go_at_call 53; refine H.out.mono ?_; rintro e w1 ⟨rfl, rfl⟩)
  go_region
  all_goals go_wp2
  all_goals go_ret2
  all_goals exact ⟨rfl, (Only.refl _ _).drew⟩
set_option maxHeartbeats 1000000 in
theorem read_ok {w : World} {base t : Nat} {pw : Option Nat} {vs vw : Value} {sec : List Sec} {wt : List Wr} (h : DkAt w base t pw vs vw sec wt) (n : Nat) (s : Sec) (hs : sec[n]? = some s) :
    Calls Tryd.prog 46 #[.pointer (some ⟨t, 0, none⟩), .int .i64 (n : Nat)] w fun e w' => e = .returned (.tuple #[.string (bs s.1), .nilIface]) ∧ w' = w := by
  have hlt : n < sec.length := (List.getElem?_eq_some_iff.1 hs).1
  have hm := h.most
  have hh := has_any h (n : Int)
  rw [decide_eq_true (by omega)] at hh
  have H : Hid (Calls Tryd.prog 53 #[.pointer (some ⟨t, 0, none⟩), .int .i64 (n : Nat)] w fun e w' => e = .returned (.bool true) ∧ w' = w) := hh
  obtain ⟨g, cap, cur, e, _⟩ := h.row
  have hr := h.range e hs
  have c2 := h.cells.2.2.1
  rw [e] at c2
  have ht := h.lt
  have hcv := sec_text hr
  have hsl := fun W => slice_all W g (n * 64)
  have hz := Tryd.sizeOf81
  clear hh h hr e
  go_enter Tryd.func46, Tryd.ntmps46
  go_wp2_with (go_at_call 53; refine H.out.mono ?_; rintro e w1 ⟨rfl, rfl⟩)
  go_ret2
  exact ⟨rfl, rfl⟩
end Go.Proofs.YtlcloahkeamdkaaDoor
