/- DiskActs: the two disks side by side: what they tell; the law's helpers. -/
import Derived.Test.YtlddnbpcinoenaaDoorDn4
namespace Go.Proofs.YtlddnbpcinoenaaDoor
open Go Go.RowKit Go.Deep

theorem coded4_nil (w : World) : Calls Tryd.prog 8 #[.nilIface, .int .i64 0] w fun e w' => e = .returned (.bool true) ∧ w = w' := by
  go_enter Tryd.func8, Tryd.ntmps8
  go_wp2_with (go_at_call 21; refine (code_nil _).mono ?_; rintro e w2 ⟨rfl, rfl⟩)
  go_ret
  exact ⟨rfl, rfl⟩
theorem coded4_err (A : Nat → Addr) (k : Nat) (hk : k < 15) (w : World) (h : Errs w A) :
    Calls Tryd.prog 8 #[.iface 112 (.pointer (some (A k))), .int .i64 ((k : Int) + 1)] w fun e w' => e = .returned (.bool true) ∧ Below w.heap.size w w' := by
  have H : Hid (Errs w A) := h
  clear h
  go_enter Tryd.func8, Tryd.ntmps8
  go_wp2_with (go_at_call 21; refine (code_err A k hk _ H.out).mono ?_; rintro e w2 ⟨rfl, hb⟩)
  go_ret
  exact ⟨rfl, hb⟩
theorem coded4_any (A : Nat → Addr) (c : Nat) (hc : c ≤ 15) (w : World) (h : Errs w A) : Calls Tryd.prog 8 #[errN A c, .int .i64 (c : Nat)] w fun e w' => e = .returned (.bool true) ∧ Only [] w w' := by
  match c, hc with
  | 0, _ => exact (coded4_nil w).mono fun e w' q => ⟨q.1, by rw [q.2]; exact Only.refl _ _⟩
  | k + 1, hc =>
    have := coded4_err A k (by omega) w h
    have e : ((k : Int) + 1) = ((k + 1 : Nat) : Int) := by omega
    rw [e] at this
    exact this.mono fun e w' q => ⟨q.1, Only.of_below q.2 []⟩
theorem stepD_code (x : Ac) (s : DSt) : (stepD x s).1 ≤ 15 := by
  unfold stepD
  split
  · split
    · split
      · simp
      · split <;> simp
    · simp
  · split
    · split <;> simp
    · split
      · split <;> simp
      · split <;> simp
theorem stepD_ins (x : Ac) (s : DSt) (h : ∀ y ∈ s.wt, y.n < s.sec.length) : ∀ y ∈ (stepD x s).2.wt, y.n < (stepD x s).2.sec.length := by
  rw [stepD_len]
  unfold stepD
  split
  · split
    · split
      · exact h
      · split
        · exact h
        · rename_i hin _ _
          intro y hy
          rcases List.mem_append.1 hy with hy | hy
          · exact h y hy
          · rw [List.mem_singleton.1 hy]
            show x.N.toNat < s.sec.length
            omega
    · exact h
  · split
    · split
      · exact h
      · intro y hy; cases hy
    · split
      · split <;> exact h
      · split
        · intro y hy; cases hy
        · exact h
/-- Neither disk's blocks are the other's. -/
theorem apart_of {w : World} {base t base' t' : Nat} {pw pw' : Option Nat} {vs vw vk vn vw' : Value} {sec kept now : List Sec} {wt wt' : List Wr} (hd : DkAt w base t pw vs vw sec wt) (hm : DnAt w base' t' pw' vk vn vw' kept now wt') : ∀ k ∈ dkFoot t vs vw, k ∉ dnFoot t' vk vn vw' := by
  have h1 : ∀ k ∈ dkFoot t vs vw, ∃ c f, w.heap[k]? = some (.cells c 58 f) ∨ w.heap[k]? = some (.cells c 67 f) ∨ w.heap[k]? = some (.cells c 72 f) := fun k hk => by
    rcases mem_foot.1 hk with rfl | hk | hk
    · exact ⟨_, _, Or.inl hd.blk⟩
    · obtain ⟨_, _, c, e⟩ := own_blk hd.secs hk
      exact ⟨_, _, Or.inr (Or.inl e)⟩
    · obtain ⟨_, _, c, e⟩ := own_blk hd.wts hk
      exact ⟨_, _, Or.inr (Or.inr e)⟩
  intro k hk hk'
  obtain ⟨c, f, h2⟩ := h1 k hk
  have h3 : ∃ c' f', w.heap[k]? = some (.cells c' 44 f') ∨ w.heap[k]? = some (.cells c' 9 f') ∨ w.heap[k]? = some (.cells c' 63 f') := by
    rcases mem_dn.1 hk' with rfl | hk | hk | hk
    · exact ⟨_, _, Or.inl hm.blk⟩
    · obtain ⟨_, _, c, e⟩ := own_blk hm.kr hk
      exact ⟨_, _, Or.inr (Or.inl e)⟩
    · obtain ⟨_, _, c, e⟩ := own_blk hm.nr hk
      exact ⟨_, _, Or.inr (Or.inl e)⟩
    · obtain ⟨_, _, c, e⟩ := own_blk hm.wr hk
      exact ⟨_, _, Or.inr (Or.inr e)⟩
  obtain ⟨c', f', h3⟩ := h3
  rcases h2 with h2 | h2 | h2 <;> rcases h3 with h3 | h3 | h3 <;> (rw [h2] at h3; simp at h3)
set_option maxRecDepth 100000 in
set_option maxHeartbeats 2000000 in
theorem asDisk_ok {w : World} {base t base' t' : Nat} {pw pw' : Option Nat} {vs vw vk vn vw' : Value} {sec kept : List Sec} {wt : List Wr} (hd : DkAt w base t pw vs vw sec wt) (hm : DnAt w base' t' pw' vk vn vw' kept sec wt) :
    Calls Tryd.prog 12 #[.pointer (some ⟨t, 0, none⟩), .pointer (some ⟨t', 0, none⟩)] w fun e w' => e = .returned (.bool true) ∧ Only [] w w' := by
  have hmost := hd.most
  have hpos := hd.pos
  obtain ⟨gn, cn, hvn⟩ : ∃ gn cn, vn = .slice (some ⟨gn, 0, none⟩) sec.length cn := by
    rcases hm.nr.2 with ⟨_, e⟩ | ⟨g, c, cur, e, _⟩
    · omega
    · exact ⟨g, c, e⟩
  subst hvn
  obtain ⟨aw, cw, hvw⟩ := own_slice hm.wr
  subst hvw
  have HD : Hid (∀ W, Only [] w W → DkAt W base t pw vs vw sec wt ∧ DnAt W base' t' pw' vk (.slice (some ⟨gn, 0, none⟩) sec.length cn) (.slice aw wt.length cw) kept sec wt) := fun W ho => ⟨hd.keep ho, hm.keep ho⟩
  have c1 := hm.cells.2.1
  have c2 := hm.cells.2.2.1
  have ht := hm.lt
  have HS : Hid (∀ W, Only [] w W → Calls Tryd.prog 19 #[.pointer (some ⟨t, 0, none⟩)] W fun e w' => e = .returned (.int .i64 (sec.length : Nat)) ∧ w' = W) := fun W ho => sectors_ok (hd.keep ho)
  have HW : Hid (∀ W, Only [] w W → Calls Tryd.prog 20 #[.pointer (some ⟨t, 0, none⟩)] W fun e w' => e = .returned (.int .i64 (wt.length : Nat)) ∧ w' = W) := fun W ho => waiting_ok (hd.keep ho)
  clear hd hm
  go_enter Tryd.func12, Tryd.ntmps12
  go_upto_region 1 with (fail)
  go_quiet (first
    | (go_at_call 19; refine Calls.quiet_of_same (HS.out _ (drewsD (Only.refl [] _) _)))
    | (go_at_call 20; refine Calls.quiet_of_same (HW.out _ (drewsD (Only.refl [] _) _))))
  have o1 : Only [] w (w.drewN nq) := drewsD (Only.refl [] _) nq
  go_wp2
  go_loopw [5] (fun i wr => ∃ j : Nat, i = .int .i64 (j : Nat) ∧ j ≤ sec.length ∧ Only [] w wr) (fun i _ => sec.length - (intOf i).toNat)
  case atStart => exact ⟨0, rfl, Nat.zero_le _, o1⟩
  case round =>
    obtain ⟨j, rfl, hj, ho⟩ := hrel
    obtain ⟨hdw, hmw⟩ := HD.out wr ho
    have HO : Hid (Only [] w wr) := ho
    have q1 := hmw.cells.2.1
    have qt := hmw.lt
    by_cases hlt : j < sec.length
    · have hl : decide ((j : Int) < (sec.length : Int)) = true := decide_eq_true (by omega)
      have b1 : (j : Int) < (sec.length : Int) := by omega
      have hxj : sec[j]? = some sec[j] := List.getElem?_eq_getElem hlt
      have HR : Hid (Calls Tryd.prog 13 #[.pointer (some ⟨t, 0, none⟩), .int .i64 (j : Nat)] wr fun e w' => e = .returned (.tuple #[.string (bs sec[j].1), .nilIface]) ∧ w' = wr) := read_ok hdw j sec[j] hxj
      have cj : wr.cell? ⟨gn, j, none⟩ = some (.string (bs sec[j].1)) := by
        have := World.ownsRow.cellAt hmw.nr j (by omega)
        rw [this]
        simp [txt, hlt]
      have hcl := lt_of_cell cj
      generalize bs sec[j].1 = u at HR cj
      clear hdw hmw ho
      go_wp2_with (go_at_call 13; refine HR.out.mono ?_; rintro e w0 ⟨rfl, h0⟩; have h1 := h0.symm; subst h1; clear h0)
      go_roundw
      case rel => exact ⟨j + 1, by go_num, by omega, HO.out⟩
      case measure => simp [intOf]; omega
    · obtain rfl : j = sec.length := by omega
      have hl : decide ((sec.length : Int) < (sec.length : Int)) = false := decide_eq_false (by omega)
      clear hdw hmw ho
      go_wp2
      go_ret
      exact ⟨rfl, HO.out⟩
end Go.Proofs.YtlddnbpcinoenaaDoor
