/- WireReads: the ops of any text. -/
import Derived.Test.YtkopiffnkbjbiaaDoorWi14
import Derived.Test.YtkopiffnkbjbiaaDoorWi16
import Derived.BigQuiet
import Derived.Deep.QuietTactic
namespace Go.Proofs.YtkopiffnkbjbiaaDoor
open Go Go.RowKit Go.Deep

theorem coded3_err (A : Nat → Addr) (k : Nat) (hk : k < 15) (w : World) (h : Errs w A) :
    Calls Tryd.prog 13 #[eV A k, .int .i64 ((k : Int) + 1)] w fun e w' => e = .returned (.bool true) ∧ Only [] w w' := by
  have H : Hid (Errs w A) := h
  clear h
  go_enter Tryd.func13, Tryd.ntmps13
  go_wp2_with (go_at_call 30; refine (code_err A k hk _ H.out).mono ?_; rintro e w2 ⟨rfl, hb⟩)
  go_ret
  exact ⟨rfl, Only.of_below hb _⟩
theorem Errs.later {w w' : World} {A : Nat → Addr} (h : Errs w A) (ho : Only [] w w') : Errs w' A := h.below (ho.to_below (Nat.le_refl _) (fun _ k => by cases k)) (Nat.le_refl _)
theorem Only.then {a b c : World} (h : Only [] a b) (k : Only [] b c) : Only [] a c := only_old h k (fun _ k => by cases k)
theorem Only.drewsN {L : List Nat} {a w : World} (h : Only L a w) (n : Nat) : Only L a (w.drewN n) := ⟨h.os, h.tape, h.output, h.size, h.block⟩
theorem sameOps (x : OpV) (w : World) : (binOp .neq 40 (.agg #[.string x.K, .string x.N, .string x.T, .int .i64 x.x1, .int .i64 x.x2, .int .i64 x.x3, .int .i64 x.x4, .int .i64 x.x5, .int .i64 x.x6]) (.agg #[.string x.K, .string x.N, .string x.T, .int .i64 x.x1, .int .i64 x.x2, .int .i64 x.x3, .int .i64 x.x4, .int .i64 x.x5, .int .i64 x.x6])).run Tryd.prog w = .ok (.bool false) w := by
  simp [go_sem]

set_option maxRecDepth 100000 in
set_option maxHeartbeats 2000000 in
theorem wireReads_walk (A : Nat → Addr) (s : ByteArray) (w : World) (hE : Errs w A) (hsz : s.size < 9223372036854775808) : Calls Tryd.prog 4 #[.string s] w fun e w' => e = .returned (.bool true) ∧ Only [] w w' := by
  have K0 : Hid (∀ _u : Unit, _) := fun _ => wired_any A w hE.er3
  have HE : Hid (Errs w A) := hE
  clear hE
  go_enter Tryd.func4, Tryd.ntmps4
  go_wp2_with fail
  refine (K0.out ()).mono ?_
  rintro e w1 ⟨rfl, o1⟩
  have E1 : Hid (Errs w1 A) := HE.out.later o1
  have O1 : Hid (Only [] w w1) := o1
  clear o1 K0 HE
  by_cases hlen : 4100 < s.size
  · go_wp2
    go_ret
    exact ⟨rfl, O1.out⟩
  have hs : s.size ≤ 4100 := by omega
  have HS : Hid (s.size ≤ 4100) := hs
  have K1 : Hid (∀ _u : Unit, _) := fun _ => wireReadOps A s w1 E1.out.er3 (by omega)
  have K2 : Hid (∀ W, _) := fun W => docOps s W (by omega)
  clear hsz hlen
  go_wp2_with fail
  refine (K1.out ()).mono ?_
  rintro e w2 ⟨⟨r, rfl, hr⟩, o2⟩
  have HR : Hid (WireOpsR A s w1.heap.size w2 r) := hr
  have E2 : Hid (Errs w2 A) := E1.out.later o2
  have O2 : Hid (Only [] w w2) := O1.out.then o2
  clear o2 E1 O1 K1 hr
  obtain ⟨m1, er, hm1⟩ : ∃ m1 er, r = .tuple #[m1, er] := by
    rcases HR.out with ⟨_, rfl⟩ | ⟨_, _, _, rfl⟩ | ⟨_, _, _, _, rfl, _⟩ <;> exact ⟨_, _, rfl⟩
  subst hm1
  go_wp2_with fail
  refine (K2.out _).mono ?_
  rintro e w3 ⟨⟨r3, rfl, hr3⟩, o3⟩
  have E3 : Hid (Errs w3 A) := E2.out.later o3
  have O3 : Hid (Only [] w w3) := O2.out.then o3
  have O23 : Hid (Only [] w2 w3) := o3
  have HR3 : Hid (DocOpsR s w2.heap.size w3 r3) := hr3
  clear o3 hr3 E2 O2 K2
  rcases HR.out with ⟨h1, hv⟩ | ⟨l, h1, h2, hv⟩ | ⟨l, v, h1, h2, hv, h3⟩
  · rcases HR3.out with ⟨g1, rfl⟩ | ⟨l', g1, _, _⟩ | ⟨l', v', g1, _, _, _⟩
    rotate_left
    · rw [h1] at g1; cases g1
    · rw [h1] at g1; cases g1
    cases hv
    have KC : Hid (∀ _u : Unit, Calls Tryd.prog 13 #[eV A 0, .int .i64 1] w3 fun e w' => e = .returned (.bool true) ∧ Only [] w3 w') := fun _ => coded3_err A 0 (by decide) w3 E3.out
    clear HR HR3 h1 g1 E3
    go_wp2_with fail
    refine (KC.out ()).mono ?_
    rintro e w4 ⟨rfl, o4⟩
    have O4 : Hid (Only [] w w4) := O3.out.then o4
    clear o4
    go_wp2
    go_ret
    exact ⟨rfl, O4.out⟩
  · rcases HR3.out with ⟨g1, rfl⟩ | ⟨l', g1, _, rfl⟩ | ⟨l', v', g1, g2, _, _⟩
    · rw [h1] at g1; cases g1
    rotate_left
    · rw [h1] at g1; cases g1; omega
    cases hv
    have KC : Hid (∀ _u : Unit, Calls Tryd.prog 13 #[eV A 1, .int .i64 2] w3 fun e w' => e = .returned (.bool true) ∧ Only [] w3 w') := fun _ => coded3_err A 1 (by decide) w3 E3.out
    clear HR HR3 h1 g1 E3
    go_wp2_with fail
    refine (KC.out ()).mono ?_
    rintro e w4 ⟨rfl, o4⟩
    have O4 : Hid (Only [] w w4) := O3.out.then o4
    clear o4
    go_wp2
    go_ret
    exact ⟨rfl, O4.out⟩
  · rcases HR3.out with ⟨g1, rfl⟩ | ⟨l', g1, g2, rfl⟩ | ⟨l', v', g1, g2, rfl, g3⟩
    · rw [h1] at g1; cases g1
    · rw [h1] at g1; cases g1; omega
    cases hv
    have e12 : l' = l := by rw [h1] at g1; exact (Option.some.inj g1).symm
    subst e12
    obtain ⟨ad, cp, e1, hr1⟩ := own_rws (B := w2.heap.size) h3 opC_len (Nat.le_refl _)
    obtain ⟨ad', cp', e2, hr2⟩ := own_rws (B := w3.heap.size) g3 opC_len (Nat.le_refl _)
    subst e1 e2
    have KB : Hid (∀ _u : Unit, _) := fun _ => backOps_any ad cp l' w2.heap.size w3 (hr1.in_ O23.out) (by omega)
    obtain ⟨n, hn⟩ : ∃ n, l'.length = n := ⟨_, rfl⟩
    have HN : Hid (l'.length = n) := hn
    have hnb : n ≤ 16 := hn ▸ h2
    have HR2 : Hid (Rws w3 w3.heap.size opC 9 ad' l') := hr2
    rw [hn] at KB ⊢
    clear HR HR3 h1 g1 g2 h2 h3 g3 hr1 hr2 E3 hn
    go_wp2_with fail
    refine (KB.out ()).mono ?_
    rintro e w4 ⟨v4, rfl, o4, hrow⟩
    have O4 : Hid (Only [] w w4) := O3.out.then o4
    rw [← HN.out] at hrow
    obtain ⟨ad4, cp4, e4, hr4⟩ := own_rws (B := w4.heap.size) hrow opC_len (Nat.le_refl _)
    rw [HN.out] at e4
    subst e4
    have HR4 : Hid (Rws w4 w4.heap.size opC 9 ad4 l') := hr4
    have HR5 : Hid (Rws w4 w3.heap.size opC 9 ad' l') := HR2.out.in_ o4
    clear hrow hr4 o4 KB O23
    go_wp2_with fail
    go_loopw [9] (fun i wr => ∃ j : Nat, j ≤ n ∧ i = .int .i64 (j : Nat) ∧ Only [] w4 wr) (fun i _ => n - (intOf i).toNat)
    case atStart => exact ⟨0, Nat.zero_le _, rfl, Only.refl _ _⟩
    case round =>
      obtain ⟨j, hj, rfl, ho⟩ := hrel
      have O : Hid (Only [] w4 wr) := ho
      clear ho
      by_cases hlt : j < n
      · obtain ⟨x, hx⟩ := at_lt l' (j := j) (by rw [HN.out]; exact hlt)
        obtain ⟨g, rfl, _, hc⟩ := (HR4.out.in_ O.out).at_ j x hx
        obtain ⟨g', rfl, _, hc'⟩ := (HR5.out.in_ O.out).at_ j x hx
        have c0 : wr.cell? ⟨g, j * 9, none⟩ = some (.string x.K) := hc 0 _ rfl
        have c1 : wr.cell? ⟨g, j * 9 + 1, none⟩ = some (.string x.N) := hc 1 _ rfl
        have c2 : wr.cell? ⟨g, j * 9 + 2, none⟩ = some (.string x.T) := hc 2 _ rfl
        have c3 : wr.cell? ⟨g, j * 9 + 3, none⟩ = some (.int .i64 x.x1) := hc 3 _ rfl
        have c4 : wr.cell? ⟨g, j * 9 + 4, none⟩ = some (.int .i64 x.x2) := hc 4 _ rfl
        have c5 : wr.cell? ⟨g, j * 9 + 5, none⟩ = some (.int .i64 x.x3) := hc 5 _ rfl
        have c6 : wr.cell? ⟨g, j * 9 + 6, none⟩ = some (.int .i64 x.x4) := hc 6 _ rfl
        have c7 : wr.cell? ⟨g, j * 9 + 7, none⟩ = some (.int .i64 x.x5) := hc 7 _ rfl
        have c8 : wr.cell? ⟨g, j * 9 + 8, none⟩ = some (.int .i64 x.x6) := hc 8 _ rfl
        have d0 : wr.cell? ⟨g', j * 9, none⟩ = some (.string x.K) := hc' 0 _ rfl
        have d1 : wr.cell? ⟨g', j * 9 + 1, none⟩ = some (.string x.N) := hc' 1 _ rfl
        have d2 : wr.cell? ⟨g', j * 9 + 2, none⟩ = some (.string x.T) := hc' 2 _ rfl
        have d3 : wr.cell? ⟨g', j * 9 + 3, none⟩ = some (.int .i64 x.x1) := hc' 3 _ rfl
        have d4 : wr.cell? ⟨g', j * 9 + 4, none⟩ = some (.int .i64 x.x2) := hc' 4 _ rfl
        have d5 : wr.cell? ⟨g', j * 9 + 5, none⟩ = some (.int .i64 x.x3) := hc' 5 _ rfl
        have d6 : wr.cell? ⟨g', j * 9 + 6, none⟩ = some (.int .i64 x.x4) := hc' 6 _ rfl
        have d7 : wr.cell? ⟨g', j * 9 + 7, none⟩ = some (.int .i64 x.x5) := hc' 7 _ rfl
        have d8 : wr.cell? ⟨g', j * 9 + 8, none⟩ = some (.int .i64 x.x6) := hc' 8 _ rfl
        have hq := sameOps x
        clear hc hc' hx
        go_wp2_with fail
        go_big_quiet (fail)
        go_wp2
        go_roundw
        case rel => exact ⟨j + 1, by omega, by go_num, O.out.drewsN _⟩
        case measure => simp [intOf]; omega
      · obtain rfl : n = j := by omega
        go_wp2
        go_ret
        exact ⟨rfl, O4.out.then O.out⟩
end Go.Proofs.YtkopiffnkbjbiaaDoor
