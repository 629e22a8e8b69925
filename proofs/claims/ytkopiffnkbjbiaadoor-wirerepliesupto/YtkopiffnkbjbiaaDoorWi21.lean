/- WireOps: any ops on the wire; they are read. -/
import Derived.Test.YtkopiffnkbjbiaaDoorWi20
import Derived.Test.YtkopiffnkbjbiaaDoorWi13
namespace Go.Proofs.YtkopiffnkbjbiaaDoor
open Go Go.RowKit Go.Deep

theorem all_back {α : Type} {p : Par α} {W : α → List Step} {ok : α → Prop} (hp : InvB p W ok) {t : ByteArray} {l : List α} (h : runW (S0, 0) (listsW W l) = (t, 0)) (hl : l.length ≤ 4294967295) (hok : ∀ x ∈ l, ok x) : pAll p t = some l := by
  obtain ⟨h1, h2⟩ := runW_some h
  have h3 := runW_len (by decide) h
  have h2' : Dt8 t = catW (listsW W l) ++ [] := by rw [h2, List.append_nil]; rfl
  obtain ⟨t', p1, d1, _⟩ := invB_list hp t l [] ⟨hl, hok⟩ h1 h3 h2'
  exact pAll_some p1 (by
    have : (Dt8 t').length = t'.size := rfl
    rw [← this, d1]
    rfl)
set_option maxRecDepth 100000 in
set_option maxHeartbeats 4000000 in
theorem wireOps_walk (A : Nat → Addr) (ad : Option Addr) (len cap : Nat) (w : World) (hE : Errs w A) (hI : IsOps w ad len) : Calls Tryd.prog 3 #[.slice ad len cap] w fun e w' => e = .returned (.bool true) ∧ Only [] w w' := by
  obtain ⟨h96, l, rfl, hr, hf⟩ := hI
  have K0 : Hid (∀ _u : Unit, _) := fun _ => wired_any A w hE.er3
  have HE : Hid (Errs w A) := hE
  have HR : Hid (RwA w opC 9 ad l) := hr
  have HF : Hid (∀ x ∈ l, x.fits) := hf
  obtain ⟨n, hn⟩ : ∃ n, l.length = n := ⟨_, rfl⟩
  have HN : Hid (l.length = n) := hn
  have H96 : Hid (l.length * 96 ≤ 140737488351232) := h96
  have hnb : n * 96 ≤ 140737488351232 := hn ▸ h96
  rw [hn]
  clear hE hr hf hn h96
  go_enter Tryd.func3, Tryd.ntmps3
  go_wp2_with fail
  refine (K0.out ()).mono ?_
  rintro e w1 ⟨rfl, o1⟩
  have E1 : Hid (Errs w1 A) := HE.out.later o1
  have O1 : Hid (Only [] w w1) := o1
  clear o1 K0 HE
  by_cases h16 : 16 < n
  · have KB : Hid (∀ _u : Unit, _) := fun _ => bulk_big ad cap l w1 (HR.out.later O1.out) H96.out HF.out
    have KO : Hid (∀ W, Only [] w W → _) := fun W k => lawOps_arg ad cap l W (HR.out.later k) H96.out
    have KT : Hid (∀ W, _) := fun W => docText_big ad n cap W h16
    rw [HN.out] at KB KO
    go_wp2_with fail
    refine (KB.out ()).mono ?_
    rintro e w2 ⟨z, rfl, o2⟩
    have E2 : Hid (Errs w2 A) := E1.out.later o2
    have O2 : Hid (Only [] w w2) := O1.out.then o2
    clear o2 E1 O1 KB
    by_cases hz : 10000 < z
    · go_wp2
      go_ret
      exact ⟨rfl, O2.out⟩
    go_wp2_with fail
    refine (KO.out _ O2.out).mono ?_
    rintro e w3 ⟨v3, rfl, o3, hrow⟩
    have E3 : Hid (Errs w3 A) := E2.out.later o3
    have O3 : Hid (Only [] w w3) := O2.out.then o3
    obtain ⟨ad3, cp3, rfl⟩ : ∃ ad3 cp3, v3 = .slice ad3 n cp3 := by
      rw [← HN.out] at hrow
      obtain ⟨a, c, e⟩ := own_form hrow opC_len
      exact ⟨a, c, by rw [e, HN.out]⟩
    have KW : Hid (∀ _u : Unit, _) := fun _ => wireOps_big A ad3 n cp3 w3 E3.out.er3 h16
    clear o3 hrow E2 O2 KO
    go_wp2_with fail
    refine (KW.out ()).mono ?_
    rintro e w4 ⟨rfl, o4⟩
    have E4 : Hid (Errs w4 A) := E3.out.later o4
    have O4 : Hid (Only [] w w4) := O3.out.then o4
    clear o4 E3 O3 KW
    go_wp2_with fail
    refine (KT.out _).mono ?_
    rintro e w5 ⟨rfl, o5⟩
    have E5 : Hid (Errs w5 A) := E4.out.later o5
    have O5 : Hid (Only [] w w5) := O4.out.then o5
    have KC : Hid (∀ _u : Unit, Calls Tryd.prog 13 #[eV A 1, .int .i64 2] w5 fun e w' => e = .returned (.bool true) ∧ Only [] w5 w') := fun _ => coded3_err A 1 (by decide) w5 E5.out
    clear o5 E4 O4 KT E5
    go_wp2_with fail
    refine (KC.out ()).mono ?_
    rintro e w6 ⟨rfl, o6⟩
    have O6 : Hid (Only [] w w6) := O5.out.then o6
    clear o6
    go_wp2
    go_ret
    exact ⟨rfl, O6.out⟩
  have hn16 : n ≤ 16 := by omega
  have KB : Hid (∀ _u : Unit, _) := fun _ => bulk_small ad cap l w1 (HR.out.later O1.out) (by rw [HN.out]; exact hn16) HF.out
  have KO : Hid (∀ W, Only [] w W → _) := fun W k => lawOps_arg ad cap l W (HR.out.later k) H96.out
  rw [HN.out] at KB KO
  go_wp2_with fail
  refine (KB.out ()).mono ?_
  rintro e w2 ⟨rfl, o2⟩
  have E2 : Hid (Errs w2 A) := E1.out.later o2
  have O2 : Hid (Only [] w w2) := O1.out.then o2
  clear o2 E1 O1 KB
  by_cases hz : 10000 < bulkL l
  · go_wp2
    go_ret
    exact ⟨rfl, O2.out⟩
  have HZ : Hid (∀ x ∈ l, x.ok ∧ x.K.size ≤ 10000 ∧ x.N.size ≤ 10000 ∧ x.T.size ≤ 10000) := fun x hx => by
    have := bulkL_mem hx
    exact ⟨(HF.out x hx).1, by omega, by omega, by omega⟩
  have KT : Hid (∀ W, Only [] w W → _) := fun W k => docText ad cap l W (HR.out.later k) (by rw [HN.out]; exact hn16) HZ.out
  rw [HN.out] at KT
  go_wp2_with fail
  refine (KO.out _ O2.out).mono ?_
  rintro e w3 ⟨v3, rfl, o3, hrow⟩
  have E3 : Hid (Errs w3 A) := E2.out.later o3
  have O3 : Hid (Only [] w w3) := O2.out.then o3
  rw [← HN.out] at hrow
  obtain ⟨ad3, cp3, e3, hr3⟩ := own_rws (B := w3.heap.size) hrow opC_len (Nat.le_refl _)
  have KW : Hid (∀ _u : Unit, _) := fun _ => wireOps A ad3 cp3 l w3 E3.out.er3 (by rw [HN.out]; omega) hr3 (fun x hx => (HZ.out x hx).1)
  rw [HN.out] at e3 KW
  subst e3
  clear o3 hrow hr3 E2 O2 KO hz
  go_wp2_with fail
  refine (KW.out ()).mono ?_
  rintro e w4 ⟨⟨r4, rfl, hr4⟩, o4⟩
  have E4 : Hid (Errs w4 A) := E3.out.later o4
  have O4 : Hid (Only [] w w4) := O3.out.then o4
  have HW : Hid (WrR A n (listsW opW l) r4) := hr4
  clear o4 E3 O3 KW hr4
  obtain ⟨s1, er, hm1⟩ : ∃ s1 er, r4 = .tuple #[s1, er] := by
    rcases HW.out with ⟨_, rfl⟩ | ⟨_, _, _, rfl⟩ | ⟨_, _, _, _, _, rfl⟩ <;> exact ⟨_, _, rfl⟩
  subst hm1
  go_wp2_with fail
  refine (KT.out _ O4.out).mono ?_
  rintro e w5 ⟨⟨r5, rfl, hr5⟩, o5⟩
  have E5 : Hid (Errs w5 A) := E4.out.later o5
  have O5 : Hid (Only [] w w5) := O4.out.then o5
  have HT : Hid (DocTextR n (listsW opW l) r5) := hr5
  clear o5 E4 O4 KT hr5
  rcases HW.out with ⟨q, _⟩ | ⟨_, t, q, hv⟩ | ⟨_, k, t, q, hk, hv⟩
  · omega
  rotate_left
  · rcases HT.out with ⟨q2, _⟩ | ⟨_, t2, q2, rfl⟩ | ⟨_, k2, t2, q2, rfl⟩
    · omega
    · rw [q] at q2; cases q2
    rw [q] at q2
    cases q2
    cases hv
    have KC : Hid (∀ _u : Unit, Calls Tryd.prog 13 #[eV A k, .int .i64 ((k : Int) + 1)] w5 fun e w' => e = .returned (.bool true) ∧ Only [] w5 w') := fun _ => coded3_err A k (by omega) w5 E5.out
    have hgt : (0 : Int) < (k : Int) + 1 := by omega
    clear HW HT q E5
    go_wp2_with fail
    refine (KC.out ()).mono ?_
    rintro e w6 ⟨rfl, o6⟩
    have O6 : Hid (Only [] w w6) := O5.out.then o6
    clear o6
    go_wp2
    go_ret
    exact ⟨rfl, O6.out⟩
  · rcases HT.out with ⟨q2, _⟩ | ⟨_, t2, q2, rfl⟩ | ⟨_, k2, t2, q2, rfl⟩
    · omega
    rotate_left
    · rw [q] at q2; cases q2
    rw [q] at q2
    cases q2
    cases hv
    have HP : Hid (pAll pOp t = some l) := all_back invB_op q (by rw [HN.out]; omega) (fun x hx => (HZ.out x hx).1)
    have hts : t.size ≤ 4000 := runW_len (by decide) q
    have KR : Hid (∀ _u : Unit, _) := fun _ => wireReadOps A t w5 E5.out.er3 (by omega)
    clear HW HT q
    go_wp2_with fail
    refine (KR.out ()).mono ?_
    rintro e w6 ⟨⟨r6, rfl, hr6⟩, o6⟩
    have O6 : Hid (Only [] w w6) := O5.out.then o6
    rcases hr6 with ⟨g1, _⟩ | ⟨l', g1, g2, _⟩ | ⟨l', v, g1, g2, rfl, g3⟩
    · rw [HP.out] at g1; cases g1
    · rw [HP.out] at g1; cases g1; have := HN.out; omega
    have e12 : l' = l := by rw [HP.out] at g1; exact (Option.some.inj g1).symm
    subst e12
    obtain ⟨ad6, cp6, e6, hr6⟩ := own_rws (B := w6.heap.size) g3 opC_len (Nat.le_refl _)
    have KK : Hid (∀ _u : Unit, _) := fun _ => backOps_any ad6 cp6 l' w6.heap.size w6 hr6 (by omega)
    rw [HN.out] at e6 KK
    subst e6
    clear g1 g2 g3 hr6 o6 KR O5
    go_wp2_with fail
    refine (KK.out ()).mono ?_
    rintro e w7 ⟨v7, rfl, o7, hrow⟩
    have O7 : Hid (Only [] w w7) := O6.out.then o7
    rw [← HN.out] at hrow
    obtain ⟨ad7, cp7, e7, hr7⟩ := own_rws (B := w7.heap.size) hrow opC_len (Nat.le_refl _)
    rw [HN.out] at e7
    subst e7
    have HR7 : Hid (Rws w7 w7.heap.size opC 9 ad7 l') := hr7
    have HRA : Hid (RwA w7 opC 9 ad l') := HR.out.later O7.out
    clear hrow hr7 o7 KK O6 HF HZ E5 HP
    go_wp2_with fail
    go_loopw [10] (fun i wr => ∃ j : Nat, j ≤ n ∧ i = .int .i64 (j : Nat) ∧ Only [] w7 wr) (fun i _ => n - (intOf i).toNat)
    case atStart => exact ⟨0, Nat.zero_le _, rfl, Only.refl _ _⟩
    case round =>
      obtain ⟨j, hj, rfl, ho⟩ := hrel
      have O : Hid (Only [] w7 wr) := ho
      clear ho
      by_cases hlt : j < n
      · obtain ⟨x, hx⟩ := at_lt l' (j := j) (by rw [HN.out]; exact hlt)
        obtain ⟨g, rfl, _, hc⟩ := (HR7.out.in_ O.out).at_ j x hx
        obtain ⟨g', o, rfl, hc'⟩ := (HRA.out.later O.out).at_ j x hx
        have c0 : wr.cell? ⟨g, j * 9, none⟩ = some (.string x.K) := hc 0 _ rfl
        have c1 : wr.cell? ⟨g, j * 9 + 1, none⟩ = some (.string x.N) := hc 1 _ rfl
        have c2 : wr.cell? ⟨g, j * 9 + 2, none⟩ = some (.string x.T) := hc 2 _ rfl
        have c3 : wr.cell? ⟨g, j * 9 + 3, none⟩ = some (.int .i64 x.x1) := hc 3 _ rfl
        have c4 : wr.cell? ⟨g, j * 9 + 4, none⟩ = some (.int .i64 x.x2) := hc 4 _ rfl
        have c5 : wr.cell? ⟨g, j * 9 + 5, none⟩ = some (.int .i64 x.x3) := hc 5 _ rfl
        have c6 : wr.cell? ⟨g, j * 9 + 6, none⟩ = some (.int .i64 x.x4) := hc 6 _ rfl
        have c7 : wr.cell? ⟨g, j * 9 + 7, none⟩ = some (.int .i64 x.x5) := hc 7 _ rfl
        have c8 : wr.cell? ⟨g, j * 9 + 8, none⟩ = some (.int .i64 x.x6) := hc 8 _ rfl
        have d0 : wr.cell? ⟨g', o + j * 9, none⟩ = some (.string x.K) := hc' 0 _ rfl
        have d1 : wr.cell? ⟨g', o + j * 9 + 1, none⟩ = some (.string x.N) := hc' 1 _ rfl
        have d2 : wr.cell? ⟨g', o + j * 9 + 2, none⟩ = some (.string x.T) := hc' 2 _ rfl
        have d3 : wr.cell? ⟨g', o + j * 9 + 3, none⟩ = some (.int .i64 x.x1) := hc' 3 _ rfl
        have d4 : wr.cell? ⟨g', o + j * 9 + 4, none⟩ = some (.int .i64 x.x2) := hc' 4 _ rfl
        have d5 : wr.cell? ⟨g', o + j * 9 + 5, none⟩ = some (.int .i64 x.x3) := hc' 5 _ rfl
        have d6 : wr.cell? ⟨g', o + j * 9 + 6, none⟩ = some (.int .i64 x.x4) := hc' 6 _ rfl
        have d7 : wr.cell? ⟨g', o + j * 9 + 7, none⟩ = some (.int .i64 x.x5) := hc' 7 _ rfl
        have d8 : wr.cell? ⟨g', o + j * 9 + 8, none⟩ = some (.int .i64 x.x6) := hc' 8 _ rfl
        have hq := sameOps x
        clear hc hc' hx
        go_wp2_with fail
        go_big_quiet (fail)
        go_wp2
        go_roundw
        case rel => exact ⟨j + 1, by omega, by go_num, O.out.drewsN _⟩
        case measure => simp [intOf]; omega
      · obtain rfl : n = j := by omega
        go_wp2
        go_ret
        exact ⟨rfl, O7.out.then O.out⟩
end Go.Proofs.YtkopiffnkbjbiaaDoor
