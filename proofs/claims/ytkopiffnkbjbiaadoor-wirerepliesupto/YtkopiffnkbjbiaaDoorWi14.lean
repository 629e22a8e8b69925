/- WireTwice: what is read is written as it was. -/
import Derived.Test.YtkopiffnkbjbiaaDoorWi11
import Derived.Test.YtkopiffnkbjbiaaDoorWi12
namespace Go.Proofs.YtkopiffnkbjbiaaDoor
open Go Go.RowKit Go.Deep

theorem all_twice {α : Type} {p : Par α} {W : α → List Step} {ok : α → Prop} (hp : InvA p W ok) {s : ByteArray} {l : List α} (h : pAll p s = some l) (hs : s.size ≤ 4000) : (∀ x ∈ l, ok x) ∧ l.length ≤ 4294967295 ∧ runW (S0, 0) (listsW W l) = (s, 0) := by
  unfold pAll at h
  split at h
  · cases h
  · rename_i l' t' hl
    split at h
    · rename_i h0
      cases h
      obtain ⟨⟨a1, a2⟩, b, c⟩ := invA_list hp _ _ _ hl
      have e : Dt8 t' = [] := List.eq_nil_of_length_eq_zero h0
      rw [e, List.append_nil] at c
      obtain ⟨t, r1, r2⟩ := runW_all (s := S0) b (by
        have : (Dt8 s).length = s.size := rfl
        rw [c] at this
        show 0 + _ ≤ _
        omega)
      have : t = s := data_inj (by
        show Dt8 t = Dt8 s
        rw [r2, c]
        rfl)
      subst this
      exact ⟨a2, a1, r1⟩
    · cases h
theorem lists_map (m : List (RpV × Value)) : listsW (fun p : RpV × Value => rpW p.1) m = listsW rpW (m.map Prod.fst) := by
  unfold listsW
  rw [List.length_map]
  congr 1
  induction m with
  | nil => rfl
  | cons a m ih => show rpW a.1 ++ _ = rpW a.1 ++ _; rw [ih]
theorem four_zeros : runW (S0, 0) (listsW opW []) = (⟨#[0, 0, 0, 0]⟩, 0) := by
  have e : S0 ++ bs (be 4 0) = ⟨#[0, 0, 0, 0]⟩ := by
    apply data_inj
    decide
  show (if S0.size + (bs (be 4 0)).size ≤ 4000 then (S0 ++ bs (be 4 0), 0) else (S0, 9)) = _
  rw [if_pos (by rw [bs_size, be_length]; decide), e]
theorem wired_any (A : Nat → Addr) (w : World) (hE : Er3 w A) : Calls Tryd.prog 8 #[] w fun e w' => e = .returned (.bool true) ∧ Only [] w w' := by
  have H : Hid (∀ _u : Unit, _) := fun _ => wireOps A none 0 [] w hE (by decide) (Rws.nil _ _ _ _ _) (fun x hx => by cases hx)
  clear hE
  go_enter Tryd.func8, Tryd.ntmps8
  go_wp2_with fail
  refine (H.out ()).mono ?_
  rintro e w1 ⟨⟨r, rfl, hr⟩, ho⟩
  have e2 : r = .tuple #[.string ⟨#[0, 0, 0, 0]⟩, .nilIface] := by
    rcases hr with ⟨h1, _⟩ | ⟨_, t, h2, rfl⟩ | ⟨_, k, t, h2, _⟩
    · simp at h1
    · rw [four_zeros] at h2
      cases h2
      rfl
    · rw [four_zeros] at h2
      cases h2
  subst e2
  clear hr
  have HO : Hid (Only [] w w1) := ho
  clear ho
  go_wp2
  go_ret
  exact ⟨rfl, HO.out⟩

/-- Ops that were read, written again. -/
theorem opsAgain (A : Nat → Addr) (s : ByteArray) (base : Nat) (ad : Option Addr) (n cp : Nat) (l : List OpV) (w : World) (hE : Er3 w A) (hs : s.size ≤ 4000) (hp : pAll pOp s = some l) (h16 : l.length ≤ 16) (hn : l.length = n) (h : OpsOwn w base (.slice ad n cp) l) :
    Calls Tryd.prog 10 #[.slice ad n cp] w fun e w' => e = .returned (.tuple #[.string s, .nilIface]) ∧ Only [] w w' := by
  subst hn
  obtain ⟨h1, h2, h3⟩ := all_twice invA_op hp hs
  obtain ⟨ad', cp', e, hr⟩ := own_rws (B := w.heap.size) h opC_len (Nat.le_refl _)
  cases e
  refine (wireOps A ad cp l w hE h2 hr h1).mono fun e w' q => ?_
  obtain ⟨⟨r, rfl, q⟩, ho⟩ := q
  refine ⟨?_, ho⟩
  rcases q with ⟨k, _⟩ | ⟨_, t, k, rfl⟩ | ⟨_, k, t, q, _⟩
  · omega
  · rw [h3] at k
    cases k
    rfl
  · rw [h3] at q
    cases q
theorem repsAgain (A : Nat → Addr) (s : ByteArray) (base : Nat) (ad : Option Addr) (n cp : Nat) (l : List RpV) (w : World) (hE : Er3 w A) (hs : s.size ≤ 4000) (hp : pAll pReply s = some l) (h16 : l.length ≤ 16) (hn : l.length = n) (h : RpsOwn w base (.slice ad n cp) l) :
    Calls Tryd.prog 17 #[.slice ad n cp] w fun e w' => e = .returned (.tuple #[.string s, .nilIface]) ∧ Only [] w w' := by
  subst hn
  obtain ⟨h1, h2, h3⟩ := all_twice invA_reply hp hs
  obtain ⟨m, rfl, hm, hen⟩ := h
  rw [List.length_map] at h16 h2 hm ⊢
  obtain ⟨ad', cp', e, hr⟩ := own_rws (B := w.heap.size) hm rpC_len (Nat.le_refl _)
  cases e
  refine (wireReps A ad cp m w hE h2 hr (fun x hx => h1 x.1 (List.mem_map_of_mem hx)) (fun x hx => (hen x hx).rpIn)).mono fun e w' q => ?_
  obtain ⟨⟨r, rfl, q⟩, ho⟩ := q
  refine ⟨?_, ho⟩
  rw [lists_map] at q
  rcases q with ⟨k, _⟩ | ⟨_, t, k, rfl⟩ | ⟨_, k, t, q, _⟩
  · omega
  · rw [h3] at k
    cases k
    rfl
  · rw [h3] at q
    cases q

set_option maxHeartbeats 1000000 in
theorem wireTwice_walk (A : Nat → Addr) (s : ByteArray) (w : World) (hE : Er3 w A) (hsz : s.size < 9223372036854775808) : Calls Tryd.prog 7 #[.string s] w fun e w' => e = .returned (.bool true) ∧ Only [] w w' := by
  have K0 : Hid (∀ _u : Unit, _) := fun _ => wired_any A w hE
  have HE : Hid (Er3 w A) := hE
  clear hE
  go_enter Tryd.func7, Tryd.ntmps7
  go_wp2_with fail
  refine (K0.out ()).mono ?_
  rintro e w1 ⟨rfl, o1⟩
  have E1 : Hid (Er3 w1 A) := HE.out.later o1
  have O1 : Hid (Only [] w w1) := o1
  clear o1 K0 HE
  by_cases hlen : 4000 < s.size
  · go_wp2
    go_ret
    exact ⟨rfl, O1.out⟩
  have hs : s.size ≤ 4000 := by omega
  have HS : Hid (s.size ≤ 4000) := hs
  have K1 : Hid (∀ W, Er3 W A → _) := fun W k => wireReadOps A s W k (by omega)
  have K2 : Hid (∀ W, Er3 W A → _) := fun W k => wireReadReps A s W k (by omega)
  clear hsz hlen
  -- behind the ops: the replies
  have KR : Hid (∀ W, Er3 W A → Only [] w W → Calls Tryd.prog 20 #[.string s] W fun e w' => (∃ r, e = .returned r ∧ ReadRepsR A s W.heap.size w' r) ∧ Only [] w w' ∧ Er3 w' A) := fun W k o => (K2.out W k).mono fun e w' q => ⟨q.1, only_old o q.2 (fun _ k => by cases k), k.later q.2⟩
  clear K2
  go_wp2_with fail
  refine (K1.out _ E1.out).mono ?_
  rintro e w2 ⟨⟨r, rfl, hr⟩, o2⟩
  have E2 : Hid (Er3 w2 A) := E1.out.later o2
  have O2 : Hid (Only [] w w2) := only_old O1.out o2 (fun _ k => by cases k)
  clear o2 E1 O1 K1
  have KT : Hid (∀ (W : World) (ad : Option Addr) (n cp base : Nat) (l : List RpV), Er3 W A → pAll pReply s = some l → l.length ≤ 16 → l.length = n → RpsOwn W base (.slice ad n cp) l → _) := fun W ad n cp base l k h1 h2 h3 h4 => repsAgain A s base ad n cp l W k HS.out h1 h2 h3 h4
  have KO : Hid (∀ (W : World) (ad : Option Addr) (n cp base : Nat) (l : List OpV), Er3 W A → pAll pOp s = some l → l.length ≤ 16 → l.length = n → OpsOwn W base (.slice ad n cp) l → _) := fun W ad n cp base l k h1 h2 h3 h4 => opsAgain A s base ad n cp l W k HS.out h1 h2 h3 h4
  rcases hr with ⟨h1, rfl⟩ | ⟨l, h1, h2, rfl⟩ | ⟨l, v, h1, h2, rfl, h3⟩
  rotate_right
  · obtain ⟨ad, cp, rfl⟩ := h3.form
    have KO2 : Hid (∀ _u : Unit, _) := fun _ => KO.out w2 ad l.length cp _ l E2.out h1 h2 rfl h3
    clear h1 h2 h3 KO
    go_wp2_with fail
    refine (KO2.out ()).mono ?_
    rintro e w3 ⟨rfl, o3⟩
    have E3 : Hid (Er3 w3 A) := E2.out.later o3
    have O3 : Hid (Only [] w w3) := only_old O2.out o3 (fun _ k => by cases k)
    clear o3 E2 O2 KO2
    go_wp2_with fail
    refine (KR.out _ E3.out O3.out).mono ?_
    rintro e w4 ⟨⟨r, rfl, hr⟩, o4, e4⟩
    rcases hr with ⟨h1, rfl⟩ | ⟨l, v, h1, rfl, h3⟩
    · go_wp2
      go_ret
      exact ⟨rfl, o4⟩
    · obtain ⟨ad, cp, rfl⟩ := h3.form
      have O4 : Hid (Only [] w w4) := o4
      by_cases h16 : 16 < l.length
      · clear o4 e4 h1 h3
        go_wp2
        go_ret
        exact ⟨rfl, O4.out⟩
      · have KT2 : Hid (∀ _u : Unit, _) := fun _ => KT.out w4 ad l.length cp _ l e4 h1 (by omega) rfl h3
        clear o4 e4 h1 h3 KT
        go_wp2_with fail
        refine (KT2.out ()).mono ?_
        rintro e w5 ⟨rfl, o5⟩
        have O5 : Hid (Only [] w w5) := only_old O4.out o5 (fun _ k => by cases k)
        clear o5
        go_wp2
        go_ret
        exact ⟨rfl, O5.out⟩
  all_goals
    clear KO h1
    go_wp2_with fail
    refine (KR.out _ E2.out O2.out).mono ?_
    rintro e w4 ⟨⟨r, rfl, hr⟩, o4, e4⟩
    rcases hr with ⟨h1, rfl⟩ | ⟨l, v, h1, rfl, h3⟩
    · go_wp2
      go_ret
      exact ⟨rfl, o4⟩
    · obtain ⟨ad, cp, rfl⟩ := h3.form
      have O4 : Hid (Only [] w w4) := o4
      by_cases h16 : 16 < l.length
      · clear o4 e4 h1 h3
        go_wp2
        go_ret
        exact ⟨rfl, O4.out⟩
      · have KT2 : Hid (∀ _u : Unit, _) := fun _ => KT.out w4 ad l.length cp _ l e4 h1 (by omega) rfl h3
        clear o4 e4 h1 h3 KT
        go_wp2_with fail
        refine (KT2.out ()).mono ?_
        rintro e w5 ⟨rfl, o5⟩
        have O5 : Hid (Only [] w w5) := only_old O4.out o5 (fun _ k => by cases k)
        clear o5
        go_wp2
        go_ret
        exact ⟨rfl, O5.out⟩
end Go.Proofs.YtkopiffnkbjbiaaDoor
