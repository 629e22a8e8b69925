/- WireHears: the replies of any text. -/
import Derived.Test.YtkopiffnkbjbiaaDoorWi23
namespace Go.Proofs.YtkopiffnkbjbiaaDoor
open Go Go.RowKit Go.Deep

theorem all_ok {α : Type} {p : Par α} {W : α → List Step} {ok : α → Prop} (hp : InvA p W ok) {s : ByteArray} {l : List α} (h : pAll p s = some l) : (∀ x ∈ l, ok x) ∧ l.length ≤ 4294967295 := by
  unfold pAll at h
  split at h
  · cases h
  · rename_i l' t' hl
    split at h
    · cases h
      obtain ⟨⟨a1, a2⟩, _, _⟩ := invA_list hp _ _ _ hl
      exact ⟨a2, a1⟩
    · cases h
theorem own_arg {α : Type} {w : World} {base e k : Nat} {v : Value} {c : α → List Value} {l : List α} (h : w.ownsRow base e k v l.length (rowOf c l)) (hc : ∀ a, (c a).length = k) : ∃ ad cap, v = .slice ad l.length cap ∧ RwA w c k ad l := by
  obtain ⟨ad, cap, e, hr⟩ := own_rws (B := w.heap.size) h hc (Nat.le_refl _)
  exact ⟨ad, cap, e, hr.arg⟩
theorem RpA.sl {w : World} {p : RpV × Value} (h : RpA w p) : ∃ a c, p.2 = .slice a p.1.L.length c := by
  obtain ⟨a, c, e, _⟩ := h
  exact ⟨a, c, e⟩
set_option maxRecDepth 100000 in
set_option maxHeartbeats 2000000 in
theorem wireHears_walk (A : Nat → Addr) (s : ByteArray) (w : World) (hE : Errs w A) (hsz : s.size < 9223372036854775808) : Calls Tryd.prog 6 #[.string s] w fun e w' => e = .returned (.bool true) ∧ Only [] w w' := by
  have K0 : Hid (∀ _u : Unit, _) := fun _ => wired_any A w hE.er3
  have HE : Hid (Errs w A) := hE
  clear hE
  go_enter Tryd.func6, Tryd.ntmps6
  go_wp2_with fail
  refine (K0.out ()).mono ?_
  rintro e w1 ⟨rfl, o1⟩
  have E1 : Hid (Errs w1 A) := HE.out.later o1
  have O1 : Hid (Only [] w w1) := o1
  clear o1 K0 HE
  by_cases hlen : 4100 < s.size
  · go_wp2
    go_ret
    exact ⟨rfl, O1.out⟩
  have hs : s.size ≤ 4100 := by omega
  have K1 : Hid (∀ _u : Unit, _) := fun _ => wireReadReps A s w1 E1.out.er3 (by omega)
  have K2 : Hid (∀ W, _) := fun W => docReps s W (by omega)
  clear hsz hlen
  go_wp2_with fail
  refine (K1.out ()).mono ?_
  rintro e w2 ⟨⟨r, rfl, hr⟩, o2⟩
  have HR : Hid (ReadRepsR A s w1.heap.size w2 r) := hr
  have E2 : Hid (Errs w2 A) := E1.out.later o2
  have O2 : Hid (Only [] w w2) := O1.out.then o2
  clear o2 E1 O1 K1 hr
  obtain ⟨m1, er, hm1⟩ : ∃ m1 er, r = .tuple #[m1, er] := by
    rcases HR.out with ⟨_, rfl⟩ | ⟨_, _, _, rfl, _⟩ <;> exact ⟨_, _, rfl⟩
  subst hm1
  go_wp2_with fail
  refine (K2.out _).mono ?_
  rintro e w3 ⟨⟨r3, rfl, hr3⟩, o3⟩
  have E3 : Hid (Errs w3 A) := E2.out.later o3
  have O3 : Hid (Only [] w w3) := O2.out.then o3
  have O23 : Hid (Only [] w2 w3) := o3
  have HR3 : Hid (DocRepsR s w2.heap.size w3 r3) := hr3
  clear o3 hr3 E2 O2 K2
  rcases HR.out with ⟨h1, hv⟩ | ⟨l, v, h1, hv, h3⟩
  · rcases HR3.out with ⟨g1, v', rfl⟩ | ⟨l', v', g1, _, _⟩
    rotate_left
    · rw [h1] at g1; cases g1
    cases hv
    have KC : Hid (∀ _u : Unit, Calls Tryd.prog 13 #[eV A 0, .int .i64 1] w3 fun e w' => e = .returned (.bool true) ∧ Only [] w3 w') := fun _ => coded3_err A 0 (by decide) w3 E3.out
    clear HR HR3 h1 g1 E3
    go_wp2_with fail
    refine (KC.out ()).mono ?_
    rintro e w4 ⟨rfl, o4⟩
    have O4 : Hid (Only [] w w4) := O3.out.then o4
    clear o4
    go_wp2
    go_ret
    exact ⟨rfl, O4.out⟩
  · rcases HR3.out with ⟨g1, _, _⟩ | ⟨l', v', g1, rfl, g3⟩
    · rw [h1] at g1; cases g1
    cases hv
    have e12 : l' = l := by rw [h1] at g1; exact (Option.some.inj g1).symm
    subst e12
    obtain ⟨hok, hlen⟩ := all_ok invA_reply h1
    obtain ⟨p1, em1, hrow1, hen1⟩ := h3
    obtain ⟨p2, em2, hrow2, hen2⟩ := g3
    obtain ⟨ad, cp, e1, hr1⟩ := own_arg hrow1 rpC_len
    obtain ⟨ad', cp', e2, hr2⟩ := own_arg hrow2 rpC_len
    subst e1 e2
    have hl1 : p1.length ≤ 4294967295 := by rw [← em1, List.length_map] at hlen; exact hlen
    have KB : Hid (∀ _u : Unit, _) := fun _ => backReps_any ad cp p1 w3 (hr1.later O23.out) (fun x hx => (hen1 x hx).rpA.sl) hl1
    have KS : Hid (∀ (W : World) (a4 : Option Addr) (c4 : Nat), Only [] w3 W → RwA W rpC 9 a4 p1 → _) := fun W a4 c4 k hr4 =>
      sameReplies a4 ad' c4 cp' p1 p2 W (em1.trans em2.symm) hr4 (hr2.later k) (fun q hq => ((hen1 q hq).rpA.later O23.out).later k) (fun q hq => (hen2 q hq).rpA.later k) (fun q hq => by
        have := (hok q.1 (em1 ▸ List.mem_map_of_mem hq)).2.2.2.2.2.2.1
        omega) (by omega)
    clear HR HR3 h1 g1 hrow1 hrow2 hen1 hen2 hr1 hr2 E3 hok hlen O23 em1 em2
    go_wp2_with fail
    refine (KB.out ()).mono ?_
    rintro e w4 ⟨v4, rfl, o4, hrow⟩
    have O4 : Hid (Only [] w w4) := O3.out.then o4
    obtain ⟨a4, c4, e4, hr4⟩ := own_arg hrow rpC_len
    subst e4
    have KS2 : Hid (∀ _u : Unit, _) := fun _ => KS.out w4 a4 c4 o4 hr4
    clear hrow o4 hr4 KS KB
    go_wp2_with fail
    refine (KS2.out ()).mono ?_
    rintro e w5 ⟨rfl, o5⟩
    have O5 : Hid (Only [] w w5) := O4.out.then o5
    clear o5
    go_wp2
    go_ret
    exact ⟨rfl, O5.out⟩
end Go.Proofs.YtkopiffnkbjbiaaDoor
