/- Compounds on the wire: ops and replies as texts, whole. -/
import Derived.Test.YtkopiffnkbjbiaaDoorWi5
namespace Go.Proofs.YtkopiffnkbjbiaaDoor
open Go Go.RowKit Go.Deep

abbrev S0 : ByteArray := ⟨#[]⟩
/-- How a list is written as a text of its own. -/
def WrR (A : Nat → Addr) (n : Nat) (M : List Step) (r : Value) : Prop :=
  (16 < n ∧ r = .tuple #[.string S0, eV A 1]) ∨ (n ≤ 16 ∧ ∃ t, runW (S0, 0) M = (t, 0) ∧ r = .tuple #[.string t, .nilIface]) ∨ (n ≤ 16 ∧ ∃ k t, runW (S0, 0) M = (t, k + 1) ∧ (k = 1 ∨ k = 8) ∧ r = .tuple #[.string S0, eV A k])
def WOk (A : Nat → Addr) (b : Nat) (W : World) (M : List Step) (w' : World) : Prop := ∃ t', runW (S0, 0) M = (t', 0) ∧ Only [b] W w' ∧ WS w' A b t'
def WBad (A : Nat → Addr) (b : Nat) (W : World) (M : List Step) (x : Value) (w' : World) : Prop := ∃ k t', x = .pointer (some (A k)) ∧ runW (S0, 0) M = (t', k + 1) ∧ (k = 1 ∨ k = 8) ∧ Only [b] W w'
theorem keeps_of {w w' : World} {b : Nat} (h : Only [b] (w.alloc (.cells #[.nilIface] 26)) w') (hb : b < w.heap.size) : Keeps w w' := by
  have hn : w.heap.size ∉ [b] := by simp; omega
  constructor
  · exact (h.cell (p := ⟨w.heap.size, 0, none⟩) (by simp) hn).trans (by simp)
  · exact (h.frozen (p := ⟨w.heap.size, 0, none⟩) (by simp) hn).trans (by simp)
theorem Rws.in_ {α : Type} {w : World} {B n : Nat} {c : α → List Value} {ad : Option Addr} {l : List α} (h : Rws w B c n ad l) {w' : World} (ho : Only [] w w') : Rws w' B c n ad l := h.only ho (fun _ k => by cases k)
theorem only_old {w w1 w2 : World} {L : List Nat} (h1 : Only [] w w1) (h2 : Only L w1 w2) (hL : ∀ k ∈ L, w.heap.size ≤ k) : Only [] w w2 := h1.trans h2 (fun k hk => Or.inr (hL k hk))
theorem set_after {W4 w1 : World} {b pw : Nat} {u : Value} (v : Value) (h : Only [b] (W4.alloc (.cells #[.nilIface] 26)) w1) (hpw : W4.cell? ⟨pw, 0, none⟩ = some u) (hne : pw ≠ b) :
    (w1.setCell ⟨W4.heap.size, 0, none⟩ v).cell? ⟨pw, 0, none⟩ = some u := by
  have hlt := lt_of_cell hpw
  rw [World.cell?_setCell_other _ _ _ _ (by intro e; have := congrArg Addr.block e; simp at this; simp at hlt; omega)]
  refine (h.cell (p := ⟨pw, 0, none⟩) (by rw [World.size_alloc]; simp at hlt; show pw < _; omega) (by simpa using hne)).trans ?_
  rw [World.cell?_alloc_lt _ _ ⟨pw, 0, none⟩ hlt]
  exact hpw
theorem only_after {W4 w1 : World} {b : Nat} (v : Value) (h : Only [b] (W4.alloc (.cells #[.nilIface] 26)) w1) : Only [b] W4 (w1.setCell ⟨W4.heap.size, 0, none⟩ v) :=
  (((Only.refl [b] W4).alloc _).seq h).setCell (p := ⟨W4.heap.size, 0, none⟩) (Or.inr (Nat.le_refl _)) v
theorem WOk.after {A : Nat → Addr} {b : Nat} {W4 w1 : World} {M : List Step} (h : WOk A b (W4.alloc (.cells #[.nilIface] 26)) M w1) (hb : b < W4.heap.size) (v : Value) :
    ∃ t', runW (S0, 0) M = (t', 0) ∧ (w1.setCell ⟨W4.heap.size, 0, none⟩ v).cell? ⟨b, 0, none⟩ = some (.string t') := by
  obtain ⟨t', h1, h2, h3⟩ := h
  refine ⟨t', h1, ?_⟩
  rw [World.cell?_setCell_other _ _ _ _ (by intro e; have := congrArg Addr.block e; simp at this; omega)]
  exact h3.cell
theorem w1Ops (A : Nat → Addr) (b pw pl pe B : Nat) (ad : Option Addr) (cap : Nat) (l : List OpV) (W : World) (h : WS W A b S0) (hl : l.length ≤ 4294967295) (hr : Rws W B opC 9 ad l) (hB : B ≤ b) (hk : ∀ x ∈ l, x.ok) 
    (c1 : W.cell? ⟨pw, 0, none⟩ = some (P0 b)) (c2 : W.cell? ⟨pl, 0, none⟩ = some (.slice ad l.length cap)) (c3 : W.cell? ⟨pe, 0, none⟩ = some (.func (.func 25) #[] #[])) :
    Calls Tryd.prog 43 #[P0 pw, P0 pl, P0 pe] W (TEnd (WOk A b W (listsW opW l)) (WBad A b W (listsW opW l))) := by
  have H : Hid (∀ _ : Unit, _) := fun _ => wOps A b B S0 ad cap l W h hl hr hB hk
  clear h hl hr hB hk
  go_enter Tryd.func43, Tryd.ntmps43
  go_wp2_with fail
  refine (H.out ()).mono ?_
  rintro e w1 (⟨t1, r, rfl, o, s⟩ | ⟨k, t1, r, hk, rfl, o⟩)
  · go_wp2_with fail
    go_end0
    exact Or.inl ⟨rfl, _, r, o, s⟩
  · go_wp2_with fail
    exact ⟨rfl, Or.inr ⟨_, rfl, _, _, rfl, r, hk, o⟩⟩
set_option maxHeartbeats 1000000 in
theorem writeOps (A : Nat → Addr) (ad : Option Addr) (cap : Nat) (l : List OpV) (w : World) (hE : Er3 w A) (hl : l.length ≤ 4294967295) (hr : Rws w w.heap.size opC 9 ad l) (hk : ∀ x ∈ l, x.ok) :
    Calls Tryd.prog 24 #[.slice ad l.length cap, .func (.func 25) #[] #[]] w fun e w' => (∃ r, e = .returned r ∧ WrR A l.length (listsW opW l) r) ∧ Only [] w w' := by
  have hmf : ∀ (fn : Fn) (first cap : Array Value) (w : World), (Instr.makeFunc fn first cap).run Tryd.prog w = .ok (.func fn first cap) w := fun _ _ _ _ => rfl
  have HW : Hid (∀ W, Only [] w W → ∀ b pw pl pe, w.heap.size ≤ b → W.cell? ⟨b, 0, none⟩ = some (.string S0) → W.frozen? ⟨b, 0, none⟩ = false → W.cell? ⟨pw, 0, none⟩ = some (P0 b) → W.cell? ⟨pl, 0, none⟩ = some (.slice ad l.length cap) → W.cell? ⟨pe, 0, none⟩ = some (.func (.func 25) #[] #[]) →
      Calls Tryd.prog 43 #[P0 pw, P0 pl, P0 pe] W (TEnd (WOk A b W (listsW opW l)) (WBad A b W (listsW opW l)))) := fun W ho b pw pl pe hb k1 k2 k3 k4 k5 =>
    w1Ops A b pw pl pe w.heap.size ad cap l W ⟨k1, k2, by decide, hE.later ho⟩ hl (hr.in_ ho) hb hk k3 k4 k5
  have hE1 : w.cell? ⟨0, 0, none⟩ = some (eV A 1) := hE.cell 1 (by decide)
  obtain ⟨n, hn⟩ : ∃ n, l.length = n := ⟨_, rfl⟩
  have hnb : n ≤ 4294967295 := hn ▸ hl
  rw [hn] at HW ⊢
  have hlt := lt_of_cell hE1
  have HLT : Hid (0 < w.heap.size) := hlt
  clear hE hr hk hl hn hlt
  generalize listsW opW l = M at HW ⊢
  by_cases h16 : 16 < n
  · have hE2 : ((w.alloc (.cells #[.slice ad n cap] 29)).alloc (.cells #[.func (.func 25) #[] #[]] 66)).cell? ⟨0, 0, none⟩ = some (eV A 1) := by
      rw [World.cell?_alloc_lt _ _ ⟨0, 0, none⟩ (by rw [World.size_alloc]; have := HLT.out; show 0 < _; omega), World.cell?_alloc_lt _ _ ⟨0, 0, none⟩ HLT.out]
      exact hE1
    clear hE1
    go_enter Tryd.func24, Tryd.ntmps24
    go_wp2_with fail
    go_region
    all_goals
      go_wp2
      go_ret2
      exact ⟨⟨_, rfl, Or.inl ⟨h16, rfl⟩⟩, (((Only.refl [] w).alloc _).alloc _).drew⟩
  · clear hE1 HLT
    obtain ⟨W4, hW4⟩ : ∃ W4, W4 = ((((w.alloc (.cells #[.slice ad n cap] 29)).alloc (.cells #[.func (.func 25) #[] #[]] 66)).alloc (.cells #[.string ⟨#[]⟩] 99)).alloc (.cells #[.pointer (some ⟨w.heap.size + 1 + 1, 0, none⟩)] 68)) := ⟨_, rfl⟩
    have HW4 : Hid (W4 = ((((w.alloc (.cells #[.slice ad n cap] 29)).alloc (.cells #[.func (.func 25) #[] #[]] 66)).alloc (.cells #[.string ⟨#[]⟩] 99)).alloc (.cells #[.pointer (some ⟨w.heap.size + 1 + 1, 0, none⟩)] 68))) := hW4
    have ho : Only [] w W4 := hW4 ▸ ((((Only.refl [] w).alloc _).alloc _).alloc _).alloc _
    have hsz : W4.heap.size = w.heap.size + 4 := by rw [hW4]; simp [go_sem]
    have c0 : W4.cell? ⟨w.heap.size, 0, none⟩ = some (.slice ad n cap) := by rw [hW4]; simp [go_sem]
    have c1 : W4.cell? ⟨w.heap.size + 1, 0, none⟩ = some (.func (.func 25) #[] #[]) := by rw [hW4]; simp [go_sem]
    have c2 : W4.cell? ⟨w.heap.size + 1 + 1, 0, none⟩ = some (.string S0) := by rw [hW4]; simp [go_sem]
    have f2 : W4.frozen? ⟨w.heap.size + 1 + 1, 0, none⟩ = false := by rw [hW4]; simp [go_sem]
    have c3 : W4.cell? ⟨w.heap.size + 1 + 1 + 1, 0, none⟩ = some (P0 (w.heap.size + 1 + 1)) := by rw [hW4]; simp [go_sem]
    have o5 : Only [] W4 (W4.alloc (.cells #[.nilIface] 26)) := (Only.refl [] W4).alloc _
    have kc : ∀ b u, b < W4.heap.size → W4.cell? ⟨b, 0, none⟩ = some u → (W4.alloc (.cells #[.nilIface] 26)).cell? ⟨b, 0, none⟩ = some u := fun b u hb h => (o5.cell (p := ⟨b, 0, none⟩) hb (by simp)).trans h
    have KC : Hid (∀ _u : Unit, _) := fun _ => caught_wo (P0 (w.heap.size + 1 + 1 + 1)) (P0 w.heap.size) (P0 (w.heap.size + 1)) W4 _ _
      (HW.out _ (only_old ho o5 (fun _ k => by cases k)) (w.heap.size + 1 + 1) (w.heap.size + 1 + 1 + 1) w.heap.size (w.heap.size + 1) (by omega) (kc _ _ (by omega) c2) ((o5.frozen (p := ⟨w.heap.size + 1 + 1, 0, none⟩) (by show w.heap.size + 1 + 1 < _; omega) (by simp)).trans f2) (kc _ _ (by omega) c3) (kc _ _ (by omega) c0) (kc _ _ (by omega) c1))
      (fun w' k => by obtain ⟨_, _, k2, _⟩ := k; exact keeps_of k2 (by omega)) (fun x w' k => by obtain ⟨_, _, _, _, _, k2⟩ := k; exact keeps_of k2 (by omega))
    have HO : Hid (Only [] w W4) := ho
    have HS : Hid (W4.heap.size = w.heap.size + 4) := hsz
    have C3 : Hid (W4.cell? ⟨w.heap.size + 1 + 1 + 1, 0, none⟩ = some (P0 (w.heap.size + 1 + 1))) := c3
    clear hW4 ho hsz c0 c1 c2 f2 c3 o5 kc HW
    go_enter Tryd.func24, Tryd.ntmps24
    go_wp2_with fail
    rw [← HW4.out]
    refine (KC.out ()).mono ?_
    rintro e w1 (⟨rfl, w5, hok, rfl⟩ | ⟨x, rfl, w5, hbad, rfl⟩)
    · obtain ⟨t1, r1, k1⟩ := hok.after (by rw [HS.out]; omega) Value.nilIface
      obtain ⟨_, _, ho5, _⟩ := hok
      have k2 := set_after Value.nilIface ho5 C3.out (by omega)
      have H5 : Hid (Only [] w (w5.setCell ⟨W4.heap.size, 0, none⟩ .nilIface)) := only_old HO.out (only_after _ ho5) (by simp; omega)
      have HR : Hid (runW (S0, 0) M = (t1, 0)) := r1
      clear r1 ho5
      generalize w5.setCell ⟨W4.heap.size, 0, none⟩ .nilIface = w6 at k1 k2 H5 ⊢
      go_wp2_with (go_at_call 45; refine (text_any _ t1 _ k1).mono ?_; rintro e w7 ⟨rfl, rfl⟩)
      go_ret2
      exact ⟨⟨_, rfl, Or.inr (Or.inl ⟨by omega, _, HR.out, rfl⟩)⟩, H5.out⟩
    · obtain ⟨k, t1, rfl, r1, hk, ho5⟩ := hbad
      have H5 : Hid (Only [] w (w5.setCell ⟨W4.heap.size, 0, none⟩ (eV A k))) := only_old HO.out (only_after _ ho5) (by simp; omega)
      have HR : Hid (runW (S0, 0) M = (t1, k + 1)) := r1
      have HKK : Hid (k = 1 ∨ k = 8) := hk
      clear r1 ho5 hk
      go_wp2
      go_ret2
      exact ⟨⟨_, rfl, Or.inr (Or.inr ⟨by omega, _, _, HR.out, HKK.out, rfl⟩)⟩, H5.out⟩
theorem wireOps (A : Nat → Addr) (ad : Option Addr) (cap : Nat) (l : List OpV) (w : World) (hE : Er3 w A) (hl : l.length ≤ 4294967295) (hr : Rws w w.heap.size opC 9 ad l) (hk : ∀ x ∈ l, x.ok) :
    Calls Tryd.prog 10 #[.slice ad l.length cap] w fun e w' => (∃ r, e = .returned r ∧ WrR A l.length (listsW opW l) r) ∧ Only [] w w' := by
  have H : Hid (∀ _u : Unit, _) := fun _ => writeOps A ad cap l w hE hl hr hk
  clear hE hl hr hk
  generalize listsW opW l = M at H ⊢
  generalize l.length = n at H ⊢
  go_enter Tryd.func10, Tryd.ntmps10
  go_wp2_with fail
  refine (H.out ()).mono ?_
  rintro e w1 ⟨⟨r, rfl, hr⟩, ho⟩
  rcases hr with ⟨h1, rfl⟩ | ⟨h1, t, h2, rfl⟩ | ⟨h1, k, t, h2, hk, rfl⟩
  · go_wp2
    go_ret2
    exact ⟨⟨_, rfl, Or.inl ⟨h1, rfl⟩⟩, ho⟩
  · go_wp2
    go_ret2
    exact ⟨⟨_, rfl, Or.inr (Or.inl ⟨h1, _, h2, rfl⟩)⟩, ho⟩
  · go_wp2
    go_ret2
    exact ⟨⟨_, rfl, Or.inr (Or.inr ⟨h1, _, _, h2, hk, rfl⟩)⟩, ho⟩
theorem w1Reps (A : Nat → Addr) (b pw pl pe B : Nat) (ad : Option Addr) (cap : Nat) (l : List (RpV × Value)) (W : World) (h : WS W A b S0) (hl : l.length ≤ 4294967295) (hr : Rws W B rpC 9 ad l) (hB : B ≤ b) (hk : ∀ x ∈ l, x.1.ok) (hin : ∀ x ∈ l, RpIn W B x) 
    (c1 : W.cell? ⟨pw, 0, none⟩ = some (P0 b)) (c2 : W.cell? ⟨pl, 0, none⟩ = some (.slice ad l.length cap)) (c3 : W.cell? ⟨pe, 0, none⟩ = some (.func (.func 37) #[] #[])) :
    Calls Tryd.prog 63 #[P0 pw, P0 pl, P0 pe] W (TEnd (WOk A b W (listsW (fun p => rpW p.1) l)) (WBad A b W (listsW (fun p => rpW p.1) l))) := by
  have H : Hid (∀ _ : Unit, _) := fun _ => wReplies A b B S0 ad cap l W h hl hr hB hk hin
  clear h hl hr hB hk hin
  go_enter Tryd.func63, Tryd.ntmps63
  go_wp2_with fail
  refine (H.out ()).mono ?_
  rintro e w1 (⟨t1, r, rfl, o, s⟩ | ⟨k, t1, r, hk, rfl, o⟩)
  · go_wp2_with fail
    go_end0
    exact Or.inl ⟨rfl, _, r, o, s⟩
  · go_wp2_with fail
    exact ⟨rfl, Or.inr ⟨_, rfl, _, _, rfl, r, hk, o⟩⟩
set_option maxHeartbeats 1000000 in
theorem writeReps (A : Nat → Addr) (ad : Option Addr) (cap : Nat) (l : List (RpV × Value)) (w : World) (hE : Er3 w A) (hl : l.length ≤ 4294967295) (hr : Rws w w.heap.size rpC 9 ad l) (hk : ∀ x ∈ l, x.1.ok) (hin : ∀ x ∈ l, RpIn w w.heap.size x) :
    Calls Tryd.prog 36 #[.slice ad l.length cap, .func (.func 37) #[] #[]] w fun e w' => (∃ r, e = .returned r ∧ WrR A l.length (listsW (fun p => rpW p.1) l) r) ∧ Only [] w w' := by
  have hmf : ∀ (fn : Fn) (first cap : Array Value) (w : World), (Instr.makeFunc fn first cap).run Tryd.prog w = .ok (.func fn first cap) w := fun _ _ _ _ => rfl
  have HW : Hid (∀ W, Only [] w W → ∀ b pw pl pe, w.heap.size ≤ b → W.cell? ⟨b, 0, none⟩ = some (.string S0) → W.frozen? ⟨b, 0, none⟩ = false → W.cell? ⟨pw, 0, none⟩ = some (P0 b) → W.cell? ⟨pl, 0, none⟩ = some (.slice ad l.length cap) → W.cell? ⟨pe, 0, none⟩ = some (.func (.func 37) #[] #[]) →
      Calls Tryd.prog 63 #[P0 pw, P0 pl, P0 pe] W (TEnd (WOk A b W (listsW (fun p => rpW p.1) l)) (WBad A b W (listsW (fun p => rpW p.1) l)))) := fun W ho b pw pl pe hb k1 k2 k3 k4 k5 =>
    w1Reps A b pw pl pe w.heap.size ad cap l W ⟨k1, k2, by decide, hE.later ho⟩ hl (hr.in_ ho) hb hk (fun x hx => (hin x hx).only ho (fun _ k => by cases k)) k3 k4 k5
  have hE1 : w.cell? ⟨0, 0, none⟩ = some (eV A 1) := hE.cell 1 (by decide)
  obtain ⟨n, hn⟩ : ∃ n, l.length = n := ⟨_, rfl⟩
  have hnb : n ≤ 4294967295 := hn ▸ hl
  rw [hn] at HW ⊢
  have hlt := lt_of_cell hE1
  have HLT : Hid (0 < w.heap.size) := hlt
  clear hE hr hk hl hn hlt hin
  generalize listsW (fun p => rpW p.1) l = M at HW ⊢
  by_cases h16 : 16 < n
  · have hE2 : ((w.alloc (.cells #[.slice ad n cap] 54)).alloc (.cells #[.func (.func 37) #[] #[]] 90)).cell? ⟨0, 0, none⟩ = some (eV A 1) := by
      rw [World.cell?_alloc_lt _ _ ⟨0, 0, none⟩ (by rw [World.size_alloc]; have := HLT.out; show 0 < _; omega), World.cell?_alloc_lt _ _ ⟨0, 0, none⟩ HLT.out]
      exact hE1
    clear hE1
    go_enter Tryd.func36, Tryd.ntmps36
    go_wp2_with fail
    go_region
    all_goals
      go_wp2
      go_ret2
      exact ⟨⟨_, rfl, Or.inl ⟨h16, rfl⟩⟩, (((Only.refl [] w).alloc _).alloc _).drew⟩
  · clear hE1 HLT
    obtain ⟨W4, hW4⟩ : ∃ W4, W4 = ((((w.alloc (.cells #[.slice ad n cap] 54)).alloc (.cells #[.func (.func 37) #[] #[]] 90)).alloc (.cells #[.string ⟨#[]⟩] 99)).alloc (.cells #[.pointer (some ⟨w.heap.size + 1 + 1, 0, none⟩)] 68)) := ⟨_, rfl⟩
    have HW4 : Hid (W4 = ((((w.alloc (.cells #[.slice ad n cap] 54)).alloc (.cells #[.func (.func 37) #[] #[]] 90)).alloc (.cells #[.string ⟨#[]⟩] 99)).alloc (.cells #[.pointer (some ⟨w.heap.size + 1 + 1, 0, none⟩)] 68))) := hW4
    have ho : Only [] w W4 := hW4 ▸ ((((Only.refl [] w).alloc _).alloc _).alloc _).alloc _
    have hsz : W4.heap.size = w.heap.size + 4 := by rw [hW4]; simp [go_sem]
    have c0 : W4.cell? ⟨w.heap.size, 0, none⟩ = some (.slice ad n cap) := by rw [hW4]; simp [go_sem]
    have c1 : W4.cell? ⟨w.heap.size + 1, 0, none⟩ = some (.func (.func 37) #[] #[]) := by rw [hW4]; simp [go_sem]
    have c2 : W4.cell? ⟨w.heap.size + 1 + 1, 0, none⟩ = some (.string S0) := by rw [hW4]; simp [go_sem]
    have f2 : W4.frozen? ⟨w.heap.size + 1 + 1, 0, none⟩ = false := by rw [hW4]; simp [go_sem]
    have c3 : W4.cell? ⟨w.heap.size + 1 + 1 + 1, 0, none⟩ = some (P0 (w.heap.size + 1 + 1)) := by rw [hW4]; simp [go_sem]
    have o5 : Only [] W4 (W4.alloc (.cells #[.nilIface] 26)) := (Only.refl [] W4).alloc _
    have kc : ∀ b u, b < W4.heap.size → W4.cell? ⟨b, 0, none⟩ = some u → (W4.alloc (.cells #[.nilIface] 26)).cell? ⟨b, 0, none⟩ = some u := fun b u hb h => (o5.cell (p := ⟨b, 0, none⟩) hb (by simp)).trans h
    have KC : Hid (∀ _u : Unit, _) := fun _ => caught_wr (P0 (w.heap.size + 1 + 1 + 1)) (P0 w.heap.size) (P0 (w.heap.size + 1)) W4 _ _
      (HW.out _ (only_old ho o5 (fun _ k => by cases k)) (w.heap.size + 1 + 1) (w.heap.size + 1 + 1 + 1) w.heap.size (w.heap.size + 1) (by omega) (kc _ _ (by omega) c2) ((o5.frozen (p := ⟨w.heap.size + 1 + 1, 0, none⟩) (by show w.heap.size + 1 + 1 < _; omega) (by simp)).trans f2) (kc _ _ (by omega) c3) (kc _ _ (by omega) c0) (kc _ _ (by omega) c1))
      (fun w' k => by obtain ⟨_, _, k2, _⟩ := k; exact keeps_of k2 (by omega)) (fun x w' k => by obtain ⟨_, _, _, _, _, k2⟩ := k; exact keeps_of k2 (by omega))
    have HO : Hid (Only [] w W4) := ho
    have HS : Hid (W4.heap.size = w.heap.size + 4) := hsz
    have C3 : Hid (W4.cell? ⟨w.heap.size + 1 + 1 + 1, 0, none⟩ = some (P0 (w.heap.size + 1 + 1))) := c3
    clear hW4 ho hsz c0 c1 c2 f2 c3 o5 kc HW
    go_enter Tryd.func36, Tryd.ntmps36
    go_wp2_with fail
    rw [← HW4.out]
    refine (KC.out ()).mono ?_
    rintro e w1 (⟨rfl, w5, hok, rfl⟩ | ⟨x, rfl, w5, hbad, rfl⟩)
    · obtain ⟨t1, r1, k1⟩ := hok.after (by rw [HS.out]; omega) Value.nilIface
      obtain ⟨_, _, ho5, _⟩ := hok
      have k2 := set_after Value.nilIface ho5 C3.out (by omega)
      have H5 : Hid (Only [] w (w5.setCell ⟨W4.heap.size, 0, none⟩ .nilIface)) := only_old HO.out (only_after _ ho5) (by simp; omega)
      have HR : Hid (runW (S0, 0) M = (t1, 0)) := r1
      clear r1 ho5
      generalize w5.setCell ⟨W4.heap.size, 0, none⟩ .nilIface = w6 at k1 k2 H5 ⊢
      go_wp2_with (go_at_call 45; refine (text_any _ t1 _ k1).mono ?_; rintro e w7 ⟨rfl, rfl⟩)
      go_ret2
      exact ⟨⟨_, rfl, Or.inr (Or.inl ⟨by omega, _, HR.out, rfl⟩)⟩, H5.out⟩
    · obtain ⟨k, t1, rfl, r1, hk, ho5⟩ := hbad
      have H5 : Hid (Only [] w (w5.setCell ⟨W4.heap.size, 0, none⟩ (eV A k))) := only_old HO.out (only_after _ ho5) (by simp; omega)
      have HR : Hid (runW (S0, 0) M = (t1, k + 1)) := r1
      have HKK : Hid (k = 1 ∨ k = 8) := hk
      clear r1 ho5 hk
      go_wp2
      go_ret2
      exact ⟨⟨_, rfl, Or.inr (Or.inr ⟨by omega, _, _, HR.out, HKK.out, rfl⟩)⟩, H5.out⟩
theorem wireReps (A : Nat → Addr) (ad : Option Addr) (cap : Nat) (l : List (RpV × Value)) (w : World) (hE : Er3 w A) (hl : l.length ≤ 4294967295) (hr : Rws w w.heap.size rpC 9 ad l) (hk : ∀ x ∈ l, x.1.ok) (hin : ∀ x ∈ l, RpIn w w.heap.size x) :
    Calls Tryd.prog 17 #[.slice ad l.length cap] w fun e w' => (∃ r, e = .returned r ∧ WrR A l.length (listsW (fun p => rpW p.1) l) r) ∧ Only [] w w' := by
  have H : Hid (∀ _u : Unit, _) := fun _ => writeReps A ad cap l w hE hl hr hk hin
  clear hE hl hr hk hin
  generalize listsW (fun p => rpW p.1) l = M at H ⊢
  generalize l.length = n at H ⊢
  go_enter Tryd.func17, Tryd.ntmps17
  go_wp2_with fail
  refine (H.out ()).mono ?_
  rintro e w1 ⟨⟨r, rfl, hr⟩, ho⟩
  rcases hr with ⟨h1, rfl⟩ | ⟨h1, t, h2, rfl⟩ | ⟨h1, k, t, h2, hk, rfl⟩
  · go_wp2
    go_ret2
    exact ⟨⟨_, rfl, Or.inl ⟨h1, rfl⟩⟩, ho⟩
  · go_wp2
    go_ret2
    exact ⟨⟨_, rfl, Or.inr (Or.inl ⟨h1, _, h2, rfl⟩)⟩, ho⟩
  · go_wp2
    go_ret2
    exact ⟨⟨_, rfl, Or.inr (Or.inr ⟨h1, _, _, h2, hk, rfl⟩)⟩, ho⟩
end Go.Proofs.YtkopiffnkbjbiaaDoor
