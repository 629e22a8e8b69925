/- DiskActs: the document's Do: flush, fail, and what is none of its acts. -/
import Derived.Test.YtlddnbpcinoenaaDoorDn1
namespace Go.Proofs.YtlddnbpcinoenaaDoor
open Go Go.RowKit Go.Deep

def DnR (w w' : World) (base t : Nat) (vk vn vw : Value) (x : Ac) (s : DSt) (e : Ending) : Prop :=
  e = .returned (.int .i64 ((stepD x s).1 : Nat)) ∧ ∃ vk' vn' vw', DnAt w' base t (stepD x s).2.pw vk' vn' vw' (undo (stepD x s).2.sec (stepD x s).2.wt) (stepD x s).2.sec (stepD x s).2.wt ∧ Only (dnFoot t vk vn vw) w w'
abbrev acO (w : World) (x : Ac) : World := w.alloc (.cells #[.string x.K, .int .i64 x.N, .string x.S, .slice x.ka x.B.length x.kc] 36)
theorem acO_cells (w : World) (x : Ac) : (acO w x).cell? ⟨w.heap.size, 0, none⟩ = some (.string x.K) ∧ (acO w x).cell? ⟨w.heap.size, 1, none⟩ = some (.int .i64 x.N) ∧ (acO w x).cell? ⟨w.heap.size, 2, none⟩ = some (.string x.S) ∧ (acO w x).cell? ⟨w.heap.size, 3, none⟩ = some (.slice x.ka x.B.length x.kc) ∧ w.heap.size < (acO w x).heap.size := by
  have h := heap_alloc_last w (.cells #[.string x.K, .int .i64 x.N, .string x.S, .slice x.ka x.B.length x.kc] 36)
  exact ⟨cell_of_row _ _ 0 _ _ _ h, cell_of_row _ _ 1 _ _ _ h, cell_of_row _ _ 2 _ _ _ h, cell_of_row _ _ 3 _ _ _ h, by simp [acO]⟩
theorem DnR.of {w w' : World} {base t : Nat} {vk vn vw : Value} {x : Ac} {s s' : DSt} {c : Nat} {vk' vn' vw' : Value} (hs : stepD x s = (c, s')) (h : DnAt w' base t s'.pw vk' vn' vw' (undo s'.sec s'.wt) s'.sec s'.wt) (ho : Only (dnFoot t vk vn vw) (acO w x) w') : DnR w w' base t vk vn vw x s (.returned (.int .i64 (c : Nat))) :=
  ⟨by rw [hs], vk', vn', vw', by rw [hs]; exact h, (((Only.refl [] w).alloc _).mono (fun _ h => by cases h)).trans ho (fun k hk => Or.inl hk)⟩
set_option maxRecDepth 100000 in
set_option maxHeartbeats 2000000 in
theorem do_none {w : World} {base t : Nat} {vk vn vw : Value} {s : DSt} (h : DnAt w base t s.pw vk vn vw (undo s.sec s.wt) s.sec s.wt) (x : Ac) (hk1 : (x.K.toList == [119, 114, 105, 116, 101]) = false) (hk2 : (x.K.toList == [102, 108, 117, 115, 104]) = false) (hk3 : (x.K.toList == [102, 97, 105, 108]) = false) (hk4 : (x.K.toList == [99, 114, 97, 115, 104]) = false) :
    Calls Tryd.prog 11 #[.pointer (some ⟨t, 0, none⟩), .agg #[.string x.K, .int .i64 x.N, .string x.S, .slice x.ka x.B.length x.kc]] w fun e w' => DnR w w' base t vk vn vw x s e := by
  obtain ⟨k0, k1, k2, k3, hkl⟩ := acO_cells w x
  have HD : Hid (DnAt (acO w x) base t s.pw vk vn vw (undo s.sec s.wt) s.sec s.wt) := h.keep ((Only.refl [] w).alloc _)
  unfold acO at k0 k1 k2 k3 hkl
  clear h
  go_enter Tryd.func11, Tryd.ntmps11
  go_wp2
  go_ret
  exact DnR.of (c := 0) (s' := s) (by simp [stepD, hk1, hk2, hk3, hk4]) HD.out (Only.refl _ _)
set_option maxRecDepth 100000 in
set_option maxHeartbeats 2000000 in
theorem do_fail {w : World} {base t : Nat} {vk vn vw : Value} {s : DSt} (h : DnAt w base t s.pw vk vn vw (undo s.sec s.wt) s.sec s.wt) (x : Ac) (hk1 : (x.K.toList == [119, 114, 105, 116, 101]) = false) (hk2 : (x.K.toList == [102, 108, 117, 115, 104]) = false) (hk3 : (x.K.toList == [102, 97, 105, 108]) = true) :
    Calls Tryd.prog 11 #[.pointer (some ⟨t, 0, none⟩), .agg #[.string x.K, .int .i64 x.N, .string x.S, .slice x.ka x.B.length x.kc]] w fun e w' => DnR w w' base t vk vn vw x s e := by
  obtain ⟨k0, k1, k2, k3, hkl⟩ := acO_cells w x
  have hd : DnAt (acO w x) base t s.pw vk vn vw (undo s.sec s.wt) s.sec s.wt := h.keep ((Only.refl [] w).alloc _)
  have HD : Hid (DnAt (acO w x) base t s.pw vk vn vw (undo s.sec s.wt) s.sec s.wt) := hd
  have c3 := hd.cells.2.2.2.1
  have f3 := hd.cells.2.2.2.2 3
  have ht := hd.lt
  unfold acO at k0 k1 k2 k3 hkl c3 f3 ht
  clear h hd
  by_cases hn : x.N < 0
  · have d0 : decide (x.N < 0) = true := decide_eq_true hn
    go_enter Tryd.func11, Tryd.ntmps11
    go_wp2
    go_ret
    exact DnR.of (c := 2) (s' := s) (by simp [stepD, hk1, hk2, hk3, hn]) HD.out (Only.refl _ _)
  · have d0 : decide (x.N < 0) = false := decide_eq_false hn
    go_enter Tryd.func11, Tryd.ntmps11
    go_wp2
    go_ret
    have ho : Only [t] (acO w x) ((acO w x).setCell ⟨t, 3, none⟩ (.int .i64 x.N)) := (Only.refl _ _).setCell (Or.inl (by simp)) _
    have hd := HD.out
    refine DnR.of (c := 0) (s' := ⟨some x.N.toNat, s.sec, s.wt⟩) (by simp [stepD, hk1, hk2, hk3, hn]) (vk' := vk) (vn' := vn) (vw' := vw) ⟨?_, hd.tb, ho.owns hd.kr (fun j hj => by simpa using hd.nek hj), ho.owns hd.nr (fun j hj => by simpa using hd.nen hj), ho.owns hd.wr (fun j hj => by simpa using hd.new hj), hd.ne⟩ (ho.mono (fun k hk => Or.inl (mem_dn.2 (Or.inl (by simpa using hk)))))
    have e1 : leftI (some x.N.toNat) = x.N := by simp [leftI]; omega
    show ((acO w x).setCell ⟨t, 3, none⟩ (.int .i64 x.N)).heap[t]? = _
    rw [heap_setCell_same _ t 3 _ _ _ hd.blk, e1]
    simp
set_option maxRecDepth 100000 in
set_option maxHeartbeats 2000000 in
theorem do_flush {w : World} {base t : Nat} {vk vn vw : Value} {s : DSt} (h : DnAt w base t s.pw vk vn vw (undo s.sec s.wt) s.sec s.wt) (hb0 : base ≤ w.heap.size) (hpos : 1 ≤ s.sec.length) (hmost : s.sec.length ≤ 4000) (hq : ∀ k, s.pw = some k → k < 9223372036854775808) (x : Ac) (hk1 : (x.K.toList == [119, 114, 105, 116, 101]) = false) (hk2 : (x.K.toList == [102, 108, 117, 115, 104]) = true) :
    Calls Tryd.prog 11 #[.pointer (some ⟨t, 0, none⟩), .agg #[.string x.K, .int .i64 x.N, .string x.S, .slice x.ka x.B.length x.kc]] w fun e w' => DnR w w' base t vk vn vw x s e := by
  obtain ⟨k0, k1, k2, k3, hkl⟩ := acO_cells w x
  have hd : DnAt (acO w x) base t s.pw vk vn vw (undo s.sec s.wt) s.sec s.wt := h.keep ((Only.refl [] w).alloc _)
  have ht := hd.lt
  have HP : Hid (Calls Tryd.prog 23 #[.pointer (some ⟨t, 0, none⟩)] (acO w x) fun e w' => e = .returned (.bool (hasP s.pw)) ∧ DnAt w' base t (s.pw.map (· - 1)) vk vn vw (undo s.sec s.wt) s.sec s.wt ∧ Only [t] (acO w x) w') := dpower_any hd hq
  have hbs : base ≤ (acO w x).heap.size := Nat.le_trans hb0 (Nat.le_of_lt (by simp [acO]))
  unfold acO at k0 k1 k2 k3 hkl ht hbs
  clear h hd
  cases hp : hasP s.pw with
  | false =>
    rw [hp] at HP
    go_enter Tryd.func11, Tryd.ntmps11
    go_wp2_with (go_at_call 23; refine HP.out.mono ?_; rintro e w1 ⟨rfl, hd1, ho1⟩; have H1 : Hid (DnAt w1 base t (s.pw.map (· - 1)) vk vn vw (undo s.sec s.wt) s.sec s.wt ∧ Only [t] (acO w x) w1) := ⟨hd1, ho1⟩; clear hd1 ho1)
    go_ret
    have e0 := (hasP_iff s.pw).1 hp
    have e1 : s.pw.map (· - 1) = s.pw := by rw [e0]; rfl
    exact DnR.of (c := 15) (s' := s) (by simp [stepD, hk1, hk2, e0]) (by rw [← e1]; exact H1.out.1) (H1.out.2.mono (fun k hk => Or.inl (mem_dn.2 (Or.inl (by simpa using hk)))))
  | true =>
    rw [hp] at HP
    obtain ⟨i0, hi0, hz⟩ := Option.map_eq_some_iff.1 strInfo
    simp only [Prod.mk.injEq] at hz
    obtain ⟨hz0, hz1, hz2⟩ := hz
    go_enter Tryd.func11, Tryd.ntmps11
    go_upto_region 19 with (first
      | (go_at_call 23; refine HP.out.mono ?_; rintro e w1 ⟨rfl, hd1, ho1⟩; have H1 : Hid (DnAt w1 base t (s.pw.map (· - 1)) vk vn vw (undo s.sec s.wt) s.sec s.wt ∧ Only [t] (acO w x) w1) := ⟨hd1, ho1⟩; clear hd1 ho1)
      | go_in)
    have hd1 := H1.out.1
    have hp0 : s.sec.length ≠ 0 := by omega
    obtain ⟨gn, cn, hvn, hgb, hgl⟩ : ∃ gn cn, vn = .slice (some ⟨gn, 0, none⟩) s.sec.length cn ∧ base ≤ gn ∧ gn < w1.heap.size := by
      rcases hd1.nr.2 with ⟨_, e⟩ | ⟨g, c, cur, e, hb, hg, _⟩
      · omega
      · exact ⟨g, c, e, hb, (Array.getElem?_eq_some_iff.1 hg).1⟩
    subst hvn
    have c1 := hd1.cells.2.1
    have ht1 := hd1.lt
    have HNW : Hid (∀ j u, (s.sec.map txt)[j]? = some u → w1.cell? ((⟨gn, 0, none⟩ : Addr).add j) = some u) := World.ownsRow.cells hd1.nr rfl
    have hz1' : base ≤ w1.heap.size := Nat.le_trans hbs H1.out.2.size
    have HEND : Hid (∀ g6 c6 w6, w6.ownsRow base 9 1 (.slice (some ⟨g6, 0, none⟩) (0 + s.sec.length) c6) (0 + s.sec.length) ([] ++ s.sec.map txt) → w1.grownBy w6 (Value.slice none 0 0).ownBlock → ((Value.slice none 0 0).ownBlock = some g6 ∨ g6 = w1.heap.size) → w6.cell? ⟨t, 0, none⟩ = some vk ∧ w6.frozen? ⟨t, 0, none⟩ = false ∧ t < w6.heap.size ∧ w6.cell? ⟨t, 2, none⟩ = some vw ∧ w6.frozen? ⟨t, 2, none⟩ = false ∧ DnR w ((w6.setCell ⟨t, 0, none⟩ (.slice (some ⟨g6, 0, none⟩) (0 + s.sec.length) c6)).setCell ⟨t, 2, none⟩ (.slice none 0 0)) base t vk (.slice (some ⟨gn, 0, none⟩) s.sec.length cn) vw x s (.returned (.int .i64 0))) := fun g6 c6 w6 hr hg hat => by
      rw [Nat.zero_add, List.nil_append] at hr
      have ho6 : Only [] w1 w6 := (Only.refl [] w1).grown hg (fun k hk => by cases hk)
      have hg6 : g6 = w1.heap.size := by
        rcases hat with e | e
        · cases e
        · exact e
      obtain ⟨h1, h2, h3, h4, h5⟩ := hd1.put0 (kept' := s.sec) ho6 (fun k hk => by cases hk) hr (fun k hk => by
        have h9 : some g6 = some k := hk
        injection h9 with h9
        subst h9
        exact Or.inr (by omega))
      obtain ⟨q1, q2, q3, q4, q5⟩ := h4.put2 (wt' := []) (Only.refl [] _) (fun k hk => by cases hk) (World.ownsRow_nil _ _ _ _) (fun k hk => by cases hk)
      rw [Nat.zero_add]
      refine ⟨h1, h2, h3, by rwa [World.cell?_setCell_other _ _ _ _ (by simp)] at q1, by rwa [World.frozen?_setCell] at q2, DnR.of (c := 0) (s' := ⟨s.pw.map (· - 1), s.sec, []⟩) ?_ q4 ?_⟩
      · have hne : s.pw ≠ some 0 := fun e => by
          rw [(hasP_iff s.pw).2 e] at hp
          cases hp
        simp [stepD, hk1, hk2, hne]
      · refine ((H1.out.2.mono (fun k hk => Or.inl (mem_dn.2 (Or.inl (by simpa using hk))))).trans h5 (fun k hk => Or.inl hk)).trans q5 (fun k hk => ?_)
        rcases mem_dn.1 hk with e | e | e | e
        · exact Or.inl (mem_dn.2 (Or.inl e))
        · have h9 : some g6 = some k := e
          injection h9 with h9
          have := H1.out.2.size
          exact Or.inr (by omega)
        · exact Or.inl (mem_dn.2 (Or.inr (Or.inr (Or.inl e))))
        · exact Or.inl (mem_dn.2 (Or.inr (Or.inr (Or.inr e))))
    clear hd1
    go_wp2_with (at_builtin; refine wpList_append_lies _ rfl (.tmp 74) (.tmp 78) 41 rfl base 9 i0 _ 1 16 strsUnd hi0 hz0 hz1 hz2 rfl (by decide) (.slice none 0 0) 0 [] rfl (World.ownsRow_nil _ _ _ _) ⟨gn, 0, none⟩ s.sec.length cn (s.sec.map txt) rfl (by simp) HNW.out (fun q hq => by obtain ⟨y, _, rfl⟩ := List.mem_map.1 hq; rfl) (by omega) (by unfold maxLen; omega) (by omega) hz1' w1.heap.size rfl ?_; intro g6 c6 w6 hown6 hgr6 hat6 hlt6; obtain ⟨e0, e1, e2, e3, e4, hR⟩ := HEND.out g6 c6 w6 hown6 hgr6 hat6; have HR : Hid (DnR w ((w6.setCell ⟨t, 0, none⟩ (.slice (some ⟨g6, 0, none⟩) (0 + s.sec.length) c6)).setCell ⟨t, 2, none⟩ (.slice none 0 0)) base t vk (.slice (some ⟨gn, 0, none⟩) s.sec.length cn) vw x s (.returned (.int .i64 0))) := hR; clear hown6 hgr6 hat6 hlt6 hR)
    go_ret
    have := HR.out
    rw [Nat.zero_add] at this
    exact this
end Go.Proofs.YtlddnbpcinoenaaDoor
