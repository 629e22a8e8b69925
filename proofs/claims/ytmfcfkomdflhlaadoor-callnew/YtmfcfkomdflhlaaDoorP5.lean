/- The tree: a directory is opened. -/
import Derived.Test.YtmfcfkomdflhlaaDoorP3
import Derived.Carry
/- The tree: a directory is opened. -/
namespace Go.Proofs.YtmfcfkomdflhlaaDoor
open Go Go.RowKit Go.Deep Go.Maps

theorem only_turned {w w' : World} {b : Nat} (h : w.mapTurned w' b) : Only [b] w w' := by
  have hg := h.grown
  exact ⟨hg.os, hg.tape, hg.output, hg.size, fun k hk hn => hg.block k hk (fun e => hn (by simp at e; simp [e]))⟩
/-- What an opened directory makes of a tree. -/
def Tr.opened (T : Tr) (a B : Nat) : Tr := { T with ds := setN T.ds a (some ⟨B, []⟩) }
theorem TreeAt.opened {w w1 w2 : World} {tr a B n : Nat} {T : Tr} {D : DataW Unit} (h : TreeAt w tr T) (ha : a < T.p.N) (h0 : T.ds a = none) (ho1 : Only [] w w1) (hB : w.heap.size ≤ B) (hBo : w1.ownsMap Tryd.prog 9 handElem B 0 (.map []))
    (hr : Reads hkey numD D T.dirsF) (hD : IsMap D) (hown : w2.ownsMap Tryd.prog 76 mapElem T.db n (D.put (hkey (a, T.g a)) (numD B))) (ho2 : Only [T.db] w1 w2) : TreeAt w2 tr (T.opened a B) ∧ Only [T.db] w w2 := by
  have ho : Only [T.db] w w2 := (ho1.mono (L' := [T.db]) (fun _ hk => by cases hk)).trans ho2 (fun _ hk => Or.inl hk)
  obtain ⟨D0, n0, d1, _, _⟩ := h.dirs
  obtain ⟨P, m, p1, p2, p3⟩ := h.pins
  have hdl := d1.lt
  have htr : tr < w.heap.size := lt_of_cell h.c0
  have hne : tr ∉ [T.db] := by simpa using (own_ne_cell d1 h.c0).symm
  have hBdb : B ≠ T.db := by omega
  have hds : ∀ i d, setN T.ds a (some ⟨B, []⟩) i = some d → (i = a ∧ d = ⟨B, []⟩) ∨ (i ≠ a ∧ T.ds i = some d) := fun i d e => by
    by_cases hi : i = a
    · subst hi
      rw [setN_same] at e
      cases e
      exact Or.inl ⟨rfl, rfl⟩
    · rw [setN_other _ _ hi] at e
      exact Or.inr ⟨hi, e⟩
  have hold : ∀ i d, T.ds i = some d → d.b < w.heap.size := fun i d e => World.ownsMap.lt (h.dir i d e)
  have hdlt : ∀ i d, (T.opened a B).ds i = some d → i < (T.opened a B).p.N := fun i d e => by
    rcases hds i d e with ⟨rfl, _⟩ | ⟨_, e'⟩
    · exact ha
    · exact h.dlt i d e'
  have hg := h.small.g
  have hNN := h.small.N
  refine ⟨⟨(ho.cell (p := ⟨tr, 0, none⟩) htr hne).trans h.c0, (ho.cell (p := ⟨tr, 1, none⟩) htr hne).trans h.c1, (ho.cell (p := ⟨tr, 2, none⟩) htr hne).trans h.c2, h.tab.kept ho (fun k hk hm => by simp at hm; subst hm; exact h.fdb hk),
    dirs_put (T' := T.opened a B) hown (hr.put hD hkey_key (fun j e => ?_) ?_ (fun j hj => ?_)) hdlt ⟨h.small.N, h.small.g⟩, fun i d e => ?_, ⟨P, m, own_only p1 ho (show T.pb ∉ [T.db] from by simpa using h.dp.symm), p2, p3⟩, fun i j d d' e e' hb => ?_, ⟨h.small.N, h.small.g⟩, h.ftr, h.fdb, h.fpb, fun i d e => ?_, h.dp, hdlt, h.plt⟩, ho⟩
  · exact hkey_only (by omega) (by have := hg a; omega) j e
  · show (if T.g a = T.g a then (setN T.ds a (some ⟨B, []⟩) a).map (·.b) else none) = some B
    rw [if_pos rfl, setN_same]
    rfl
  · obtain ⟨j1, j2⟩ := j
    show (if j2 = T.g j1 then (setN T.ds a (some ⟨B, []⟩) j1).map (·.b) else none) = (if j2 = T.g j1 then (T.ds j1).map (·.b) else none)
    by_cases hj1 : j1 = a
    · subst hj1
      have : j2 ≠ T.g j1 := fun e => hj (by rw [e])
      rw [if_neg this, if_neg this]
    · rw [setN_other _ _ hj1]
  · rcases hds i d e with ⟨rfl, rfl⟩ | ⟨_, e'⟩
    · exact own_only hBo ho2 (by simpa using hBdb)
    · exact own_only (h.dir i d e') ho (by simpa using (h.fdir i d e').2.1)
  · rcases hds i d e with ⟨rfl, rfl⟩ | ⟨_, e1⟩
    · rcases hds j d' e' with ⟨rfl, _⟩ | ⟨_, e2⟩
      · rfl
      · have := hold j d' e2
        simp only at hb
        omega
    · rcases hds j d' e' with ⟨rfl, rfl⟩ | ⟨_, e2⟩
      · have := hold i d e1
        simp only at hb
        omega
      · exact h.one i j d d' e1 e2 hb
  · rcases hds i d e with ⟨rfl, rfl⟩ | ⟨_, e'⟩
    · refine ⟨fun hk => ?_, hBdb, ?_⟩
      · have := h.tab.foot_lt _ hk
        simp only at this
        omega
      · have := p1.lt
        show B ≠ T.pb
        omega
    · exact h.fdir i d e'
set_option maxHeartbeats 1000000 in
theorem open_ok (w : World) (tr : Nat) (T : Tr) (a : Nat) (n : Nod) (h : TreeAt w tr T) (hn : T.nd a = some n) (hK : n.K = 2) (h0 : T.ds a = none) :
    Calls Tryd.prog 39 #[.pointer (some ⟨tr, 0, none⟩), .agg #[.int .i64 a, .int .i64 (T.g a : Nat)]] w fun e w' => e = .returned (.tuple #[]) ∧ ∃ B, TreeAt w' tr { T.opened a B with nd := setN T.nd a (some { n with Z := 0, L := 2 }) } ∧ Only [n.b, T.db] w w' ∧ w.heap.size ≤ B := by
  have ha := h.tab.lt hn
  have ct := h.c1
  have htl : tr < w.heap.size := lt_of_cell ct
  have hO2 : Only [] w ((w.alloc (.cells #[.int .i64 a, .int .i64 (T.g a : Nat)] 76)).alloc (.map #[] 0)).drew := (((Only.refl [] w).alloc _).alloc _).drew
  have hBo : (((w.alloc (.cells #[.int .i64 a, .int .i64 (T.g a : Nat)] 76)).alloc (.map #[] 0)).drew).ownsMap Tryd.prog 9 handElem (w.heap.size + 1) 0 (.map []) := by
    have := World.ownsMap_made (H := Unit) (w.alloc (.cells #[.int .i64 a, .int .i64 (T.g a : Nat)] 76)) Tryd.prog 9 handElem
    rw [World.size_alloc] at this
    exact this.drew
  obtain ⟨D, nn, d1, d2, d3⟩ := h.dirs
  have d1' := own_only d1 hO2 (by simp)
  obtain ⟨w3, hst, hown3, hturn⟩ := d1'.store lawH undDirs (by unfold maxLen; omega) (h.key ha) (show mapElem (.map (some (w.heap.size + 1))) = some (numD (w.heap.size + 1), []) from rfl)
  obtain ⟨hT3, hO3⟩ := h.opened ha h0 hO2 (Nat.le_succ _) hBo d3 d1.isMap hown3 (only_turned hturn)
  have hrec0 := recount_ok w3 tr (T.opened a (w.heap.size + 1)) a n ⟨w.heap.size + 1, []⟩ hT3 (setN_same _ _ _) hn hK (by simp) (fun e he => by cases he)
  have hrec : Calls Tryd.prog 46 #[.pointer (some ⟨tr, 0, none⟩), .agg #[.int .i64 a, .int .i64 (T.g a : Nat)]] w3 fun e w' => e = .returned (.tuple #[]) ∧ TreeAt w' tr { T.opened a (w.heap.size + 1) with nd := setN T.nd a (some { n with Z := 0, L := 2 }) } ∧ Only [n.b] w3 w' := hrec0
  unfold handV at hst
  have HO3 : Hid (Only [T.db] w w3) := hO3
  have hh := heap_alloc_last w (.cells #[.int .i64 a, .int .i64 (T.g a : Nat)] 76)
  have hnd : w.heap.size ∉ [T.db] := fun hm => by
    have e : w.heap.size = T.db := by simpa using hm
    have := d1.lt
    omega
  have ho23 := only_turned hturn
  have hO1 : Only [] (w.alloc (.cells #[.int .i64 a, .int .i64 (T.g a : Nat)] 76)) (((w.alloc (.cells #[.int .i64 a, .int .i64 (T.g a : Nat)] 76)).alloc (.map #[] 0)).drew) := ((Only.refl [] _).alloc _).drew
  have c0 : w3.cell? ⟨w.heap.size, 0, none⟩ = some (.int .i64 a) := (ho23.cell (p := ⟨w.heap.size, 0, none⟩) (by simp; omega) hnd).trans ((hO1.cell (p := ⟨w.heap.size, 0, none⟩) (by simp) (by simp)).trans (cell_of_row _ _ 0 _ _ _ hh))
  have c1 : w3.cell? ⟨w.heap.size, 1, none⟩ = some (.int .i64 (T.g a : Nat)) := (ho23.cell (p := ⟨w.heap.size, 1, none⟩) (by simp; omega) hnd).trans ((hO1.cell (p := ⟨w.heap.size, 1, none⟩) (by simp) (by simp)).trans (cell_of_row _ _ 1 _ _ _ hh))
  have hmk := run_makeMap (P := Tryd.prog) 159 (w.alloc (.cells #[.int .i64 a, .int .i64 (T.g a : Nat)] 76)).drew
  clear hrec0 hT3 hO3 hown3 hturn d1 d1' d3 hBo hO2 hO1 ho23 hh hnd h hn hK h0
  go_enter Tryd.func39, Tryd.ntmps39
  go_wp2
  go_region
  go_wp2_with (go_at_call 46; go_must (refine hrec.mono ?_); rintro e w4 ⟨rfl, hT4, ho4⟩)
  go_end0
  exact ⟨rfl, _, hT4, (HO3.out.mono (L' := [n.b, T.db]) (fun i hi => Or.inl (by simp at hi; simp [hi]))).trans ho4 (fun i hi => Or.inl (by simp at hi; simp [hi])), Nat.le_succ _⟩
end Go.Proofs.YtmfcfkomdflhlaaDoor
/- The tree: an entry is put. -/
namespace Go.Proofs.YtmfcfkomdflhlaaDoor
open Go Go.RowKit Go.Deep Go.Maps

/-- A directory's entries are others now. -/
def Tr.named (T : Tr) (a b : Nat) (l : List Ent) : Tr := { T with ds := setN T.ds a (some ⟨b, l⟩) }
theorem TreeAt.named {w w2 : World} {tr a : Nat} {T : Tr} {d : DirM} {l : List Ent} (h : TreeAt w tr T) (hd : T.ds a = some d) (hown : w2.ownsMap Tryd.prog 9 handElem d.b l.length (entD l)) (ho : Only [d.b] w w2) : TreeAt w2 tr (T.named a d.b l) := by
  obtain ⟨D, n0, d1, d2, d3⟩ := h.dirs
  obtain ⟨P, m, p1, p2, p3⟩ := h.pins
  obtain ⟨f1, f2, f3⟩ := h.fdir a d hd
  have htr : tr < w.heap.size := lt_of_cell h.c0
  have hne : tr ∉ [d.b] := by simpa using (own_ne_cell (h.dir a d hd) h.c0).symm
  have hds : ∀ i e, setN T.ds a (some ⟨d.b, l⟩) i = some e → (i = a ∧ e = ⟨d.b, l⟩) ∨ (i ≠ a ∧ T.ds i = some e) := fun i e he => by
    by_cases hi : i = a
    · subst hi
      rw [setN_same] at he
      cases he
      exact Or.inl ⟨rfl, rfl⟩
    · rw [setN_other _ _ hi] at he
      exact Or.inr ⟨hi, he⟩
  have hdlt : ∀ i e, (T.named a d.b l).ds i = some e → i < (T.named a d.b l).p.N := fun i e he => by
    rcases hds i e he with ⟨rfl, _⟩ | ⟨_, e'⟩
    · exact h.dlt i d hd
    · exact h.dlt i e e'
  have hF : ∀ k, (T.named a d.b l).dirsF k = T.dirsF k := fun k => by
    obtain ⟨j, c⟩ := k
    show (if c = T.g j then (setN T.ds a (some ⟨d.b, l⟩) j).map (·.b) else none) = (if c = T.g j then (T.ds j).map (·.b) else none)
    by_cases hj : j = a
    · subst hj
      rw [setN_same, hd]
      rfl
    · rw [setN_other _ _ hj]
  refine ⟨(ho.cell (p := ⟨tr, 0, none⟩) htr hne).trans h.c0, (ho.cell (p := ⟨tr, 1, none⟩) htr hne).trans h.c1, (ho.cell (p := ⟨tr, 2, none⟩) htr hne).trans h.c2, h.tab.kept ho (fun k hk hm => by simp at hm; subst hm; exact f1 hk),
    ⟨D, n0, own_only d1 ho (show T.db ∉ [d.b] from by simpa using Ne.symm f2), d2, d3.congr hF⟩, fun i e he => ?_, ⟨P, m, own_only p1 ho (show T.pb ∉ [d.b] from by simpa using (Ne.symm f3)), p2, p3⟩, fun i j e e' he he' hb => ?_, ⟨h.small.N, h.small.g⟩, h.ftr, h.fdb, h.fpb, fun i e he => ?_, h.dp, hdlt, h.plt⟩
  · rcases hds i e he with ⟨rfl, rfl⟩ | ⟨hi, e'⟩
    · exact hown
    · exact own_only (h.dir i e e') ho (fun hm => hi (h.one i a e d e' hd (by simpa using hm)))
  · rcases hds i e he with ⟨rfl, rfl⟩ | ⟨hi, e1⟩
    · rcases hds j e' he' with ⟨rfl, _⟩ | ⟨hj, e2⟩
      · rfl
      · exact h.one i j d e' hd e2 hb
    · rcases hds j e' he' with ⟨rfl, rfl⟩ | ⟨hj, e2⟩
      · exact h.one i j e d e1 hd hb
      · exact h.one i j e e' e1 e2 hb
  · rcases hds i e he with ⟨rfl, rfl⟩ | ⟨hi, e'⟩
    · exact ⟨f1, f2, f3⟩
    · exact h.fdir i e e'
/-- Where the entry is written. -/
theorem name_put {w : World} {d : DirM} (h : DirAt w d) (hl : d.l.length ≤ 1000) (s : ByteArray) (hs : s.size ≤ 1000) (i c : Nat) : ∃ w', (Instr.mapUpdate 159 (.map (some d.b)) (.string s) (.agg #[.int .i64 i, .int .i64 c])).run Tryd.prog w = .ok () w' ∧ w'.ownsMap Tryd.prog 9 handElem d.b (insE ⟨s.data.toList, i, c⟩ (dropE d.l s.data.toList)).length (entD (insE ⟨s.data.toList, i, c⟩ (dropE d.l s.data.toList))) ∧ Only [d.b] w w' := by
  obtain ⟨w', hr, ho, ht⟩ := World.ownsMap.store h lawS undNames (by unfold maxLen; omega) (WideMaps.keyOf_string_mk Tryd.underlying9 (s := s) (by unfold maxLen; omega)) (handElem_mk i c)
  refine ⟨w', hr, ?_, only_turned ht⟩
  have e := put_entD d.l ⟨s.data.toList, i, c⟩
  simp only at e
  rw [e] at ho
  have := own_sized ho
  rw [size_entD] at this
  exact this
end Go.Proofs.YtmfcfkomdflhlaaDoor
