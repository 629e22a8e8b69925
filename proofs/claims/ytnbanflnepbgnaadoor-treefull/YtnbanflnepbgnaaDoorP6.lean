/- The tree: an entry is put for a directory. -/
import Derived.Test.YtnbanflnepbgnaaDoorP5
/- The tree: an entry is put for a directory. -/
namespace Go.Proofs.YtnbanflnepbgnaaDoor
open Go Go.RowKit Go.Deep Go.Maps

set_option maxHeartbeats 2000000 in
theorem put_dir (w : World) (tr : Nat) (T : Tr) (a i : Nat) (na ni : Nod) (d : DirM) (s : ByteArray) (h : TreeAt w tr T) (hd : T.ds a = some d) (ha : T.nd a = some na) (hKa : na.K = 2) (hi : T.nd i = some ni) (hKi : ni.K = 2) (hai : a ≠ i) (hZ : 0 ≤ ni.Z) (hl : d.l.length ≤ 900) (hs : s.size ≤ 1000) (hL : 0 ≤ ni.L ∧ ni.L ≤ 1000) (hlive : ∀ e ∈ d.l, e.i < T.p.N ∧ e.c = T.g e.i) :
    Calls Tryd.prog 20 #[.pointer (some ⟨tr, 0, none⟩), .agg #[.int .i64 a, .int .i64 (T.g a : Nat)], .string s, .agg #[.int .i64 i, .int .i64 (T.g i : Nat)]] w fun e w' => e = .returned (.tuple #[]) ∧ TreeAt w' tr { T.named a d.b (insE ⟨s.data.toList, i, T.g i⟩ (dropE d.l s.data.toList)) with nd := setN (setN T.nd i (some { ni with Z := ni.Z, UN := (a : Int), UG := (T.g a : Int), L := ni.L })) a (some { na with Z := ((insE ⟨s.data.toList, i, T.g i⟩ (dropE d.l s.data.toList)).length : Nat), L := 2 + (dirsIn (insE ⟨s.data.toList, i, T.g i⟩ (dropE d.l s.data.toList)) (T.named a d.b (insE ⟨s.data.toList, i, T.g i⟩ (dropE d.l s.data.toList))).ds : Int) }) } ∧ Only [d.b, ni.b, na.b] w w' := by
  have hal := h.tab.lt ha
  have ct0 := h.c0
  have ct1 := h.c1
  have htl : tr < w.heap.size := lt_of_cell ct0
  have hO2 : Only [] w ((w.alloc (.cells #[.int .i64 a, .int .i64 (T.g a : Nat)] 29)).alloc (.cells #[.int .i64 i, .int .i64 (T.g i : Nat)] 29)).drew := (((Only.refl [] w).alloc _).alloc _).drew
  have hT2 := h.only hO2
  have hlook := look_dir hT2 hal hd
  obtain ⟨w3, hst, hown3, hod⟩ := name_put (hT2.dir a d hd) (by omega) s hs i (T.g i)
  generalize hlE : insE ⟨s.data.toList, i, T.g i⟩ (dropE d.l s.data.toList) = l' at hown3 ⊢
  have hO3 : Only [d.b] w w3 := (hO2.mono (L' := [d.b]) (fun _ hk => by cases hk)).trans hod (fun _ hk => Or.inl hk)
  have hT3 := h.named hd hown3 hO3
  have hdb : d.b < w.heap.size := World.ownsMap.lt (h.dir a d hd)
  have htold : Calls Tryd.prog 29 #[.pointer (some ⟨tr, 0, none⟩), .agg #[.int .i64 i, .int .i64 (T.g i : Nat)]] w3 fun e w' => e = .returned (attrV ni.K ni.Z ni.L ni.C ni.UN ni.UG) ∧ Only [] w3 w' := told_ok w3 tr (T.named a d.b l') i ni ni.Z hT3 hi (Or.inr ⟨hKi, rfl⟩)
  unfold attrV at htold
  rw [hKi] at htold
  have hil := h.tab.lt hi
  have hhA := heap_alloc_last w (.cells #[.int .i64 a, .int .i64 (T.g a : Nat)] 29)
  have hhI := heap_alloc_last (w.alloc (.cells #[.int .i64 a, .int .i64 (T.g a : Nat)] 29)) (.cells #[.int .i64 i, .int .i64 (T.g i : Nat)] 29)
  rw [World.size_alloc] at hhI
  have hOA : Only [] (w.alloc (.cells #[.int .i64 a, .int .i64 (T.g a : Nat)] 29)) ((w.alloc (.cells #[.int .i64 a, .int .i64 (T.g a : Nat)] 29)).alloc (.cells #[.int .i64 i, .int .i64 (T.g i : Nat)] 29)).drew := ((Only.refl [] _).alloc _).drew
  have hOI : Only [] ((w.alloc (.cells #[.int .i64 a, .int .i64 (T.g a : Nat)] 29)).alloc (.cells #[.int .i64 i, .int .i64 (T.g i : Nat)] 29)) ((w.alloc (.cells #[.int .i64 a, .int .i64 (T.g a : Nat)] 29)).alloc (.cells #[.int .i64 i, .int .i64 (T.g i : Nat)] 29)).drew := (Only.refl [] _).drew
  have hnA : w.heap.size ∉ [d.b] := fun hm => by have e : w.heap.size = d.b := (by simpa using hm); omega
  have hnI : w.heap.size + 1 ∉ [d.b] := fun hm => by have e : w.heap.size + 1 = d.b := (by simpa using hm); omega
  have x0 : w3.cell? ⟨w.heap.size, 0, none⟩ = some (.int .i64 a) := (hod.cell (p := ⟨w.heap.size, 0, none⟩) (by simp; omega) hnA).trans ((hOA.cell (p := ⟨w.heap.size, 0, none⟩) (by simp) (by simp)).trans (cell_of_row _ _ 0 _ _ _ hhA))
  have x1 : w3.cell? ⟨w.heap.size, 1, none⟩ = some (.int .i64 (T.g a : Nat)) := (hod.cell (p := ⟨w.heap.size, 1, none⟩) (by simp; omega) hnA).trans ((hOA.cell (p := ⟨w.heap.size, 1, none⟩) (by simp) (by simp)).trans (cell_of_row _ _ 1 _ _ _ hhA))
  have y0 : w3.cell? ⟨w.heap.size + 1, 0, none⟩ = some (.int .i64 i) := (hod.cell (p := ⟨w.heap.size + 1, 0, none⟩) (by simp) hnI).trans ((hOI.cell (p := ⟨w.heap.size + 1, 0, none⟩) (by simp) (by simp)).trans (cell_of_row _ _ 0 _ _ _ hhI))
  have y1 : w3.cell? ⟨w.heap.size + 1, 1, none⟩ = some (.int .i64 (T.g i : Nat)) := (hod.cell (p := ⟨w.heap.size + 1, 1, none⟩) (by simp) hnI).trans ((hOI.cell (p := ⟨w.heap.size + 1, 1, none⟩) (by simp) (by simp)).trans (cell_of_row _ _ 1 _ _ _ hhI))
  have H3 : Hid (TreeAt w3 tr (T.named a d.b l')) := hT3
  have HO3 : Hid (Only [d.b] w w3) := hO3
  have HX : Hid (w3.cell? ⟨w.heap.size, 0, none⟩ = some (.int .i64 a) ∧ w3.cell? ⟨w.heap.size, 1, none⟩ = some (.int .i64 (T.g a : Nat)) ∧ w3.cell? ⟨w.heap.size + 1, 0, none⟩ = some (.int .i64 i) ∧ w3.cell? ⟨w.heap.size + 1, 1, none⟩ = some (.int .i64 (T.g i : Nat))) := ⟨x0, x1, y0, y1⟩
  clear hT3 hO3 hod hT2 hO2 hOA hOI hnA hnI hhA hhI hown3
  go_enter Tryd.func20, Tryd.ntmps20
  go_wp2
  go_region
  go_wp2_with (go_at_call 29; go_must (refine htold.mono ?_); rintro e w4 ⟨rfl, ho4⟩)
  have hO5 : Only [] w3 ((w4.alloc (.cells #[.int .i64 2, .int .i64 ni.Z, .int .i64 ni.L, .int .i64 ni.C, .int .i64 ni.UN, .int .i64 ni.UG] 59)).drew) := (ho4.alloc _).drew
  have hT5 := H3.out.only hO5
  have hvl := heap_alloc_last w4 (.cells #[.int .i64 2, .int .i64 ni.Z, .int .i64 ni.L, .int .i64 ni.C, .int .i64 ni.UN, .int .i64 ni.UG] 59)
  have h3lt : ∀ {k v}, w3.cell? k = some v → ((w4.alloc (.cells #[.int .i64 2, .int .i64 ni.Z, .int .i64 ni.L, .int .i64 ni.C, .int .i64 ni.UN, .int .i64 ni.UG] 59)).drew).cell? k = some v := fun hc => (hO5.cell (lt_of_cell hc) (by simp)).trans hc
  have K0 : Hid (((w4.alloc (.cells #[.int .i64 2, .int .i64 ni.Z, .int .i64 ni.L, .int .i64 ni.C, .int .i64 ni.UN, .int .i64 ni.UG] 59)).drew).cell? ⟨tr, 0, none⟩ = some (.pointer (some ⟨T.t, 0, none⟩)) ∧ ((w4.alloc (.cells #[.int .i64 2, .int .i64 ni.Z, .int .i64 ni.L, .int .i64 ni.C, .int .i64 ni.UN, .int .i64 ni.UG] 59)).drew).cell? ⟨w.heap.size, 0, none⟩ = some (.int .i64 a) ∧ ((w4.alloc (.cells #[.int .i64 2, .int .i64 ni.Z, .int .i64 ni.L, .int .i64 ni.C, .int .i64 ni.UN, .int .i64 ni.UG] 59)).drew).cell? ⟨w.heap.size, 1, none⟩ = some (.int .i64 (T.g a : Nat)) ∧ ((w4.alloc (.cells #[.int .i64 2, .int .i64 ni.Z, .int .i64 ni.L, .int .i64 ni.C, .int .i64 ni.UN, .int .i64 ni.UG] 59)).drew).cell? ⟨w.heap.size + 1, 0, none⟩ = some (.int .i64 i) ∧ ((w4.alloc (.cells #[.int .i64 2, .int .i64 ni.Z, .int .i64 ni.L, .int .i64 ni.C, .int .i64 ni.UN, .int .i64 ni.UG] 59)).drew).cell? ⟨w.heap.size + 1, 1, none⟩ = some (.int .i64 (T.g i : Nat)) ∧ ((w4.alloc (.cells #[.int .i64 2, .int .i64 ni.Z, .int .i64 ni.L, .int .i64 ni.C, .int .i64 ni.UN, .int .i64 ni.UG] 59)).drew).cell? ⟨w4.heap.size, 1, none⟩ = some (.int .i64 ni.Z) ∧ ((w4.alloc (.cells #[.int .i64 2, .int .i64 ni.Z, .int .i64 ni.L, .int .i64 ni.C, .int .i64 ni.UN, .int .i64 ni.UG] 59)).drew).cell? ⟨w4.heap.size, 2, none⟩ = some (.int .i64 ni.L)) := ⟨h3lt H3.out.c0, h3lt HX.out.1, h3lt HX.out.2.1, h3lt HX.out.2.2.1, h3lt HX.out.2.2.2, cell_of_row _ _ 1 _ _ _ hvl, cell_of_row _ _ 2 _ _ _ hvl⟩
  have hadj := tadj_dir ((w4.alloc (.cells #[.int .i64 2, .int .i64 ni.Z, .int .i64 ni.L, .int .i64 ni.C, .int .i64 ni.UN, .int .i64 ni.UG] 59)).drew) T.t T.p T.most i T.g T.nd ni ni.Z ni.L a (T.g a : Nat) hT5.tab hi (And.intro (by omega) (by omega)) hKi
  have hnt : ∀ k, k ∈ [ni.b] → InFoot T.t T.p T.most T.nd k := fun k hk => by simp at hk; subst hk; exact .node hi ni.b_foot
  have hnb : ni.b < w.heap.size := lt_of_cell (h.tab.node i ni hi).c0
  have hw4 : w.heap.size ≤ w4.heap.size := Nat.le_trans HO3.out.size ho4.size
  have HK6 : Hid (∀ w6 : World, Only [ni.b] ((w4.alloc (.cells #[.int .i64 2, .int .i64 ni.Z, .int .i64 ni.L, .int .i64 ni.C, .int .i64 ni.UN, .int .i64 ni.UG] 59)).drew) w6 → w6.cell? ⟨tr, 0, none⟩ = some (.pointer (some ⟨T.t, 0, none⟩)) ∧ w6.cell? ⟨w.heap.size, 0, none⟩ = some (.int .i64 a) ∧ w6.cell? ⟨w.heap.size, 1, none⟩ = some (.int .i64 (T.g a : Nat)) ∧ w6.cell? ⟨w.heap.size + 1, 0, none⟩ = some (.int .i64 i) ∧ w6.cell? ⟨w.heap.size + 1, 1, none⟩ = some (.int .i64 (T.g i : Nat)) ∧ w6.cell? ⟨w4.heap.size, 1, none⟩ = some (.int .i64 ni.Z) ∧ w6.cell? ⟨w4.heap.size, 2, none⟩ = some (.int .i64 ni.L)) := fun w6 o6 => by
    have kk := K0.out
    have no : ∀ k, w.heap.size ≤ k → k ∉ [ni.b] := fun k hk hm => by have e : k = ni.b := (by simpa using hm); omega
    have hr : tr ∉ [ni.b] := fun hm => h.ftr (hnt tr hm)
    exact ⟨(o6.cell (p := ⟨tr, 0, none⟩) (lt_of_cell kk.1) hr).trans kk.1, (o6.cell (p := ⟨w.heap.size, 0, none⟩) (lt_of_cell kk.2.1) (no _ (Nat.le_refl _))).trans kk.2.1, (o6.cell (p := ⟨w.heap.size, 1, none⟩) (lt_of_cell kk.2.2.1) (no _ (Nat.le_refl _))).trans kk.2.2.1,
      (o6.cell (p := ⟨w.heap.size + 1, 0, none⟩) (lt_of_cell kk.2.2.2.1) (no _ (Nat.le_succ _))).trans kk.2.2.2.1, (o6.cell (p := ⟨w.heap.size + 1, 1, none⟩) (lt_of_cell kk.2.2.2.2.1) (no _ (Nat.le_succ _))).trans kk.2.2.2.2.1, (o6.cell (p := ⟨w4.heap.size, 1, none⟩) (lt_of_cell kk.2.2.2.2.2.1) (no _ hw4)).trans kk.2.2.2.2.2.1, (o6.cell (p := ⟨w4.heap.size, 2, none⟩) (lt_of_cell kk.2.2.2.2.2.2) (no _ hw4)).trans kk.2.2.2.2.2.2⟩
  have HN6 : Hid (∀ w6, TabAt w6 T.t T.p T.most T.g (setN T.nd i (some { ni with Z := ni.Z, UN := (a : Int), UG := (T.g a : Int), L := ni.L })) → Only [ni.b] ((w4.alloc (.cells #[.int .i64 2, .int .i64 ni.Z, .int .i64 ni.L, .int .i64 ni.C, .int .i64 ni.UN, .int .i64 ni.UG] 59)).drew) w6 → TreeAt w6 tr { T.named a d.b l' with nd := setN T.nd i (some { ni with Z := ni.Z, UN := (a : Int), UG := (T.g a : Int), L := ni.L }) }) := fun w6 t6 o6 => TreeAt.node (T := T.named a d.b l') (n := ni) (n' := { ni with Z := ni.Z, UN := (a : Int), UG := (T.g a : Int), L := ni.L }) hT5 hi rfl rfl t6 o6
  have HO5 : Hid (Only [d.b] w ((w4.alloc (.cells #[.int .i64 2, .int .i64 ni.Z, .int .i64 ni.L, .int .i64 ni.C, .int .i64 ni.UN, .int .i64 ni.UG] 59)).drew)) := HO3.out.trans hO5 (fun _ hk => by cases hk)
  have hl2 : l'.length ≤ 1000 := by
    rw [← hlE, length_insE]
    have := List.length_filter_le (fun e : Ent => !(e.s == s.data.toList)) d.l
    unfold dropE
    omega
  have HRC : Hid (∀ w6, TreeAt w6 tr { T.named a d.b l' with nd := setN T.nd i (some { ni with Z := ni.Z, UN := (a : Int), UG := (T.g a : Int), L := ni.L }) } → Calls Tryd.prog 31 #[.pointer (some ⟨tr, 0, none⟩), .agg #[.int .i64 a, .int .i64 (T.g a : Nat)]] w6 fun e w' => e = .returned (.tuple #[]) ∧ TreeAt w' tr { T.named a d.b l' with nd := setN (setN T.nd i (some { ni with Z := ni.Z, UN := (a : Int), UG := (T.g a : Int), L := ni.L })) a (some { na with Z := (l'.length : Nat), L := 2 + (dirsIn l' (T.named a d.b l').ds : Int) }) } ∧ Only [na.b] w6 w') := fun w6 t6 => recount_ok w6 tr { T.named a d.b l' with nd := setN T.nd i (some { ni with Z := ni.Z, UN := (a : Int), UG := (T.g a : Int), L := ni.L }) } a na ⟨d.b, l'⟩ t6 (setN_same _ _ _) ((setN_other _ _ hai).trans ha) hKa hl2 (fun e he => by
    have he' : e ∈ l' := he
    rw [← hlE] at he'
    rcases mem_insE.1 he' with rfl | he2
    · exact ⟨hil, rfl⟩
    · exact hlive e (List.mem_filter.1 he2).1)
  clear hO5 hT5 hvl h3lt hnt h hlive
  go_region_held3 (fun W => W.cell? ⟨tr, 0, none⟩ = some (.pointer (some ⟨T.t, 0, none⟩)) ∧ W.cell? ⟨w.heap.size, 0, none⟩ = some (.int .i64 a) ∧ W.cell? ⟨w.heap.size, 1, none⟩ = some (.int .i64 (T.g a : Nat)) ∧ W.cell? ⟨w.heap.size + 1, 0, none⟩ = some (.int .i64 i) ∧ W.cell? ⟨w.heap.size + 1, 1, none⟩ = some (.int .i64 (T.g i : Nat)) ∧ W.cell? ⟨w4.heap.size, 1, none⟩ = some (.int .i64 ni.Z) ∧ W.cell? ⟨w4.heap.size, 2, none⟩ = some (.int .i64 ni.L))
    (with_reducible first
      | exact K0.out
      | exact K6.out)
    (first
      | (go_at_call 30; refine hadj.mono ?_; rintro e w6 ⟨rfl, hT6, ho6⟩; have HT6 : Hid (TreeAt w6 tr { T.named a d.b l' with nd := setN T.nd i (some { ni with Z := ni.Z, UN := (a : Int), UG := (T.g a : Int), L := ni.L }) }) := HN6.out w6 hT6 ho6; have K6 : Hid (w6.cell? ⟨tr, 0, none⟩ = some (.pointer (some ⟨T.t, 0, none⟩)) ∧ w6.cell? ⟨w.heap.size, 0, none⟩ = some (.int .i64 a) ∧ w6.cell? ⟨w.heap.size, 1, none⟩ = some (.int .i64 (T.g a : Nat)) ∧ w6.cell? ⟨w.heap.size + 1, 0, none⟩ = some (.int .i64 i) ∧ w6.cell? ⟨w.heap.size + 1, 1, none⟩ = some (.int .i64 (T.g i : Nat)) ∧ w6.cell? ⟨w4.heap.size, 1, none⟩ = some (.int .i64 ni.Z) ∧ w6.cell? ⟨w4.heap.size, 2, none⟩ = some (.int .i64 ni.L)) := HK6.out w6 ho6; have HO6 : Hid (Only [ni.b] ((w4.alloc (.cells #[.int .i64 2, .int .i64 ni.Z, .int .i64 ni.L, .int .i64 ni.C, .int .i64 ni.UN, .int .i64 ni.UG] 59)).drew) w6) := ho6; clear hT6 ho6 hadj))
  all_goals have hrec := HRC.out w6 HT6.out
  all_goals have z0 := K6.out.2.1
  all_goals have z1 := K6.out.2.2.1
  all_goals go_wp2_with (go_at_call 31; go_must (refine hrec.mono ?_); rintro e w7 ⟨rfl, hT7, ho7⟩)
  all_goals go_end0
  all_goals
    refine ⟨rfl, hT7, ?_⟩
    have o1 : Only [d.b, ni.b, na.b] w w6 := (HO5.out.mono (L' := [d.b, ni.b, na.b]) (fun k hk => Or.inl (by simp at hk; simp [hk]))).trans HO6.out (fun k hk => Or.inl (by simp at hk; simp [hk]))
    exact o1.trans ho7 (fun k hk => Or.inl (by simp at hk; simp [hk]))
end Go.Proofs.YtnbanflnepbgnaaDoor
/- The tree: is a handle a directory's? -/
namespace Go.Proofs.YtnbanflnepbgnaaDoor
open Go Go.RowKit Go.Deep Go.Maps

theorem keepZ_only {w W : World} {tr t B : Nat} {N G : Int} (h : w.cell? ⟨tr, 0, none⟩ = some (.pointer (some ⟨t, 0, none⟩)) ∧ w.cell? ⟨B, 0, none⟩ = some (.int .i64 N) ∧ w.cell? ⟨B, 1, none⟩ = some (.int .i64 G)) (ho : Only [] w W) : W.cell? ⟨tr, 0, none⟩ = some (.pointer (some ⟨t, 0, none⟩)) ∧ W.cell? ⟨B, 0, none⟩ = some (.int .i64 N) ∧ W.cell? ⟨B, 1, none⟩ = some (.int .i64 G) :=
  ⟨(ho.cell (p := ⟨tr, 0, none⟩) (lt_of_cell h.1) (by simp)).trans h.1, (ho.cell (p := ⟨B, 0, none⟩) (lt_of_cell h.2.1) (by simp)).trans h.2.1, (ho.cell (p := ⟨B, 1, none⟩) (lt_of_cell h.2.2) (by simp)).trans h.2.2⟩
theorem keepZ_alloc {W : World} {tr t B : Nat} {N G : Int} {o : Obj} (h : W.cell? ⟨tr, 0, none⟩ = some (.pointer (some ⟨t, 0, none⟩)) ∧ W.cell? ⟨B, 0, none⟩ = some (.int .i64 N) ∧ W.cell? ⟨B, 1, none⟩ = some (.int .i64 G)) : (W.alloc o).cell? ⟨tr, 0, none⟩ = some (.pointer (some ⟨t, 0, none⟩)) ∧ (W.alloc o).cell? ⟨B, 0, none⟩ = some (.int .i64 N) ∧ (W.alloc o).cell? ⟨B, 1, none⟩ = some (.int .i64 G) := keepZ_only h ((Only.refl [] W).alloc _)
theorem keepZ_set {W : World} {tr t B blk o : Nat} {N G : Int} {u : Value} (h : W.cell? ⟨tr, 0, none⟩ = some (.pointer (some ⟨t, 0, none⟩)) ∧ W.cell? ⟨B, 0, none⟩ = some (.int .i64 N) ∧ W.cell? ⟨B, 1, none⟩ = some (.int .i64 G)) (h1 : tr ≠ blk) (h2 : B ≠ blk) : (W.setCell ⟨blk, o, none⟩ u).cell? ⟨tr, 0, none⟩ = some (.pointer (some ⟨t, 0, none⟩)) ∧ (W.setCell ⟨blk, o, none⟩ u).cell? ⟨B, 0, none⟩ = some (.int .i64 N) ∧ (W.setCell ⟨blk, o, none⟩ u).cell? ⟨B, 1, none⟩ = some (.int .i64 G) := by
  have ho : Only [blk] W (W.setCell ⟨blk, o, none⟩ u) := (Only.refl [blk] W).setCell (Or.inl (by simp)) _
  exact ⟨(ho.cell (p := ⟨tr, 0, none⟩) (lt_of_cell h.1) (by simpa using h1)).trans h.1, (ho.cell (p := ⟨B, 0, none⟩) (lt_of_cell h.2.1) (by simpa using h2)).trans h.2.1, (ho.cell (p := ⟨B, 1, none⟩) (lt_of_cell h.2.2) (by simpa using h2)).trans h.2.2⟩
section
variable (w : World) (tr t : Nat) (N G K Z L C UN UG : Int)
set_option maxHeartbeats 1000000 in
theorem checkDir_yes (ct : w.cell? ⟨tr, 0, none⟩ = some (.pointer (some ⟨t, 0, none⟩)))
    (HC0 : ∀ w1, Only [] w w1 → Calls Tryd.prog 24 #[.pointer (some ⟨t, 0, none⟩), .agg #[.int .i64 N, .int .i64 G]] w1 fun e w' => e = .returned (.tuple #[.agg #[.int .i64 2, .int .i64 Z, .int .i64 L, .int .i64 C, .int .i64 UN, .int .i64 UG], .nilIface]) ∧ Only [] w1 w') :
    Calls Tryd.prog 17 #[.pointer (some ⟨tr, 0, none⟩), .agg #[.int .i64 N, .int .i64 G]] w fun e w' => e = .returned .nilIface ∧ Only [] w w' := by
    have htl : tr < w.heap.size := lt_of_cell ct
    have H1 : Hid ((w.alloc (.cells #[.int .i64 N, .int .i64 G] 29)).cell? ⟨tr, 0, none⟩ = some (.pointer (some ⟨t, 0, none⟩)) ∧ (w.alloc (.cells #[.int .i64 N, .int .i64 G] 29)).cell? ⟨w.heap.size, 0, none⟩ = some (.int .i64 N) ∧ (w.alloc (.cells #[.int .i64 N, .int .i64 G] 29)).cell? ⟨w.heap.size, 1, none⟩ = some (.int .i64 G)) := by
      have hh := heap_alloc_last w (.cells #[.int .i64 N, .int .i64 G] 29)
      exact ⟨(((Only.refl [] w).alloc _).cell (p := ⟨tr, 0, none⟩) (lt_of_cell ct) (by simp)).trans ct, cell_of_row _ _ 0 _ _ _ hh, cell_of_row _ _ 1 _ _ _ hh⟩
    have HW1 : Hid (Only [] (w.alloc (.cells #[.int .i64 N, .int .i64 G] 29)) (w.alloc (.cells #[.int .i64 N, .int .i64 G] 29)).drew) := (Only.refl [] _).drew
    have HW2 : Hid (Only [] (w.alloc (.cells #[.int .i64 N, .int .i64 G] 29)) ((w.alloc (.cells #[.int .i64 N, .int .i64 G] 29)).alloc (.cells #[.int .i64 0, .int .i64 0, .int .i64 0, .int .i64 0, .int .i64 0, .int .i64 0] 59)).drew) := ((Only.refl [] _).alloc _).drew
    have HV1 : Hid (Only [] w (w.alloc (.cells #[.int .i64 N, .int .i64 G] 29)).drew) := ((Only.refl [] _).alloc _).drew
    have HV2 : Hid (Only [] w ((w.alloc (.cells #[.int .i64 N, .int .i64 G] 29)).alloc (.cells #[.int .i64 0, .int .i64 0, .int .i64 0, .int .i64 0, .int .i64 0, .int .i64 0] 59)).drew) := (((Only.refl [] _).alloc _).alloc _).drew
    have K1 : Hid ((w.alloc (.cells #[.int .i64 N, .int .i64 G] 29)).drew.cell? ⟨tr, 0, none⟩ = some (.pointer (some ⟨t, 0, none⟩)) ∧ (w.alloc (.cells #[.int .i64 N, .int .i64 G] 29)).drew.cell? ⟨w.heap.size, 0, none⟩ = some (.int .i64 N) ∧ (w.alloc (.cells #[.int .i64 N, .int .i64 G] 29)).drew.cell? ⟨w.heap.size, 1, none⟩ = some (.int .i64 G)) := keepZ_only H1.out HW1.out
    have K2 : Hid (((w.alloc (.cells #[.int .i64 N, .int .i64 G] 29)).alloc (.cells #[.int .i64 0, .int .i64 0, .int .i64 0, .int .i64 0, .int .i64 0, .int .i64 0] 59)).drew.cell? ⟨tr, 0, none⟩ = some (.pointer (some ⟨t, 0, none⟩)) ∧ ((w.alloc (.cells #[.int .i64 N, .int .i64 G] 29)).alloc (.cells #[.int .i64 0, .int .i64 0, .int .i64 0, .int .i64 0, .int .i64 0, .int .i64 0] 59)).drew.cell? ⟨w.heap.size, 0, none⟩ = some (.int .i64 N) ∧ ((w.alloc (.cells #[.int .i64 N, .int .i64 G] 29)).alloc (.cells #[.int .i64 0, .int .i64 0, .int .i64 0, .int .i64 0, .int .i64 0, .int .i64 0] 59)).drew.cell? ⟨w.heap.size, 1, none⟩ = some (.int .i64 G)) := keepZ_only H1.out HW2.out
    have HN2 : Hid (tr ≠ w.heap.size + 1) := show tr ≠ w.heap.size + 1 from by omega
    have HB2 : Hid (w.heap.size ≠ w.heap.size + 1) := show w.heap.size ≠ w.heap.size + 1 from by omega
    have HC : Hid (∀ w1, Only [] w w1 → Calls Tryd.prog 24 #[.pointer (some ⟨t, 0, none⟩), .agg #[.int .i64 N, .int .i64 G]] w1 fun e w' => e = .returned (.tuple #[.agg #[.int .i64 2, .int .i64 Z, .int .i64 L, .int .i64 C, .int .i64 UN, .int .i64 UG], .nilIface]) ∧ Only [] w1 w') := HC0
    clear HC0
    go_enter Tryd.func17, Tryd.ntmps17
    go_wp2
    go_region_held3 (fun W => W.cell? ⟨tr, 0, none⟩ = some (.pointer (some ⟨t, 0, none⟩)) ∧ W.cell? ⟨w.heap.size, 0, none⟩ = some (.int .i64 N) ∧ W.cell? ⟨w.heap.size, 1, none⟩ = some (.int .i64 G))
      (with_reducible first
        | exact K1.out
        | exact K2.out
        | exact HS2.out
        | exact keepZ_alloc HS2.out
        | exact keepZ_set (keepZ_set (keepZ_set (keepZ_set (keepZ_set (keepZ_set (HS2.out) HN2.out HB2.out) HN2.out HB2.out) HN2.out HB2.out) HN2.out HB2.out) HN2.out HB2.out) HN2.out HB2.out)
      (first
        | (go_at_call 24; refine (HC.out _ HV1.out).mono ?_; rintro e w2 ⟨rfl, ho2⟩; have HO2 : Hid (Only [] (w.alloc (.cells #[.int .i64 N, .int .i64 G] 29)) w2) := HW1.out.trans ho2 (fun _ hk => by cases hk); have HS2 : Hid (w2.cell? ⟨tr, 0, none⟩ = some (.pointer (some ⟨t, 0, none⟩)) ∧ w2.cell? ⟨w.heap.size, 0, none⟩ = some (.int .i64 N) ∧ w2.cell? ⟨w.heap.size, 1, none⟩ = some (.int .i64 G)) := keepZ_only H1.out HO2.out; clear ho2)
        | (go_at_call 24; refine (HC.out _ HV2.out).mono ?_; rintro e w2 ⟨rfl, ho2⟩; have HO2 : Hid (Only [] (w.alloc (.cells #[.int .i64 N, .int .i64 G] 29)) w2) := HW2.out.trans ho2 (fun _ hk => by cases hk); have HS2 : Hid (w2.cell? ⟨tr, 0, none⟩ = some (.pointer (some ⟨t, 0, none⟩)) ∧ w2.cell? ⟨w.heap.size, 0, none⟩ = some (.int .i64 N) ∧ w2.cell? ⟨w.heap.size, 1, none⟩ = some (.int .i64 G)) := keepZ_only H1.out HO2.out; obtain ⟨q0, q1, q2, q3, q4, q5, f1, hl1⟩ := own_six_drew (B := w.heap.size + 1) ho2 (by simp); clear ho2))
    all_goals have HO : Hid (Only [] w w2) := ((Only.refl [] w).alloc _).trans HO2.out (fun _ hk => by cases hk)
    all_goals have hsz : w.heap.size + 1 ≤ w2.heap.size := by have := HO2.out.size; simpa using this
    all_goals go_wp2
    all_goals go_ret
    all_goals have hle : w.heap.size ≤ w.heap.size + 1 := Nat.le_succ _
    · exact ⟨rfl, HO.out.alloc _⟩
    · exact ⟨rfl, HO.out.six hle⟩

set_option maxHeartbeats 1000000 in
theorem checkDir_file (E : Value) (hE : w.cell? ⟨5, 0, none⟩ = some E) (ct : w.cell? ⟨tr, 0, none⟩ = some (.pointer (some ⟨t, 0, none⟩)))
    (HC0 : ∀ w1, Only [] w w1 → Calls Tryd.prog 24 #[.pointer (some ⟨t, 0, none⟩), .agg #[.int .i64 N, .int .i64 G]] w1 fun e w' => e = .returned (.tuple #[.agg #[.int .i64 1, .int .i64 Z, .int .i64 L, .int .i64 C, .int .i64 UN, .int .i64 UG], .nilIface]) ∧ Only [] w1 w') :
    Calls Tryd.prog 17 #[.pointer (some ⟨tr, 0, none⟩), .agg #[.int .i64 N, .int .i64 G]] w fun e w' => e = .returned E ∧ Only [] w w' := by
    have htl : tr < w.heap.size := lt_of_cell ct
    have hEl : 5 < w.heap.size := lt_of_cell hE
    have HE : Hid (w.cell? ⟨5, 0, none⟩ = some E) := hE
    clear hE
    have H1 : Hid ((w.alloc (.cells #[.int .i64 N, .int .i64 G] 29)).cell? ⟨tr, 0, none⟩ = some (.pointer (some ⟨t, 0, none⟩)) ∧ (w.alloc (.cells #[.int .i64 N, .int .i64 G] 29)).cell? ⟨w.heap.size, 0, none⟩ = some (.int .i64 N) ∧ (w.alloc (.cells #[.int .i64 N, .int .i64 G] 29)).cell? ⟨w.heap.size, 1, none⟩ = some (.int .i64 G)) := by
      have hh := heap_alloc_last w (.cells #[.int .i64 N, .int .i64 G] 29)
      exact ⟨(((Only.refl [] w).alloc _).cell (p := ⟨tr, 0, none⟩) (lt_of_cell ct) (by simp)).trans ct, cell_of_row _ _ 0 _ _ _ hh, cell_of_row _ _ 1 _ _ _ hh⟩
    have HW1 : Hid (Only [] (w.alloc (.cells #[.int .i64 N, .int .i64 G] 29)) (w.alloc (.cells #[.int .i64 N, .int .i64 G] 29)).drew) := (Only.refl [] _).drew
    have HW2 : Hid (Only [] (w.alloc (.cells #[.int .i64 N, .int .i64 G] 29)) ((w.alloc (.cells #[.int .i64 N, .int .i64 G] 29)).alloc (.cells #[.int .i64 0, .int .i64 0, .int .i64 0, .int .i64 0, .int .i64 0, .int .i64 0] 59)).drew) := ((Only.refl [] _).alloc _).drew
    have HV1 : Hid (Only [] w (w.alloc (.cells #[.int .i64 N, .int .i64 G] 29)).drew) := ((Only.refl [] _).alloc _).drew
    have HV2 : Hid (Only [] w ((w.alloc (.cells #[.int .i64 N, .int .i64 G] 29)).alloc (.cells #[.int .i64 0, .int .i64 0, .int .i64 0, .int .i64 0, .int .i64 0, .int .i64 0] 59)).drew) := (((Only.refl [] _).alloc _).alloc _).drew
    have K1 : Hid ((w.alloc (.cells #[.int .i64 N, .int .i64 G] 29)).drew.cell? ⟨tr, 0, none⟩ = some (.pointer (some ⟨t, 0, none⟩)) ∧ (w.alloc (.cells #[.int .i64 N, .int .i64 G] 29)).drew.cell? ⟨w.heap.size, 0, none⟩ = some (.int .i64 N) ∧ (w.alloc (.cells #[.int .i64 N, .int .i64 G] 29)).drew.cell? ⟨w.heap.size, 1, none⟩ = some (.int .i64 G)) := keepZ_only H1.out HW1.out
    have K2 : Hid (((w.alloc (.cells #[.int .i64 N, .int .i64 G] 29)).alloc (.cells #[.int .i64 0, .int .i64 0, .int .i64 0, .int .i64 0, .int .i64 0, .int .i64 0] 59)).drew.cell? ⟨tr, 0, none⟩ = some (.pointer (some ⟨t, 0, none⟩)) ∧ ((w.alloc (.cells #[.int .i64 N, .int .i64 G] 29)).alloc (.cells #[.int .i64 0, .int .i64 0, .int .i64 0, .int .i64 0, .int .i64 0, .int .i64 0] 59)).drew.cell? ⟨w.heap.size, 0, none⟩ = some (.int .i64 N) ∧ ((w.alloc (.cells #[.int .i64 N, .int .i64 G] 29)).alloc (.cells #[.int .i64 0, .int .i64 0, .int .i64 0, .int .i64 0, .int .i64 0, .int .i64 0] 59)).drew.cell? ⟨w.heap.size, 1, none⟩ = some (.int .i64 G)) := keepZ_only H1.out HW2.out
    have HN2 : Hid (tr ≠ w.heap.size + 1) := show tr ≠ w.heap.size + 1 from by omega
    have HB2 : Hid (w.heap.size ≠ w.heap.size + 1) := show w.heap.size ≠ w.heap.size + 1 from by omega
    have HC : Hid (∀ w1, Only [] w w1 → Calls Tryd.prog 24 #[.pointer (some ⟨t, 0, none⟩), .agg #[.int .i64 N, .int .i64 G]] w1 fun e w' => e = .returned (.tuple #[.agg #[.int .i64 1, .int .i64 Z, .int .i64 L, .int .i64 C, .int .i64 UN, .int .i64 UG], .nilIface]) ∧ Only [] w1 w') := HC0
    clear HC0
    go_enter Tryd.func17, Tryd.ntmps17
    go_wp2
    go_region_held3 (fun W => W.cell? ⟨tr, 0, none⟩ = some (.pointer (some ⟨t, 0, none⟩)) ∧ W.cell? ⟨w.heap.size, 0, none⟩ = some (.int .i64 N) ∧ W.cell? ⟨w.heap.size, 1, none⟩ = some (.int .i64 G))
      (with_reducible first
        | exact K1.out
        | exact K2.out
        | exact HS2.out
        | exact keepZ_alloc HS2.out
        | exact keepZ_set (keepZ_set (keepZ_set (keepZ_set (keepZ_set (keepZ_set (HS2.out) HN2.out HB2.out) HN2.out HB2.out) HN2.out HB2.out) HN2.out HB2.out) HN2.out HB2.out) HN2.out HB2.out)
      (first
        | (go_at_call 24; refine (HC.out _ HV1.out).mono ?_; rintro e w2 ⟨rfl, ho2⟩; have HO2 : Hid (Only [] (w.alloc (.cells #[.int .i64 N, .int .i64 G] 29)) w2) := HW1.out.trans ho2 (fun _ hk => by cases hk); have HS2 : Hid (w2.cell? ⟨tr, 0, none⟩ = some (.pointer (some ⟨t, 0, none⟩)) ∧ w2.cell? ⟨w.heap.size, 0, none⟩ = some (.int .i64 N) ∧ w2.cell? ⟨w.heap.size, 1, none⟩ = some (.int .i64 G)) := keepZ_only H1.out HO2.out; clear ho2)
        | (go_at_call 24; refine (HC.out _ HV2.out).mono ?_; rintro e w2 ⟨rfl, ho2⟩; have HO2 : Hid (Only [] (w.alloc (.cells #[.int .i64 N, .int .i64 G] 29)) w2) := HW2.out.trans ho2 (fun _ hk => by cases hk); have HS2 : Hid (w2.cell? ⟨tr, 0, none⟩ = some (.pointer (some ⟨t, 0, none⟩)) ∧ w2.cell? ⟨w.heap.size, 0, none⟩ = some (.int .i64 N) ∧ w2.cell? ⟨w.heap.size, 1, none⟩ = some (.int .i64 G)) := keepZ_only H1.out HO2.out; obtain ⟨q0, q1, q2, q3, q4, q5, f1, hl1⟩ := own_six_drew (B := w.heap.size + 1) ho2 (by simp); clear ho2))
    all_goals have HO : Hid (Only [] w w2) := ((Only.refl [] w).alloc _).trans HO2.out (fun _ hk => by cases hk)
    all_goals have hsz : w.heap.size + 1 ≤ w2.heap.size := by have := HO2.out.size; simpa using this
    all_goals have cE : w2.cell? ⟨5, 0, none⟩ = some E := (HO.out.cell (p := ⟨5, 0, none⟩) hEl (by simp)).trans HE.out
    all_goals have hel : 5 < w2.heap.size := lt_of_cell cE
    all_goals go_wp2
    all_goals go_ret
    all_goals have hle : w.heap.size ≤ w.heap.size + 1 := Nat.le_succ _
    · exact ⟨rfl, HO.out.alloc _⟩
    · exact ⟨rfl, HO.out.six hle⟩

set_option maxHeartbeats 1000000 in
theorem checkDir_stale (ad : Addr) (ct : w.cell? ⟨tr, 0, none⟩ = some (.pointer (some ⟨t, 0, none⟩)))
    (HC0 : ∀ w1, Only [] w w1 → Calls Tryd.prog 24 #[.pointer (some ⟨t, 0, none⟩), .agg #[.int .i64 N, .int .i64 G]] w1 fun e w' => e = .returned (.tuple #[.agg #[.int .i64 K, .int .i64 Z, .int .i64 L, .int .i64 C, .int .i64 UN, .int .i64 UG], .iface 123 (.pointer (some ad))]) ∧ Only [] w1 w') :
    Calls Tryd.prog 17 #[.pointer (some ⟨tr, 0, none⟩), .agg #[.int .i64 N, .int .i64 G]] w fun e w' => e = .returned (.iface 123 (.pointer (some ad))) ∧ Only [] w w' := by
    have htl : tr < w.heap.size := lt_of_cell ct
    have H1 : Hid ((w.alloc (.cells #[.int .i64 N, .int .i64 G] 29)).cell? ⟨tr, 0, none⟩ = some (.pointer (some ⟨t, 0, none⟩)) ∧ (w.alloc (.cells #[.int .i64 N, .int .i64 G] 29)).cell? ⟨w.heap.size, 0, none⟩ = some (.int .i64 N) ∧ (w.alloc (.cells #[.int .i64 N, .int .i64 G] 29)).cell? ⟨w.heap.size, 1, none⟩ = some (.int .i64 G)) := by
      have hh := heap_alloc_last w (.cells #[.int .i64 N, .int .i64 G] 29)
      exact ⟨(((Only.refl [] w).alloc _).cell (p := ⟨tr, 0, none⟩) (lt_of_cell ct) (by simp)).trans ct, cell_of_row _ _ 0 _ _ _ hh, cell_of_row _ _ 1 _ _ _ hh⟩
    have HW1 : Hid (Only [] (w.alloc (.cells #[.int .i64 N, .int .i64 G] 29)) (w.alloc (.cells #[.int .i64 N, .int .i64 G] 29)).drew) := (Only.refl [] _).drew
    have HW2 : Hid (Only [] (w.alloc (.cells #[.int .i64 N, .int .i64 G] 29)) ((w.alloc (.cells #[.int .i64 N, .int .i64 G] 29)).alloc (.cells #[.int .i64 0, .int .i64 0, .int .i64 0, .int .i64 0, .int .i64 0, .int .i64 0] 59)).drew) := ((Only.refl [] _).alloc _).drew
    have HV1 : Hid (Only [] w (w.alloc (.cells #[.int .i64 N, .int .i64 G] 29)).drew) := ((Only.refl [] _).alloc _).drew
    have HV2 : Hid (Only [] w ((w.alloc (.cells #[.int .i64 N, .int .i64 G] 29)).alloc (.cells #[.int .i64 0, .int .i64 0, .int .i64 0, .int .i64 0, .int .i64 0, .int .i64 0] 59)).drew) := (((Only.refl [] _).alloc _).alloc _).drew
    have K1 : Hid ((w.alloc (.cells #[.int .i64 N, .int .i64 G] 29)).drew.cell? ⟨tr, 0, none⟩ = some (.pointer (some ⟨t, 0, none⟩)) ∧ (w.alloc (.cells #[.int .i64 N, .int .i64 G] 29)).drew.cell? ⟨w.heap.size, 0, none⟩ = some (.int .i64 N) ∧ (w.alloc (.cells #[.int .i64 N, .int .i64 G] 29)).drew.cell? ⟨w.heap.size, 1, none⟩ = some (.int .i64 G)) := keepZ_only H1.out HW1.out
    have K2 : Hid (((w.alloc (.cells #[.int .i64 N, .int .i64 G] 29)).alloc (.cells #[.int .i64 0, .int .i64 0, .int .i64 0, .int .i64 0, .int .i64 0, .int .i64 0] 59)).drew.cell? ⟨tr, 0, none⟩ = some (.pointer (some ⟨t, 0, none⟩)) ∧ ((w.alloc (.cells #[.int .i64 N, .int .i64 G] 29)).alloc (.cells #[.int .i64 0, .int .i64 0, .int .i64 0, .int .i64 0, .int .i64 0, .int .i64 0] 59)).drew.cell? ⟨w.heap.size, 0, none⟩ = some (.int .i64 N) ∧ ((w.alloc (.cells #[.int .i64 N, .int .i64 G] 29)).alloc (.cells #[.int .i64 0, .int .i64 0, .int .i64 0, .int .i64 0, .int .i64 0, .int .i64 0] 59)).drew.cell? ⟨w.heap.size, 1, none⟩ = some (.int .i64 G)) := keepZ_only H1.out HW2.out
    have HN2 : Hid (tr ≠ w.heap.size + 1) := show tr ≠ w.heap.size + 1 from by omega
    have HB2 : Hid (w.heap.size ≠ w.heap.size + 1) := show w.heap.size ≠ w.heap.size + 1 from by omega
    have HC : Hid (∀ w1, Only [] w w1 → Calls Tryd.prog 24 #[.pointer (some ⟨t, 0, none⟩), .agg #[.int .i64 N, .int .i64 G]] w1 fun e w' => e = .returned (.tuple #[.agg #[.int .i64 K, .int .i64 Z, .int .i64 L, .int .i64 C, .int .i64 UN, .int .i64 UG], .iface 123 (.pointer (some ad))]) ∧ Only [] w1 w') := HC0
    clear HC0
    go_enter Tryd.func17, Tryd.ntmps17
    go_wp2
    go_region_held3 (fun W => W.cell? ⟨tr, 0, none⟩ = some (.pointer (some ⟨t, 0, none⟩)) ∧ W.cell? ⟨w.heap.size, 0, none⟩ = some (.int .i64 N) ∧ W.cell? ⟨w.heap.size, 1, none⟩ = some (.int .i64 G))
      (with_reducible first
        | exact K1.out
        | exact K2.out
        | exact HS2.out
        | exact keepZ_alloc HS2.out
        | exact keepZ_set (keepZ_set (keepZ_set (keepZ_set (keepZ_set (keepZ_set (HS2.out) HN2.out HB2.out) HN2.out HB2.out) HN2.out HB2.out) HN2.out HB2.out) HN2.out HB2.out) HN2.out HB2.out)
      (first
        | (go_at_call 24; refine (HC.out _ HV1.out).mono ?_; rintro e w2 ⟨rfl, ho2⟩; have HO2 : Hid (Only [] (w.alloc (.cells #[.int .i64 N, .int .i64 G] 29)) w2) := HW1.out.trans ho2 (fun _ hk => by cases hk); have HS2 : Hid (w2.cell? ⟨tr, 0, none⟩ = some (.pointer (some ⟨t, 0, none⟩)) ∧ w2.cell? ⟨w.heap.size, 0, none⟩ = some (.int .i64 N) ∧ w2.cell? ⟨w.heap.size, 1, none⟩ = some (.int .i64 G)) := keepZ_only H1.out HO2.out; clear ho2)
        | (go_at_call 24; refine (HC.out _ HV2.out).mono ?_; rintro e w2 ⟨rfl, ho2⟩; have HO2 : Hid (Only [] (w.alloc (.cells #[.int .i64 N, .int .i64 G] 29)) w2) := HW2.out.trans ho2 (fun _ hk => by cases hk); have HS2 : Hid (w2.cell? ⟨tr, 0, none⟩ = some (.pointer (some ⟨t, 0, none⟩)) ∧ w2.cell? ⟨w.heap.size, 0, none⟩ = some (.int .i64 N) ∧ w2.cell? ⟨w.heap.size, 1, none⟩ = some (.int .i64 G)) := keepZ_only H1.out HO2.out; obtain ⟨q0, q1, q2, q3, q4, q5, f1, hl1⟩ := own_six_drew (B := w.heap.size + 1) ho2 (by simp); clear ho2))
    all_goals have HO : Hid (Only [] w w2) := ((Only.refl [] w).alloc _).trans HO2.out (fun _ hk => by cases hk)
    all_goals have hsz : w.heap.size + 1 ≤ w2.heap.size := by have := HO2.out.size; simpa using this
    all_goals go_wp2
    all_goals go_ret
    all_goals have hle : w.heap.size ≤ w.heap.size + 1 := Nat.le_succ _
    · exact ⟨rfl, HO.out.alloc _⟩
    · exact ⟨rfl, HO.out.six hle⟩

end
end Go.Proofs.YtnbanflnepbgnaaDoor
