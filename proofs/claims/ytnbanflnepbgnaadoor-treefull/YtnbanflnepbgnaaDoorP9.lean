/- The tree: a directory is full; a name is looked up. -/
import Derived.Test.YtnbanflnepbgnaaDoorU16
/- The tree: a directory is full; a name is looked up. -/
namespace Go.Proofs.YtnbanflnepbgnaaDoor
open Go Go.RowKit Go.Deep Go.Maps

set_option maxRecDepth 100000 in
set_option maxHeartbeats 2000000 in
theorem create_full (w : World) (tr : Nat) (T : Tr) (A : Nat → Addr) (a : Nat) (K : Int) (na : Nod) (d : DirM) (s : ByteArray) (h : TreeAt w tr T) (hE : Errs w A) (hd : T.ds a = some d) (ha : T.nd a = some na) (hKa : na.K = 2) (hK : K = 1 ∨ K = 2) (hok : OkN s) (hs : s.size ≤ 1000) (hf : findE d.l s.data.toList = none) (hl : 60 ≤ d.l.length) (hl2 : d.l.length ≤ 1000) :
    Calls Tryd.prog 6 #[.pointer (some ⟨tr, 0, none⟩), .agg #[.int .i64 a, .int .i64 (T.g a : Nat)], .string s, .int .i64 K] w fun e w' => e = .returned (.tuple #[.agg #[.int .i64 0, .int .i64 0], errV (A 8)]) ∧ Only [] w w' := by
  have hO1 : Only [] w ((w.alloc (.cells #[.int .i64 a, .int .i64 (T.g a : Nat)] 29)).alloc (.cells #[.int .i64 0, .int .i64 0] 29)) := ((Only.refl [] w).alloc _).alloc _
  have HD : Hid (∀ W, Only [] w W → _) := fun W (ho : Only [] w W) => dir_yes (h.only ho) ha hKa
  have HK : Hid (∀ W, Only [] w W → _) := fun W (ho : Only [] w W) => check_yes s A W (hE.below (ho.to_below (Nat.le_refl _) (fun k hk => by cases hk)) (Nat.le_refl _)) hok
  have HO1 : Hid (Only [] w ((w.alloc (.cells #[.int .i64 a, .int .i64 (T.g a : Nat)] 29)).alloc (.cells #[.int .i64 0, .int .i64 0] 29))) := hO1
  have hx := own_two (T := T) (a := a) (Only.refl [] ((w.alloc (.cells #[.int .i64 a, .int .i64 (T.g a : Nat)] 29)).alloc (.cells #[.int .i64 0, .int .i64 0] 29))) (by simp) (by simp)
  have hcd := HD.out ((w.alloc (.cells #[.int .i64 a, .int .i64 (T.g a : Nat)] 29)).alloc (.cells #[.int .i64 0, .int .i64 0] 29)) hO1
  obtain ⟨x0, x1, _, _, _, hxl⟩ := hx
  have HR : Hid (∀ W, Only [] w W → _) := fun W (ho : Only [] w W) => room_full W tr T a d s (errV (A 8)) (h.only ho) hd hs ((hE.below (ho.to_below (Nat.le_refl _) (fun k hk => by cases hk)) (Nat.le_refl _)).cell 8 (by decide)) hf hl hl2
  unfold errV at HR ⊢
  clear h hE hf hok HD
  rcases hK with rfl | rfl
  all_goals go_enter Tryd.func6, Tryd.ntmps6
  all_goals go_wp2_with (first
    | (go_at_call 17; go_must (refine hcd.mono ?_); rintro e' w2 ⟨rfl, ho2⟩; have HO2 : Hid (Only [] ((w.alloc (.cells #[.int .i64 a, .int .i64 (T.g a : Nat)] 29)).alloc (.cells #[.int .i64 0, .int .i64 0] 29)) w2) := ho2; have hck := HK.out w2 (HO1.out.trans ho2 (fun _ hk => by cases hk)); clear ho2 hcd)
    | (go_at_call 18; go_must (refine hck.mono ?_); rintro e' w3 ⟨rfl, ho3⟩; have HO3 : Hid (Only [] ((w.alloc (.cells #[.int .i64 a, .int .i64 (T.g a : Nat)] 29)).alloc (.cells #[.int .i64 0, .int .i64 0] 29)) w3) := HO2.out.trans ho3 (fun _ hk => by cases hk); have hfo := first_none w3; clear ho3 hck)
    | (go_at_call 16; go_must (refine hfo.mono ?_); rintro e' w4 ⟨rfl, rfl⟩; have HO4 : Hid (Only [] ((w.alloc (.cells #[.int .i64 a, .int .i64 (T.g a : Nat)] 29)).alloc (.cells #[.int .i64 0, .int .i64 0] 29)) (w3.alloc (.cells #[.nilIface, .nilIface] 25))) := HO3.out.alloc _; have hcr := HR.out _ (HO1.out.trans HO4.out (fun _ hk => by cases hk)); obtain ⟨y0, y1, _, _, _, hyl⟩ := own_two (T := T) (a := a) HO4.out (by simp) (by simp); clear hfo)
    | (go_at_call 19; go_must (refine hcr.mono ?_); rintro e' w5 ⟨rfl, ho5⟩; have HO5 : Hid (Only [] ((w.alloc (.cells #[.int .i64 a, .int .i64 (T.g a : Nat)] 29)).alloc (.cells #[.int .i64 0, .int .i64 0] 29)) w5) := HO4.out.trans ho5 (fun _ hk => by cases hk); obtain ⟨_, _, v0, v1, vf, hvl⟩ := own_two (T := T) (a := a) HO5.out (by simp) (by simp); clear ho5 hcr y0 y1)
    | go_in)
  all_goals exact bodyPost_ret (v := .tuple #[.agg #[.int .i64 0, .int .i64 0], .iface 123 (.pointer (some (A 8)))]) (by simp [results, Tryd.results6, go_sem, v0, v1]) rfl ⟨rfl, ((HO1.out.trans HO5.out (fun _ hk => by cases hk)).setCell (Or.inr (Nat.le_succ _)) _).setCell (Or.inr (Nat.le_succ _)) _⟩
set_option maxRecDepth 100000 in
set_option maxHeartbeats 2000000 in
theorem lookup_ok (w : World) (tr : Nat) (T : Tr) (A : Nat → Addr) (a : Nat) (na : Nod) (d : DirM) (s : ByteArray) (e : Ent) (h : TreeAt w tr T) (hE : Errs w A) (hd : T.ds a = some d) (ha : T.nd a = some na) (hKa : na.K = 2) (hok : OkN s) (hs : s.size ≤ 1000) (hf : findE d.l s.data.toList = some e) :
    Calls Tryd.prog 10 #[.pointer (some ⟨tr, 0, none⟩), .agg #[.int .i64 a, .int .i64 (T.g a : Nat)], .string s] w fun r w' => r = .returned (.tuple #[.agg #[.int .i64 e.i, .int .i64 e.c], .nilIface]) ∧ Only [] w w' := by
  have hO1 : Only [] w ((w.alloc (.cells #[.int .i64 a, .int .i64 (T.g a : Nat)] 29)).alloc (.cells #[.int .i64 0, .int .i64 0] 29)) := ((Only.refl [] w).alloc _).alloc _
  have HD : Hid (∀ W, Only [] w W → _) := fun W (ho : Only [] w W) => dir_yes (h.only ho) ha hKa
  have HK : Hid (∀ W, Only [] w W → _) := fun W (ho : Only [] w W) => check_yes s A W (hE.below (ho.to_below (Nat.le_refl _) (fun k hk => by cases hk)) (Nat.le_refl _)) hok
  have HO1 : Hid (Only [] w ((w.alloc (.cells #[.int .i64 a, .int .i64 (T.g a : Nat)] 29)).alloc (.cells #[.int .i64 0, .int .i64 0] 29))) := hO1
  have hx := own_two (T := T) (a := a) (Only.refl [] ((w.alloc (.cells #[.int .i64 a, .int .i64 (T.g a : Nat)] 29)).alloc (.cells #[.int .i64 0, .int .i64 0] 29))) (by simp) (by simp)
  have hcd := HD.out ((w.alloc (.cells #[.int .i64 a, .int .i64 (T.g a : Nat)] 29)).alloc (.cells #[.int .i64 0, .int .i64 0] 29)) hO1
  obtain ⟨x0, x1, _, _, _, hxl⟩ := hx
  have hal := h.dlt a d hd
  have ct := h.c1
  have htl : tr < w.heap.size := lt_of_cell ct
  have HL : Hid (∀ W, Only [] w W → (W.cell? ⟨tr, 1, none⟩ = some (.map (some T.db)) ∧ (Instr.lookup 54 (.map (some T.db)) (.agg #[.int .i64 a, .int .i64 (T.g a : Nat)]) false).run Tryd.prog W = .ok (.map (some d.b)) W ∧ (Instr.lookup 53 (.map (some d.b)) (.string s) true).run Tryd.prog W = .ok (.tuple #[.agg #[.int .i64 e.i, .int .i64 e.c], .bool true]) W)) := fun W ho => by
    have hT := h.only ho
    obtain ⟨v, n1, hv⟩ := look_name (hT.dir a d hd) s hs
    rw [hf] at n1 hv
    subst hv
    exact ⟨hT.c1, look_dir hT hal hd, n1⟩
  clear h hE hok HD ct
  go_enter Tryd.func10, Tryd.ntmps10
  go_wp2_with (first
    | (go_at_call 17; go_must (refine hcd.mono ?_); rintro e' w2 ⟨rfl, ho2⟩; have HO2 : Hid (Only [] ((w.alloc (.cells #[.int .i64 a, .int .i64 (T.g a : Nat)] 29)).alloc (.cells #[.int .i64 0, .int .i64 0] 29)) w2) := ho2; have hck := HK.out w2 (HO1.out.trans ho2 (fun _ hk => by cases hk)); clear ho2 hcd)
    | (go_at_call 18; go_must (refine hck.mono ?_); rintro e' w3 ⟨rfl, ho3⟩; have HO3 : Hid (Only [] ((w.alloc (.cells #[.int .i64 a, .int .i64 (T.g a : Nat)] 29)).alloc (.cells #[.int .i64 0, .int .i64 0] 29)) w3) := HO2.out.trans ho3 (fun _ hk => by cases hk); have hfo := first_none w3; clear ho3 hck)
    | (go_at_call 16; go_must (refine hfo.mono ?_); rintro e' w4 ⟨rfl, rfl⟩; have HO4 : Hid (Only [] ((w.alloc (.cells #[.int .i64 a, .int .i64 (T.g a : Nat)] 29)).alloc (.cells #[.int .i64 0, .int .i64 0] 29)) (w3.alloc (.cells #[.nilIface, .nilIface] 25))) := HO3.out.alloc _; obtain ⟨l0, l1, l2⟩ := HL.out (w3.alloc (.cells #[.nilIface, .nilIface] 25)).drew ((HO1.out.trans HO4.out (fun _ hk => by cases hk)).drew); obtain ⟨_, m1, m2⟩ := HL.out ((w3.alloc (.cells #[.nilIface, .nilIface] 25)).alloc (.cells #[.int .i64 0, .int .i64 0] 29)).drew (((HO1.out.trans HO4.out (fun _ hk => by cases hk)).alloc _).drew); obtain ⟨y0, y1, v0, v1, vf, hyl⟩ := own_two (T := T) (a := a) HO3.out (by simp) (by simp); have k0 := (HL.out w3 (HO1.out.trans HO3.out (fun _ hk => by cases hk))).1; have hy0 := lt_of_cell y0; have hk0 := lt_of_cell k0; clear hfo)
    | go_in)
  go_region
  go_wp2
  all_goals have hyl2 : w.heap.size + 1 < w3.heap.size + 1 := Nat.lt_succ_of_lt hyl
  all_goals have HOW : Hid (Only [] w w3) := HO1.out.trans HO3.out (fun _ hk => by cases hk)
  all_goals refine bodyPost_ret (v := .tuple #[.agg #[.int .i64 e.i, .int .i64 e.c], .nilIface]) (by simp [results, Tryd.results10, go_sem, v0, v1, hyl, hyl2]) rfl ⟨rfl, ?_⟩
  all_goals with_reducible first
    | exact ((((HOW.out.setCell (Or.inr (Nat.le_succ _)) _).setCell (Or.inr (Nat.le_succ _)) _).alloc _).alloc _).drew
end Go.Proofs.YtnbanflnepbgnaaDoor
/- The tree: how many nodes there are; the root. -/
namespace Go.Proofs.YtnbanflnepbgnaaDoor
open Go Go.RowKit Go.Deep Go.Maps

theorem nodes_any (w : World) (tr : Nat) (T : Tr) (h : TreeAt w tr T) :
    Calls Tryd.prog 12 #[.pointer (some ⟨tr, 0, none⟩)] w fun e w' => e = .returned (.int .i64 (countTo T.nd T.p.N : Nat)) ∧ Only [] w w' := by
  have hcn := tcount w T.t T.p T.most T.g T.nd h.tab h.small.N
  have ct := h.c0
  have hle := countTo_le T.nd T.p.N
  clear h
  generalize countTo T.nd T.p.N = cn at hcn hle ⊢
  go_enter Tryd.func12, Tryd.ntmps12
  go_wp2_with (go_at_call 25; go_must (refine hcn.mono ?_); rintro e w1 ⟨rfl, ho1⟩)
  go_ret
  exact ⟨rfl, ho1⟩
theorem root_any (w : World) (v : Value) : Calls Tryd.prog 7 #[v] w fun e w' => e = .returned (.agg #[.int .i64 0, .int .i64 0]) ∧ Only [] w w' := by
  go_enter Tryd.func7, Tryd.ntmps7
  go_wp2
  have hh := heap_alloc_last w (.cells #[.int .i64 0, .int .i64 0] 29)
  have c0 := cell_of_row _ _ 0 _ _ _ hh
  have c1 := cell_of_row _ _ 1 _ _ _ hh
  first
    | exact bodyPost_ret (v := .agg #[.int .i64 0, .int .i64 0]) (by simp [results, Tryd.results7, go_sem, c0, c1]) rfl ⟨rfl, (Only.refl [] w).alloc _⟩
end Go.Proofs.YtnbanflnepbgnaaDoor
