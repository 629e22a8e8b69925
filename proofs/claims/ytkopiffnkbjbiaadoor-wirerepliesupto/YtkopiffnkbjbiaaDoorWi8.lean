/- Compounds on the wire: structs read. -/
import Derived.Test.YtkopiffnkbjbiaaDoorWi7
namespace Go.Proofs.YtkopiffnkbjbiaaDoor
open Go Go.RowKit Go.Deep

theorem RS.over {w0 w w' : World} {A : Nat → Addr} {rb xb : Nat} {t0 t : ByteArray} {L : List Nat} (h0 : RS w0 A rb xb t0) (h : RS w A rb xb t) (ho : Only L w w') (hL : ∀ k ∈ L, w0.heap.size ≤ k) : RS w' A rb xb t := by
  have key : ∀ k, k < w0.heap.size → k ∉ L := fun k hk hm => absurd (hL k hm) (by omega)
  exact ⟨(ho.cell (p := ⟨rb, 0, none⟩) h.ltr (key _ h0.ltr)).trans h.ptr, (ho.cell (p := ⟨xb, 0, none⟩) h.lt (key _ h0.lt)).trans h.cell, (ho.frozen (p := ⟨xb, 0, none⟩) h.lt (key _ h0.lt)).trans h.frz, h.le, h.err.only ho (fun k hk => key _ (lt_of_cell (h0.err.cell k hk)))⟩
/-- A variable of a function's own: its cells, none of them frozen. -/
def Var (w : World) (p : Nat) (cs : List Value) : Prop := Cells w p cs ∧ ∀ j, w.frozen? ⟨p, j, none⟩ = false
theorem Var.new (w : World) (cs : List Value) (T : TypeId) : Var (w.alloc (.cells cs.toArray T)) w.heap.size cs := ⟨Cells.boxed w cs T, fun j => by simp⟩
theorem Var.only {w w' : World} {p : Nat} {cs : List Value} {L : List Nat} (h : Var w p cs) (ho : Only L w w') (hlt : p < w.heap.size) (hn : p ∉ L) : Var w' p cs := ⟨h.1.only ho hn, fun j => (ho.frozen (p := ⟨p, j, none⟩) hlt hn).trans (h.2 j)⟩
theorem rState (A : Nat → Addr) (rb xb : Nat) (t : ByteArray) (w : World) (h : RS w A rb xb t) : Calls Tryd.prog 60 #[P0 rb] w (REnd A rb xb w t pTwo (fun p => .agg #[.int .i64 p.1, .int .i64 p.2])) := by
  have HH : Hid (RS w A rb xb t) := h
  have hlt := h.lt
  have HN : Hid (w.heap.size ∉ [xb]) := by show _ ∉ _; simp; omega
  have V0 : Hid (Var (w.alloc (.cells #[.int .i64 0, .int .i64 0] 38)) w.heap.size [.int .i64 0, .int .i64 0]) := Var.new w [.int .i64 0, .int .i64 0] 38
  have S0 : Hid (RS (w.alloc (.cells #[.int .i64 0, .int .i64 0] 38)) A rb xb t) := h.later ((Only.refl [] w).alloc _)
  have O0 : Hid (Only [xb] w (w.alloc (.cells #[.int .i64 0, .int .i64 0] 38))) := (Only.refl [xb] w).alloc _
  have L0 : Hid (w.heap.size < (w.alloc (.cells #[.int .i64 0, .int .i64 0] 38)).heap.size) := by show _ < _; simp
  obtain ⟨pr, hpr⟩ : ∃ pr, pTwo t = pr := ⟨_, rfl⟩
  have HP : Hid (pTwo t = pr) := hpr
  have R0 : Hid (pr = pTwo t) := hpr.symm
  have K0 : Hid (∀ t1 w1, RS w1 A rb xb t1 → _) := fun t1 w1 k => rNumber A rb xb t1 w1 k
  have K1 : Hid (∀ t1 w1, RS w1 A rb xb t1 → _) := fun t1 w1 k => rNumber A rb xb t1 w1 k
  clear h hlt hpr
  go_enter Tryd.func60, Tryd.ntmps60
  go_wp2_with fail
  refine (K0.out _ _ S0.out).mono ?_
  rintro e w1 (⟨a0, t1, r, rfl, o, s⟩ | ⟨r, rfl, o⟩)
  rotate_left
  · exact ⟨rfl, Or.inr ⟨HP.out.trans (R0.out.trans (bindP_none r)), rfl, O0.out.seq o⟩⟩
  have R1 : Hid (pr = _) := R0.out.trans (bindP_some r)
  have O1 : Hid (Only [xb] w w1) := O0.out.seq o
  have S1 : Hid (RS w1 A rb xb t1) := s
  have V1 : Hid (Var w1 w.heap.size [.int .i64 0, .int .i64 0]) := V0.out.only o L0.out HN.out
  have L1 : Hid (w.heap.size < w1.heap.size) := Nat.lt_of_lt_of_le L0.out o.size
  clear r o s R0 O0 S0 V0 L0 K0
  go_wp2_with fail
  refine (K1.out _ _ S1.out).mono ?_
  rintro e w2 (⟨a1, t2, r, rfl, o, s⟩ | ⟨r, rfl, o⟩)
  rotate_left
  · exact ⟨rfl, Or.inr ⟨HP.out.trans (R1.out.trans (bindP_none r)), rfl, O1.out.seq o⟩⟩
  have R2 : Hid (pr = _) := R1.out.trans (bindP_some r)
  have O2 : Hid (Only [xb] w w2) := O1.out.seq o
  have S2 : Hid (RS w2 A rb xb t2) := s
  have V2 : Hid (Var w2 w.heap.size [.int .i64 0, .int .i64 0]) := V1.out.only o L1.out HN.out
  have L2 : Hid (w.heap.size < w2.heap.size) := Nat.lt_of_lt_of_le L1.out o.size
  clear r o s R1 O1 S1 V1 L1 K1
  have c0 := V2.out.1 0 _ rfl
  have f0 := V2.out.2 0
  have c1 := V2.out.1 1 _ rfl
  have f1 := V2.out.2 1
  have HO : Hid (Only [w.heap.size] w2 ((w2.setCell ⟨w.heap.size, 0, none⟩ (.int .i64 a0)).setCell ⟨w.heap.size, 1, none⟩ (.int .i64 a1))) := (((Only.refl [w.heap.size] _).setCell (p := ⟨w.heap.size, 0, none⟩) (Or.inl (List.mem_cons_self ..)) _).setCell (p := ⟨w.heap.size, 1, none⟩) (Or.inl (List.mem_cons_self ..)) _)
  go_wp2_with fail
  refine bodyPost_ret (v := .agg #[.int .i64 a0, .int .i64 a1]) (by simp [results, Tryd.results60, go_sem, c0, c1]) rfl ?_
  exact Or.inl ⟨_, _, HP.out.trans R2.out, rfl, O2.out.trans HO.out (fun k hk => Or.inr (by rw [List.mem_singleton.1 hk]; exact Nat.le_refl _)), HH.out.over S2.out HO.out (fun k hk => by rw [List.mem_singleton.1 hk]; exact Nat.le_refl _)⟩
theorem rHandle (A : Nat → Addr) (rb xb : Nat) (t : ByteArray) (w : World) (h : RS w A rb xb t) : Calls Tryd.prog 71 #[P0 rb] w (REnd A rb xb w t pTwo (fun p => .agg #[.int .i64 p.1, .int .i64 p.2])) := by
  have HH : Hid (RS w A rb xb t) := h
  have hlt := h.lt
  have HN : Hid (w.heap.size ∉ [xb]) := by show _ ∉ _; simp; omega
  have V0 : Hid (Var (w.alloc (.cells #[.int .i64 0, .int .i64 0] 47)) w.heap.size [.int .i64 0, .int .i64 0]) := Var.new w [.int .i64 0, .int .i64 0] 47
  have S0 : Hid (RS (w.alloc (.cells #[.int .i64 0, .int .i64 0] 47)) A rb xb t) := h.later ((Only.refl [] w).alloc _)
  have O0 : Hid (Only [xb] w (w.alloc (.cells #[.int .i64 0, .int .i64 0] 47))) := (Only.refl [xb] w).alloc _
  have L0 : Hid (w.heap.size < (w.alloc (.cells #[.int .i64 0, .int .i64 0] 47)).heap.size) := by show _ < _; simp
  obtain ⟨pr, hpr⟩ : ∃ pr, pTwo t = pr := ⟨_, rfl⟩
  have HP : Hid (pTwo t = pr) := hpr
  have R0 : Hid (pr = pTwo t) := hpr.symm
  have K0 : Hid (∀ t1 w1, RS w1 A rb xb t1 → _) := fun t1 w1 k => rNumber A rb xb t1 w1 k
  have K1 : Hid (∀ t1 w1, RS w1 A rb xb t1 → _) := fun t1 w1 k => rNumber A rb xb t1 w1 k
  clear h hlt hpr
  go_enter Tryd.func71, Tryd.ntmps71
  go_wp2_with fail
  refine (K0.out _ _ S0.out).mono ?_
  rintro e w1 (⟨a0, t1, r, rfl, o, s⟩ | ⟨r, rfl, o⟩)
  rotate_left
  · exact ⟨rfl, Or.inr ⟨HP.out.trans (R0.out.trans (bindP_none r)), rfl, O0.out.seq o⟩⟩
  have R1 : Hid (pr = _) := R0.out.trans (bindP_some r)
  have O1 : Hid (Only [xb] w w1) := O0.out.seq o
  have S1 : Hid (RS w1 A rb xb t1) := s
  have V1 : Hid (Var w1 w.heap.size [.int .i64 0, .int .i64 0]) := V0.out.only o L0.out HN.out
  have L1 : Hid (w.heap.size < w1.heap.size) := Nat.lt_of_lt_of_le L0.out o.size
  clear r o s R0 O0 S0 V0 L0 K0
  go_wp2_with fail
  refine (K1.out _ _ S1.out).mono ?_
  rintro e w2 (⟨a1, t2, r, rfl, o, s⟩ | ⟨r, rfl, o⟩)
  rotate_left
  · exact ⟨rfl, Or.inr ⟨HP.out.trans (R1.out.trans (bindP_none r)), rfl, O1.out.seq o⟩⟩
  have R2 : Hid (pr = _) := R1.out.trans (bindP_some r)
  have O2 : Hid (Only [xb] w w2) := O1.out.seq o
  have S2 : Hid (RS w2 A rb xb t2) := s
  have V2 : Hid (Var w2 w.heap.size [.int .i64 0, .int .i64 0]) := V1.out.only o L1.out HN.out
  have L2 : Hid (w.heap.size < w2.heap.size) := Nat.lt_of_lt_of_le L1.out o.size
  clear r o s R1 O1 S1 V1 L1 K1
  have c0 := V2.out.1 0 _ rfl
  have f0 := V2.out.2 0
  have c1 := V2.out.1 1 _ rfl
  have f1 := V2.out.2 1
  have HO : Hid (Only [w.heap.size] w2 ((w2.setCell ⟨w.heap.size, 0, none⟩ (.int .i64 a0)).setCell ⟨w.heap.size, 1, none⟩ (.int .i64 a1))) := (((Only.refl [w.heap.size] _).setCell (p := ⟨w.heap.size, 0, none⟩) (Or.inl (List.mem_cons_self ..)) _).setCell (p := ⟨w.heap.size, 1, none⟩) (Or.inl (List.mem_cons_self ..)) _)
  go_wp2_with fail
  refine bodyPost_ret (v := .agg #[.int .i64 a0, .int .i64 a1]) (by simp [results, Tryd.results71, go_sem, c0, c1]) rfl ?_
  exact Or.inl ⟨_, _, HP.out.trans R2.out, rfl, O2.out.trans HO.out (fun k hk => Or.inr (by rw [List.mem_singleton.1 hk]; exact Nat.le_refl _)), HH.out.over S2.out HO.out (fun k hk => by rw [List.mem_singleton.1 hk]; exact Nat.le_refl _)⟩
theorem rEntry (A : Nat → Addr) (rb xb : Nat) (t : ByteArray) (w : World) (h : RS w A rb xb t) : Calls Tryd.prog 73 #[P0 rb] w (REnd A rb xb w t pEntry (fun o => .agg #[.string o.n, .int .i64 o.x, .int .i64 o.y])) := by
  have HH : Hid (RS w A rb xb t) := h
  have hlt := h.lt
  have HN : Hid (w.heap.size ∉ [xb]) := by show _ ∉ _; simp; omega
  have V0 : Hid (Var (w.alloc (.cells #[.string ⟨#[]⟩, .int .i64 0, .int .i64 0] 52)) w.heap.size [.string ⟨#[]⟩, .int .i64 0, .int .i64 0]) := Var.new w [.string ⟨#[]⟩, .int .i64 0, .int .i64 0] 52
  have S0 : Hid (RS (w.alloc (.cells #[.string ⟨#[]⟩, .int .i64 0, .int .i64 0] 52)) A rb xb t) := h.later ((Only.refl [] w).alloc _)
  have O0 : Hid (Only [xb] w (w.alloc (.cells #[.string ⟨#[]⟩, .int .i64 0, .int .i64 0] 52))) := (Only.refl [xb] w).alloc _
  have L0 : Hid (w.heap.size < (w.alloc (.cells #[.string ⟨#[]⟩, .int .i64 0, .int .i64 0] 52)).heap.size) := by show _ < _; simp
  obtain ⟨pr, hpr⟩ : ∃ pr, pEntry t = pr := ⟨_, rfl⟩
  have HP : Hid (pEntry t = pr) := hpr
  have R0 : Hid (pr = pEntry t) := hpr.symm
  have K0 : Hid (∀ t1 w1, RS w1 A rb xb t1 → _) := fun t1 w1 k => rText A rb xb t1 w1 k
  have K1 : Hid (∀ t1 w1, RS w1 A rb xb t1 → _) := fun t1 w1 k => rHandle A rb xb t1 w1 k
  clear h hlt hpr
  go_enter Tryd.func73, Tryd.ntmps73
  go_wp2_with fail
  refine (K0.out _ _ S0.out).mono ?_
  rintro e w1 (⟨a0, t1, r, rfl, o, s⟩ | ⟨r, rfl, o⟩)
  rotate_left
  · exact ⟨rfl, Or.inr ⟨HP.out.trans (R0.out.trans (bindP_none r)), rfl, O0.out.seq o⟩⟩
  have R1 : Hid (pr = _) := R0.out.trans (bindP_some r)
  have O1 : Hid (Only [xb] w w1) := O0.out.seq o
  have S1 : Hid (RS w1 A rb xb t1) := s
  have V1 : Hid (Var w1 w.heap.size [.string ⟨#[]⟩, .int .i64 0, .int .i64 0]) := V0.out.only o L0.out HN.out
  have L1 : Hid (w.heap.size < w1.heap.size) := Nat.lt_of_lt_of_le L0.out o.size
  clear r o s R0 O0 S0 V0 L0 K0
  go_wp2_with fail
  refine (K1.out _ _ S1.out).mono ?_
  rintro e w2 (⟨a1, t2, r, rfl, o, s⟩ | ⟨r, rfl, o⟩)
  rotate_left
  · exact ⟨rfl, Or.inr ⟨HP.out.trans (R1.out.trans (bindP_none r)), rfl, O1.out.seq o⟩⟩
  have R2 : Hid (pr = _) := R1.out.trans (bindP_some r)
  have O2 : Hid (Only [xb] w w2) := O1.out.seq o
  have S2 : Hid (RS w2 A rb xb t2) := s
  have V2 : Hid (Var w2 w.heap.size [.string ⟨#[]⟩, .int .i64 0, .int .i64 0]) := V1.out.only o L1.out HN.out
  have L2 : Hid (w.heap.size < w2.heap.size) := Nat.lt_of_lt_of_le L1.out o.size
  clear r o s R1 O1 S1 V1 L1 K1
  have c0 := V2.out.1 0 _ rfl
  have f0 := V2.out.2 0
  have c1 := V2.out.1 1 _ rfl
  have f1 := V2.out.2 1
  have c2 := V2.out.1 2 _ rfl
  have f2 := V2.out.2 2
  have HO : Hid (Only [w.heap.size] w2 (((w2.setCell ⟨w.heap.size, 0, none⟩ (.string a0)).setCell ⟨w.heap.size, 1, none⟩ (.int .i64 a1.1)).setCell ⟨w.heap.size, 2, none⟩ (.int .i64 a1.2))) := ((((Only.refl [w.heap.size] _).setCell (p := ⟨w.heap.size, 0, none⟩) (Or.inl (List.mem_cons_self ..)) _).setCell (p := ⟨w.heap.size, 1, none⟩) (Or.inl (List.mem_cons_self ..)) _).setCell (p := ⟨w.heap.size, 2, none⟩) (Or.inl (List.mem_cons_self ..)) _)
  go_wp2_with fail
  refine bodyPost_ret (v := .agg #[.string a0, .int .i64 a1.1, .int .i64 a1.2]) (by simp [results, Tryd.results73, go_sem, c0, c1, c2]) rfl ?_
  exact Or.inl ⟨_, _, HP.out.trans R2.out, rfl, O2.out.trans HO.out (fun k hk => Or.inr (by rw [List.mem_singleton.1 hk]; exact Nat.le_refl _)), HH.out.over S2.out HO.out (fun k hk => by rw [List.mem_singleton.1 hk]; exact Nat.le_refl _)⟩
set_option maxHeartbeats 1000000 in
theorem rOp (A : Nat → Addr) (rb xb : Nat) (t : ByteArray) (w : World) (h : RS w A rb xb t) : Calls Tryd.prog 32 #[P0 rb] w (REnd A rb xb w t pOp (fun o => .agg #[.string o.K, .string o.N, .string o.T, .int .i64 o.x1, .int .i64 o.x2, .int .i64 o.x3, .int .i64 o.x4, .int .i64 o.x5, .int .i64 o.x6])) := by
  have HH : Hid (RS w A rb xb t) := h
  have hlt := h.lt
  have HN : Hid (w.heap.size ∉ [xb]) := by show _ ∉ _; simp; omega
  have V0 : Hid (Var (w.alloc (.cells #[.string ⟨#[]⟩, .string ⟨#[]⟩, .string ⟨#[]⟩, .int .i64 0, .int .i64 0, .int .i64 0, .int .i64 0, .int .i64 0, .int .i64 0] 65)) w.heap.size [.string ⟨#[]⟩, .string ⟨#[]⟩, .string ⟨#[]⟩, .int .i64 0, .int .i64 0, .int .i64 0, .int .i64 0, .int .i64 0, .int .i64 0]) := Var.new w [.string ⟨#[]⟩, .string ⟨#[]⟩, .string ⟨#[]⟩, .int .i64 0, .int .i64 0, .int .i64 0, .int .i64 0, .int .i64 0, .int .i64 0] 65
  have S0 : Hid (RS (w.alloc (.cells #[.string ⟨#[]⟩, .string ⟨#[]⟩, .string ⟨#[]⟩, .int .i64 0, .int .i64 0, .int .i64 0, .int .i64 0, .int .i64 0, .int .i64 0] 65)) A rb xb t) := h.later ((Only.refl [] w).alloc _)
  have O0 : Hid (Only [xb] w (w.alloc (.cells #[.string ⟨#[]⟩, .string ⟨#[]⟩, .string ⟨#[]⟩, .int .i64 0, .int .i64 0, .int .i64 0, .int .i64 0, .int .i64 0, .int .i64 0] 65))) := (Only.refl [xb] w).alloc _
  have L0 : Hid (w.heap.size < (w.alloc (.cells #[.string ⟨#[]⟩, .string ⟨#[]⟩, .string ⟨#[]⟩, .int .i64 0, .int .i64 0, .int .i64 0, .int .i64 0, .int .i64 0, .int .i64 0] 65)).heap.size) := by show _ < _; simp
  obtain ⟨pr, hpr⟩ : ∃ pr, pOp t = pr := ⟨_, rfl⟩
  have HP : Hid (pOp t = pr) := hpr
  have R0 : Hid (pr = pOp t) := hpr.symm
  have K0 : Hid (∀ t1 w1, RS w1 A rb xb t1 → _) := fun t1 w1 k => rText A rb xb t1 w1 k
  have K1 : Hid (∀ t1 w1, RS w1 A rb xb t1 → _) := fun t1 w1 k => rText A rb xb t1 w1 k
  have K2 : Hid (∀ t1 w1, RS w1 A rb xb t1 → _) := fun t1 w1 k => rText A rb xb t1 w1 k
  have K3 : Hid (∀ t1 w1, RS w1 A rb xb t1 → _) := fun t1 w1 k => rNumber A rb xb t1 w1 k
  have K4 : Hid (∀ t1 w1, RS w1 A rb xb t1 → _) := fun t1 w1 k => rNumber A rb xb t1 w1 k
  have K5 : Hid (∀ t1 w1, RS w1 A rb xb t1 → _) := fun t1 w1 k => rNumber A rb xb t1 w1 k
  have K6 : Hid (∀ t1 w1, RS w1 A rb xb t1 → _) := fun t1 w1 k => rNumber A rb xb t1 w1 k
  have K7 : Hid (∀ t1 w1, RS w1 A rb xb t1 → _) := fun t1 w1 k => rState A rb xb t1 w1 k
  clear h hlt hpr
  go_enter Tryd.func32, Tryd.ntmps32
  go_wp2_with fail
  refine (K0.out _ _ S0.out).mono ?_
  rintro e w1 (⟨a0, t1, r, rfl, o, s⟩ | ⟨r, rfl, o⟩)
  rotate_left
  · exact ⟨rfl, Or.inr ⟨HP.out.trans (R0.out.trans (bindP_none r)), rfl, O0.out.seq o⟩⟩
  have R1 : Hid (pr = _) := R0.out.trans (bindP_some r)
  have O1 : Hid (Only [xb] w w1) := O0.out.seq o
  have S1 : Hid (RS w1 A rb xb t1) := s
  have V1 : Hid (Var w1 w.heap.size [.string ⟨#[]⟩, .string ⟨#[]⟩, .string ⟨#[]⟩, .int .i64 0, .int .i64 0, .int .i64 0, .int .i64 0, .int .i64 0, .int .i64 0]) := V0.out.only o L0.out HN.out
  have L1 : Hid (w.heap.size < w1.heap.size) := Nat.lt_of_lt_of_le L0.out o.size
  clear r o s R0 O0 S0 V0 L0 K0
  go_wp2_with fail
  refine (K1.out _ _ S1.out).mono ?_
  rintro e w2 (⟨a1, t2, r, rfl, o, s⟩ | ⟨r, rfl, o⟩)
  rotate_left
  · exact ⟨rfl, Or.inr ⟨HP.out.trans (R1.out.trans (bindP_none r)), rfl, O1.out.seq o⟩⟩
  have R2 : Hid (pr = _) := R1.out.trans (bindP_some r)
  have O2 : Hid (Only [xb] w w2) := O1.out.seq o
  have S2 : Hid (RS w2 A rb xb t2) := s
  have V2 : Hid (Var w2 w.heap.size [.string ⟨#[]⟩, .string ⟨#[]⟩, .string ⟨#[]⟩, .int .i64 0, .int .i64 0, .int .i64 0, .int .i64 0, .int .i64 0, .int .i64 0]) := V1.out.only o L1.out HN.out
  have L2 : Hid (w.heap.size < w2.heap.size) := Nat.lt_of_lt_of_le L1.out o.size
  clear r o s R1 O1 S1 V1 L1 K1
  go_wp2_with fail
  refine (K2.out _ _ S2.out).mono ?_
  rintro e w3 (⟨a2, t3, r, rfl, o, s⟩ | ⟨r, rfl, o⟩)
  rotate_left
  · exact ⟨rfl, Or.inr ⟨HP.out.trans (R2.out.trans (bindP_none r)), rfl, O2.out.seq o⟩⟩
  have R3 : Hid (pr = _) := R2.out.trans (bindP_some r)
  have O3 : Hid (Only [xb] w w3) := O2.out.seq o
  have S3 : Hid (RS w3 A rb xb t3) := s
  have V3 : Hid (Var w3 w.heap.size [.string ⟨#[]⟩, .string ⟨#[]⟩, .string ⟨#[]⟩, .int .i64 0, .int .i64 0, .int .i64 0, .int .i64 0, .int .i64 0, .int .i64 0]) := V2.out.only o L2.out HN.out
  have L3 : Hid (w.heap.size < w3.heap.size) := Nat.lt_of_lt_of_le L2.out o.size
  clear r o s R2 O2 S2 V2 L2 K2
  go_wp2_with fail
  refine (K3.out _ _ S3.out).mono ?_
  rintro e w4 (⟨a3, t4, r, rfl, o, s⟩ | ⟨r, rfl, o⟩)
  rotate_left
  · exact ⟨rfl, Or.inr ⟨HP.out.trans (R3.out.trans (bindP_none r)), rfl, O3.out.seq o⟩⟩
  have R4 : Hid (pr = _) := R3.out.trans (bindP_some r)
  have O4 : Hid (Only [xb] w w4) := O3.out.seq o
  have S4 : Hid (RS w4 A rb xb t4) := s
  have V4 : Hid (Var w4 w.heap.size [.string ⟨#[]⟩, .string ⟨#[]⟩, .string ⟨#[]⟩, .int .i64 0, .int .i64 0, .int .i64 0, .int .i64 0, .int .i64 0, .int .i64 0]) := V3.out.only o L3.out HN.out
  have L4 : Hid (w.heap.size < w4.heap.size) := Nat.lt_of_lt_of_le L3.out o.size
  clear r o s R3 O3 S3 V3 L3 K3
  go_wp2_with fail
  refine (K4.out _ _ S4.out).mono ?_
  rintro e w5 (⟨a4, t5, r, rfl, o, s⟩ | ⟨r, rfl, o⟩)
  rotate_left
  · exact ⟨rfl, Or.inr ⟨HP.out.trans (R4.out.trans (bindP_none r)), rfl, O4.out.seq o⟩⟩
  have R5 : Hid (pr = _) := R4.out.trans (bindP_some r)
  have O5 : Hid (Only [xb] w w5) := O4.out.seq o
  have S5 : Hid (RS w5 A rb xb t5) := s
  have V5 : Hid (Var w5 w.heap.size [.string ⟨#[]⟩, .string ⟨#[]⟩, .string ⟨#[]⟩, .int .i64 0, .int .i64 0, .int .i64 0, .int .i64 0, .int .i64 0, .int .i64 0]) := V4.out.only o L4.out HN.out
  have L5 : Hid (w.heap.size < w5.heap.size) := Nat.lt_of_lt_of_le L4.out o.size
  clear r o s R4 O4 S4 V4 L4 K4
  go_wp2_with fail
  refine (K5.out _ _ S5.out).mono ?_
  rintro e w6 (⟨a5, t6, r, rfl, o, s⟩ | ⟨r, rfl, o⟩)
  rotate_left
  · exact ⟨rfl, Or.inr ⟨HP.out.trans (R5.out.trans (bindP_none r)), rfl, O5.out.seq o⟩⟩
  have R6 : Hid (pr = _) := R5.out.trans (bindP_some r)
  have O6 : Hid (Only [xb] w w6) := O5.out.seq o
  have S6 : Hid (RS w6 A rb xb t6) := s
  have V6 : Hid (Var w6 w.heap.size [.string ⟨#[]⟩, .string ⟨#[]⟩, .string ⟨#[]⟩, .int .i64 0, .int .i64 0, .int .i64 0, .int .i64 0, .int .i64 0, .int .i64 0]) := V5.out.only o L5.out HN.out
  have L6 : Hid (w.heap.size < w6.heap.size) := Nat.lt_of_lt_of_le L5.out o.size
  clear r o s R5 O5 S5 V5 L5 K5
  go_wp2_with fail
  refine (K6.out _ _ S6.out).mono ?_
  rintro e w7 (⟨a6, t7, r, rfl, o, s⟩ | ⟨r, rfl, o⟩)
  rotate_left
  · exact ⟨rfl, Or.inr ⟨HP.out.trans (R6.out.trans (bindP_none r)), rfl, O6.out.seq o⟩⟩
  have R7 : Hid (pr = _) := R6.out.trans (bindP_some r)
  have O7 : Hid (Only [xb] w w7) := O6.out.seq o
  have S7 : Hid (RS w7 A rb xb t7) := s
  have V7 : Hid (Var w7 w.heap.size [.string ⟨#[]⟩, .string ⟨#[]⟩, .string ⟨#[]⟩, .int .i64 0, .int .i64 0, .int .i64 0, .int .i64 0, .int .i64 0, .int .i64 0]) := V6.out.only o L6.out HN.out
  have L7 : Hid (w.heap.size < w7.heap.size) := Nat.lt_of_lt_of_le L6.out o.size
  clear r o s R6 O6 S6 V6 L6 K6
  go_wp2_with fail
  refine (K7.out _ _ S7.out).mono ?_
  rintro e w8 (⟨a7, t8, r, rfl, o, s⟩ | ⟨r, rfl, o⟩)
  rotate_left
  · exact ⟨rfl, Or.inr ⟨HP.out.trans (R7.out.trans (bindP_none r)), rfl, O7.out.seq o⟩⟩
  have R8 : Hid (pr = _) := R7.out.trans (bindP_some r)
  have O8 : Hid (Only [xb] w w8) := O7.out.seq o
  have S8 : Hid (RS w8 A rb xb t8) := s
  have V8 : Hid (Var w8 w.heap.size [.string ⟨#[]⟩, .string ⟨#[]⟩, .string ⟨#[]⟩, .int .i64 0, .int .i64 0, .int .i64 0, .int .i64 0, .int .i64 0, .int .i64 0]) := V7.out.only o L7.out HN.out
  have L8 : Hid (w.heap.size < w8.heap.size) := Nat.lt_of_lt_of_le L7.out o.size
  clear r o s R7 O7 S7 V7 L7 K7
  have c0 := V8.out.1 0 _ rfl
  have f0 := V8.out.2 0
  have c1 := V8.out.1 1 _ rfl
  have f1 := V8.out.2 1
  have c2 := V8.out.1 2 _ rfl
  have f2 := V8.out.2 2
  have c3 := V8.out.1 3 _ rfl
  have f3 := V8.out.2 3
  have c4 := V8.out.1 4 _ rfl
  have f4 := V8.out.2 4
  have c5 := V8.out.1 5 _ rfl
  have f5 := V8.out.2 5
  have c6 := V8.out.1 6 _ rfl
  have f6 := V8.out.2 6
  have c7 := V8.out.1 7 _ rfl
  have f7 := V8.out.2 7
  have c8 := V8.out.1 8 _ rfl
  have f8 := V8.out.2 8
  have HO : Hid (Only [w.heap.size] w8 (((((((((w8.setCell ⟨w.heap.size, 0, none⟩ (.string a0)).setCell ⟨w.heap.size, 1, none⟩ (.string a1)).setCell ⟨w.heap.size, 2, none⟩ (.string a2)).setCell ⟨w.heap.size, 3, none⟩ (.int .i64 a3)).setCell ⟨w.heap.size, 4, none⟩ (.int .i64 a4)).setCell ⟨w.heap.size, 5, none⟩ (.int .i64 a5)).setCell ⟨w.heap.size, 6, none⟩ (.int .i64 a6)).setCell ⟨w.heap.size, 7, none⟩ (.int .i64 a7.1)).setCell ⟨w.heap.size, 8, none⟩ (.int .i64 a7.2))) := ((((((((((Only.refl [w.heap.size] _).setCell (p := ⟨w.heap.size, 0, none⟩) (Or.inl (List.mem_cons_self ..)) _).setCell (p := ⟨w.heap.size, 1, none⟩) (Or.inl (List.mem_cons_self ..)) _).setCell (p := ⟨w.heap.size, 2, none⟩) (Or.inl (List.mem_cons_self ..)) _).setCell (p := ⟨w.heap.size, 3, none⟩) (Or.inl (List.mem_cons_self ..)) _).setCell (p := ⟨w.heap.size, 4, none⟩) (Or.inl (List.mem_cons_self ..)) _).setCell (p := ⟨w.heap.size, 5, none⟩) (Or.inl (List.mem_cons_self ..)) _).setCell (p := ⟨w.heap.size, 6, none⟩) (Or.inl (List.mem_cons_self ..)) _).setCell (p := ⟨w.heap.size, 7, none⟩) (Or.inl (List.mem_cons_self ..)) _).setCell (p := ⟨w.heap.size, 8, none⟩) (Or.inl (List.mem_cons_self ..)) _)
  go_wp2_with fail
  refine bodyPost_ret (v := .agg #[.string a0, .string a1, .string a2, .int .i64 a3, .int .i64 a4, .int .i64 a5, .int .i64 a6, .int .i64 a7.1, .int .i64 a7.2]) (by simp [results, Tryd.results32, go_sem, c0, c1, c2, c3, c4, c5, c6, c7, c8]) rfl ?_
  exact Or.inl ⟨_, _, HP.out.trans R8.out, rfl, O8.out.trans HO.out (fun k hk => Or.inr (by rw [List.mem_singleton.1 hk]; exact Nat.le_refl _)), HH.out.over S8.out HO.out (fun k hk => by rw [List.mem_singleton.1 hk]; exact Nat.le_refl _)⟩
end Go.Proofs.YtkopiffnkbjbiaaDoor
