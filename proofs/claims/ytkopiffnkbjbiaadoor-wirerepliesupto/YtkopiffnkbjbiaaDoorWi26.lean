/- WireReplies: replies that came in, as the program has them. -/
import Derived.Test.YtkopiffnkbjbiaaDoorWi25
import Derived.Laws.AppendOwnNone
namespace Go.Proofs.YtkopiffnkbjbiaaDoor
open Go Go.RowKit Go.Deep

theorem RwA.row {α : Type} {w : World} {c : α → List Value} {k g o : Nat} {l : List α} (h : RwA w c k (some ⟨g, o, none⟩) l) (hc : ∀ a, (c a).length = k) (hk : 0 < k) : ∀ j u, (rowOf c l)[j]? = some u → w.cell? ((⟨g, o, none⟩ : Addr).add j) = some u := by
  intro j u hu
  have hj : j < l.length * k := by rw [← rowOf_len hc l]; exact (List.getElem?_eq_some_iff.1 hu).1
  have hi : j / k < l.length := Nat.div_lt_of_lt_mul (by rw [Nat.mul_comm]; exact hj)
  have he : j / k * k + j % k = j := Nat.div_add_mod' j k
  obtain ⟨x, hx⟩ := at_lt l hi
  rw [← he, rowOf_get hc l (j / k) (j % k) x (Nat.mod_lt _ hk) hx] at hu
  obtain ⟨g', o', e, hcell⟩ := h.at_ (j / k) x hx
  cases e
  have := hcell (j % k) u hu
  rw [Nat.add_assoc, he] at this
  rw [show (⟨g, o, none⟩ : Addr).add j = ⟨g, o + j, none⟩ by unfold Addr.add; split <;> simp_all]
  exact this
theorem rp_newsS {w : World} (x : RpV) (u : Value) (a : Addr) (v : Value) (ty : TypeId) : ∀ (r : Nat) (q : Value), (rpC (x, u))[r]? = some q → ((w.setCell a v).alloc (.cells #[.int .i64 x.c, .string x.T, .int .i64 x.x1, .int .i64 x.x2, .int .i64 x.x3, .int .i64 x.x4, u, .int .i64 x.n, .bool x.e] ty)).cell? ((⟨w.heap.size, 0, none⟩ : Addr).add r) = some q := rp_news3 x u a v ty
/-- Entries that came in are appended to none. -/
theorem append_ens {w : World} {ops : Array Oper} {rest : List Oper} {oo : Oper} {a : Act} {Q : Exit → Act → World → Prop} (hgd : oo.guard = none) (s x : Operand)
    (ho : oo.op = .call { callee := .builtin .append, args := #[s, x], argTypes := #[48, 48] }) (base : Nat) (hs : a.eval s = .slice none 0 0) (ad : Option Addr) (cap : Nat) (L : List EnV) (hx : a.eval x = .slice ad L.length cap) (h0 : ad = none → cap = 0) (hr : RwA w enC 3 ad L) (hL : L.length ≤ 1048576) (hb : base ≤ w.heap.size)
    (h : ∀ v' w', EnOwn w' base v' L → Only [] w w' → wpList Tryd.prog ops Q rest (a.put oo.dst v') w') : wpList Tryd.prog ops Q (oo :: rest) a w := by
  obtain ⟨i0, hi0, hz0, hz1, hz2⟩ := enInfo
  cases ad with
  | none =>
    have hn : L = [] := by
      cases L with
      | nil => rfl
      | cons y L =>
        obtain ⟨g, o, e, _⟩ := hr.at_ 0 y rfl
        cases e
    subst hn
    rw [h0 rfl] at hx
    exact wpList_append_own_none hgd s x 48 ho base 52 i0 3 ensUnd hi0 (.slice none 0 0) 0 [] hs (World.ownsRow_nil _ _ _ _) hx (h _ _ (World.ownsRow_nil _ _ _ _) (Only.refl _ _))
  | some ad =>
    obtain ⟨g, o, sp⟩ := ad
    by_cases hne : L = []
    · subst hne
      refine wpList_append_own_at _ hgd s x 48 ho base 52 i0 _ 3 32 ensUnd hi0 hz0 hz1 hz2 rfl (by decide) (.slice none 0 0) 0 [] hs (World.ownsRow_nil _ _ _ _) ⟨g, o, sp⟩ 0 cap [] hx rfl (fun j u hu => by cases hu) (fun u hu => by cases hu) (by decide) (by decide) hb (fun v' w' a1 a2 _ _ => h v' w' a1 ((Only.refl [] w).grown a2 (fun k hk => by cases hk)))
    · obtain ⟨y, hy⟩ : ∃ y, L[0]? = some y := at_lt L (List.length_pos_iff.2 hne)
      have hsp : sp = none := by
        obtain ⟨g', o', e, _⟩ := hr.at_ 0 y hy
        cases e
        rfl
      subst hsp
      refine wpList_append_own_at _ hgd s x 48 ho base 52 i0 _ 3 32 ensUnd hi0 hz0 hz1 hz2 rfl (by decide) (.slice none 0 0) 0 [] hs (World.ownsRow_nil _ _ _ _) ⟨g, o, none⟩ L.length cap (rowOf enC L) hx (rowOf_len enC_len L) (hr.row enC_len (by decide)) (rowOf_one enC_one L) (by unfold maxLen; omega) (by omega) hb (fun v' w' a1 a2 _ _ => h v' w' ?_ ((Only.refl [] w).grown a2 (fun k hk => by cases hk)))
      have h1 := a1
      rw [Nat.zero_add, List.nil_append] at h1
      exact h1
set_option maxRecDepth 100000 in
set_option maxHeartbeats 4000000 in
theorem lawReps (ad : Option Addr) (cap : Nat) (l : List (RpV × Value)) (w : World) (hr : RwA w rpC 9 ad l) (hin : ∀ q ∈ l, RpN w q) (hlen : ∀ q ∈ l, q.1.L.length ≤ 1048576) (hl : l.length ≤ 1048576) : Calls Tryd.prog 18 #[.slice ad l.length cap] w fun e w' => ∃ v, e = .returned v ∧ Only [] w w' ∧ RpsOwn w' w.heap.size v (l.map Prod.fst) := by
  obtain ⟨i0, hi0, hz0, hz1, hz2⟩ := rpInfo
  have HR : Hid (RwA w rpC 9 ad l) := hr
  have HIN : Hid (∀ q ∈ l, RpN w q) := hin
  have HLN : Hid (∀ q ∈ l, q.1.L.length ≤ 1048576) := hlen
  obtain ⟨n, hn⟩ : ∃ n, l.length = n := ⟨_, rfl⟩
  have HN : Hid (l.length = n) := hn
  have hnb : n ≤ 1048576 := hn ▸ hl
  rw [hn]
  clear hn hl hr hin hlen
  go_enter Tryd.func18, Tryd.ntmps18
  go_wp2
  go_loopw [3, 4] (fun v i wr => ∃ (j : Nat) (m : List (RpV × Value)), j ≤ n ∧ i = .int .i64 (j : Nat) ∧ m.length = j ∧ m.map Prod.fst = (l.take j).map Prod.fst ∧ Only [] w wr ∧ wr.ownsRow w.heap.size 89 9 v m.length (rowOf rpC m) ∧ ∀ q ∈ m, EnOwn wr w.heap.size q.2 q.1.L) (fun _ i _ => n - (intOf i).toNat)
  case atStart => exact ⟨0, [], Nat.zero_le _, rfl, rfl, rfl, Only.refl _ _, World.ownsRow_nil _ _ _ _, fun q hq => by cases hq⟩
  case round =>
    obtain ⟨j, m, hj, rfl, hmj, hmf, ho, hrow, hens⟩ := hrel
    have O : Hid (Only [] w wr) := ho
    have HMJ : Hid (m.length = j) := hmj
    have HMF : Hid (m.map Prod.fst = (l.take j).map Prod.fst) := hmf
    have HENS : Hid (∀ q ∈ m, EnOwn wr w.heap.size q.2 q.1.L) := hens
    have HROW : Hid (wr.ownsRow w.heap.size 89 9 u3 j (rowOf rpC m)) := by
      rw [hmj] at hrow
      exact hrow
    clear ho hrow hmj hmf hens
    by_cases hlt : j < n
    · obtain ⟨⟨x, xv⟩, hx⟩ := at_lt l (j := j) (by rw [HN.out]; exact hlt)
      obtain ⟨g, o, rfl, hc⟩ := (HR.out.later O.out).at_ j _ hx
      obtain ⟨a2, p2, hv2, hz2', hr2⟩ := (HIN.out _ (mem_at hx)).later O.out
      have hln := HLN.out _ (mem_at hx)
      simp only at hv2 hr2 hln
      subst hv2
      have HX : Hid ((l.take (j + 1)).map Prod.fst = (l.take j).map Prod.fst ++ [x]) := by
        show _ = _
        rw [List.take_add_one, hx, List.map_append]
        rfl
      have HR2 : Hid (RwA wr enC 3 a2 x.L) := hr2
      have HZ2 : Hid (a2 = none → p2 = 0) := hz2'
      have HLX : Hid (x.L.length ≤ 1048576) := hln
      have c0 : wr.cell? ⟨g, o + j * 9, none⟩ = some (.int .i64 x.c) := hc 0 _ rfl
      have c1 : wr.cell? ⟨g, o + j * 9 + 1, none⟩ = some (.string x.T) := hc 1 _ rfl
      have c2 : wr.cell? ⟨g, o + j * 9 + 2, none⟩ = some (.int .i64 x.x1) := hc 2 _ rfl
      have c3 : wr.cell? ⟨g, o + j * 9 + 3, none⟩ = some (.int .i64 x.x2) := hc 3 _ rfl
      have c4 : wr.cell? ⟨g, o + j * 9 + 4, none⟩ = some (.int .i64 x.x3) := hc 4 _ rfl
      have c5 : wr.cell? ⟨g, o + j * 9 + 5, none⟩ = some (.int .i64 x.x4) := hc 5 _ rfl
      have c6 : wr.cell? ⟨g, o + j * 9 + 6, none⟩ = some (.slice a2 x.L.length p2) := hc 6 _ rfl
      have c7 : wr.cell? ⟨g, o + j * 9 + 7, none⟩ = some (.int .i64 x.n) := hc 7 _ rfl
      have c8 : wr.cell? ⟨g, o + j * 9 + 8, none⟩ = some (.bool x.e) := hc 8 _ rfl
      have VX : Hid (Var ((wr.alloc (.cells #[.int .i64 x.c, .string x.T, .int .i64 x.x1, .int .i64 x.x2, .int .i64 x.x3, .int .i64 x.x4, .slice a2 x.L.length p2, .int .i64 x.n, .bool x.e] 50)).alloc (.cells #[.int .i64 x.c, .string x.T, .int .i64 x.x1, .int .i64 x.x2, .int .i64 x.x3, .int .i64 x.x4, .slice none 0 0, .int .i64 x.n, .bool x.e] 89)) (wr.heap.size + 1) [.int .i64 x.c, .string x.T, .int .i64 x.x1, .int .i64 x.x2, .int .i64 x.x3, .int .i64 x.x4, .slice none 0 0, .int .i64 x.n, .bool x.e]) := by
        have h1 := Var.new (wr.alloc (.cells #[.int .i64 x.c, .string x.T, .int .i64 x.x1, .int .i64 x.x2, .int .i64 x.x3, .int .i64 x.x4, .slice a2 x.L.length p2, .int .i64 x.n, .bool x.e] 50)) [.int .i64 x.c, .string x.T, .int .i64 x.x1, .int .i64 x.x2, .int .i64 x.x3, .int .i64 x.x4, .slice none 0 0, .int .i64 x.n, .bool x.e] 89
        rw [World.size_alloc] at h1
        exact h1
      have OW : Hid (Only [] wr ((wr.alloc (.cells #[.int .i64 x.c, .string x.T, .int .i64 x.x1, .int .i64 x.x2, .int .i64 x.x3, .int .i64 x.x4, .slice a2 x.L.length p2, .int .i64 x.n, .bool x.e] 50)).alloc (.cells #[.int .i64 x.c, .string x.T, .int .i64 x.x1, .int .i64 x.x2, .int .i64 x.x3, .int .i64 x.x4, .slice none 0 0, .int .i64 x.n, .bool x.e] 89))) := ((Only.refl [] wr).alloc _).alloc _
      have HTX0 : Hid (∀ W, Only [] ((wr.alloc (.cells #[.int .i64 x.c, .string x.T, .int .i64 x.x1, .int .i64 x.x2, .int .i64 x.x3, .int .i64 x.x4, .slice a2 x.L.length p2, .int .i64 x.n, .bool x.e] 50)).alloc (.cells #[.int .i64 x.c, .string x.T, .int .i64 x.x1, .int .i64 x.x2, .int .i64 x.x3, .int .i64 x.x4, .slice none 0 0, .int .i64 x.n, .bool x.e] 89)) W → ∀ cur, W.heap[wr.heap.size + 1]? ≠ some (.cells cur 52 (0, 0))) := fun W k cur hcur => by
        have h1 := (k.block (wr.heap.size + 1) (by simp) (by simp)).symm.trans hcur
        have h2 := heap_alloc_last (wr.alloc (.cells #[.int .i64 x.c, .string x.T, .int .i64 x.x1, .int .i64 x.x2, .int .i64 x.x3, .int .i64 x.x4, .slice a2 x.L.length p2, .int .i64 x.n, .bool x.e] 50)) (.cells #[.int .i64 x.c, .string x.T, .int .i64 x.x1, .int .i64 x.x2, .int .i64 x.x3, .int .i64 x.x4, .slice none 0 0, .int .i64 x.n, .bool x.e] 89)
        rw [World.size_alloc] at h2
        rw [h2] at h1
        simp at h1
      clear hc hx hr2 hz2' hln
      go_wp2_with (first
        | (at_builtin; refine append_ens rfl (.tmp 31) (.tmp 33) rfl w.heap.size rfl a2 p2 x.L rfl HZ2.out (HR2.out.later OW.out) HLX.out (by have := O.out.size; have := OW.out.size; omega) ?_; intro v4 w4 hen4 o4; obtain ⟨a4, p4, rfl⟩ := hen4.form; have EN4 : Hid (EnOwn w4 w.heap.size (.slice a4 x.L.length p4) x.L) := hen4; have O4 : Hid (Only [] wr w4) := OW.out.then o4; have hv4 := VX.out.only o4 (VX.out.lt (by simp)) (by simp); have VX4 : Hid (Var w4 (wr.heap.size + 1) [.int .i64 x.c, .string x.T, .int .i64 x.x1, .int .i64 x.x2, .int .i64 x.x3, .int .i64 x.x4, .slice none 0 0, .int .i64 x.n, .bool x.e]) := hv4; have q6 := hv4.1 6 _ rfl; have f6 := hv4.2 6; have q0 := hv4.1 0 _ rfl; have q1 := hv4.1 1 _ rfl; have q2 := hv4.1 2 _ rfl; have q3 := hv4.1 3 _ rfl; have q4 := hv4.1 4 _ rfl; have q5 := hv4.1 5 _ rfl; have q7 := hv4.1 7 _ rfl; have q8 := hv4.1 8 _ rfl; have HTX : Hid (∀ cur, w4.heap[wr.heap.size + 1]? ≠ some (.cells cur 52 (0, 0))) := HTX0.out w4 o4; have OS4 : Hid (Only [wr.heap.size + 1] w4 (w4.setCell ⟨wr.heap.size + 1, 6, none⟩ (.slice a4 x.L.length p4))) := setO _ _ _ _; have HROW4 : Hid ((w4.setCell ⟨wr.heap.size + 1, 6, none⟩ (.slice a4 x.L.length p4)).ownsRow w.heap.size 89 9 u3 j (rowOf rpC m)) := OS4.out.owns (O4.out.owns HROW.out (fun _ _ => by simp)) (fun b hb => by have := (own_at HROW.out hb).2.1; simp; omega); clear hen4 o4 hv4)
        | (at_builtin; refine wpList_append_lies _ rfl (.tmp 36) (.tmp 38) 54 rfl w.heap.size 89 i0 _ 9 96 rpsUnd hi0 hz0 hz1 hz2 rfl (by decide) u3 j _ rfl (World.ownsRow.alloc HROW4.out _) ⟨w4.heap.size, 0, none⟩ 1 1 (rpC (x, Value.slice a4 x.L.length p4)) rfl rfl (rp_newsS x (.slice a4 x.L.length p4) _ _ _) (rpC_one2 x a4 x.L.length p4) (by decide) (by unfold maxLen; omega) (by omega) (by rw [World.size_alloc]; have := O.out.size; have := O4.out.size; have := OS4.out.size; omega) (w4.heap.size + 1) (by simp) ?_; intro g5 c5 w5 hown5 hgr5 hat5 hlt5; have HV5 : Hid (w5.ownsRow w.heap.size 89 9 (.slice (some ⟨g5, 0, none⟩) (j + 1) c5) (m ++ [(x, Value.slice a4 x.L.length p4)]).length (rowOf rpC (m ++ [(x, Value.slice a4 x.L.length p4)]))) := row_snoc HMJ.out hown5; have HG5 : Hid (Only u3.ownBlock.toList (w4.setCell ⟨wr.heap.size + 1, 6, none⟩ (.slice a4 x.L.length p4)) w5) := grown_only hgr5 (fun b hb => Or.inl (by simp [hb])); clear hown5 hgr5 hat5 hlt5)
        | go_in)
      go_roundw
      case rel =>
        have hge : ∀ k ∈ u3.ownBlock.toList, w.heap.size ≤ k := fun k hk => (own_at HROW.out (by simpa using hk)).1
        have hne : ∀ (v : Value) (L : List EnV), EnOwn (w4.setCell ⟨wr.heap.size + 1, 6, none⟩ (.slice a4 x.L.length p4)) w.heap.size v L → ∀ b, v.ownBlock = some b → b ∉ u3.ownBlock.toList := fun v L he b hb hm => by
          obtain ⟨_, _, _, h1⟩ := own_at he hb
          obtain ⟨_, _, _, h2⟩ := own_at HROW4.out (by simpa using hm)
          rw [h1] at h2
          simp at h2
        have hb4 : ∀ b, (Value.slice a4 x.L.length p4).ownBlock = some b → b ∉ [wr.heap.size + 1] := fun b hb hm => by
          obtain ⟨_, _, cur, h1⟩ := own_at EN4.out hb
          rw [List.mem_singleton.1 hm] at h1
          exact HTX.out cur h1
        have hens5 : ∀ q ∈ m ++ [(x, Value.slice a4 x.L.length p4)], EnOwn w5 w.heap.size q.2 q.1.L := fun q hq => by
          rcases List.mem_append.1 hq with hq | hq
          · have h1 : EnOwn (w4.setCell ⟨wr.heap.size + 1, 6, none⟩ (.slice a4 x.L.length p4)) w.heap.size q.2 q.1.L := ((HENS.out q hq).only O4.out (fun _ _ => by simp)).only OS4.out (fun b hb => by have := (own_at (HENS.out q hq) hb).2.1; simp; omega)
            exact h1.only HG5.out (hne _ _ h1)
          · rw [List.mem_singleton.1 hq]
            have h1 : EnOwn (w4.setCell ⟨wr.heap.size + 1, 6, none⟩ (.slice a4 x.L.length p4)) w.heap.size (.slice a4 x.L.length p4) x.L := EN4.out.only OS4.out hb4
            exact h1.only HG5.out (hne _ _ h1)
        have ow4 : Only [] w (w4.setCell ⟨wr.heap.size + 1, 6, none⟩ (.slice a4 x.L.length p4)) := only_old (O.out.then O4.out) OS4.out (by have := O.out.size; simp; omega)
        exact ⟨j + 1, m ++ [(x, Value.slice a4 x.L.length p4)], by omega, by go_num, by rw [List.length_append, HMJ.out]; rfl, by rw [List.map_append, HMF.out, HX.out]; rfl, only_old ow4 HG5.out hge, HV5.out, hens5⟩
      case measure => simp [intOf]; omega
    · obtain rfl : n = j := by omega
      go_wp2
      go_ret
      exact ⟨_, rfl, O.out, m, by rw [HMF.out, ← HN.out, List.take_length], by rw [HMJ.out]; exact HROW.out, HENS.out⟩
end Go.Proofs.YtkopiffnkbjbiaaDoor
