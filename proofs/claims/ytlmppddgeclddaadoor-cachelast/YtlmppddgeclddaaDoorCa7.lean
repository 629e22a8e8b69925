/- What was answered, the document's side: Keep. -/
import Derived.Test.YtlmppddgeclddaaDoorCa6
namespace Go.Proofs.YtlmppddgeclddaaDoor
open Go Go.RowKit Go.Deep

/-- An append whose run is known. -/
theorem wpList_append_known {P : Program} {w : World} {ops : Array Oper} {rest : List Oper} {o : Oper} {a : Act} {Q : Exit → Act → World → Prop} (hgd : o.guard = none) (s x : Operand) (t t' : TypeId) (ho : o.op = .call { callee := .builtin .append, args := #[s, x], argTypes := #[t, t'] }) (v u : Value) (hs : a.eval s = v) (hx : a.eval x = u) {v' : Value} {w' : World}
    (hr : (Builtin.append_ #[t, t'] o.type #[v, u]).run P w = .ok v' w') (h : wpList P ops Q rest (a.put o.dst v') w') : wpList P ops Q (o :: rest) a w :=
  wpList_plain hgd fun K hK => by
    unfold Oper.wp execOp
    simp only [ho, resolve, invoke, builtin, Sem.run_bind, Sem.run_pure, Result.andThen_ok, List.map_toArray, List.map_cons, List.map_nil, hs, hx, hr]
    exact hK _ _ h
theorem kp_news {w : World} (x : Kp) (ty : TypeId) : ∀ (r : Nat) (q : Value), (kpC x)[r]? = some q → (w.alloc (.cells #[.string x.c, .int .i64 x.n, .string x.t, .string x.r] ty)).cell? ((⟨w.heap.size, 0, none⟩ : Addr).add r) = some q := World.news_of_block (w := w.alloc (.cells #[.string x.c, .int .i64 x.n, .string x.t, .string x.r] ty)) (heap_alloc_last w _)
/-- What Keep leaves. -/
def RKeepR (w w' : World) (base m : Nat) (v : Value) (most : Nat) (L : List Kp) (x : Kp) (e : Ending) : Prop :=
  e = .returned (.int .i64 ((keepK most L x).1 : Nat)) ∧ ∃ v', KcAt w' base m v' most (keepK most L x).2 ∧ Only (m :: v.ownBlock.toList) w w'
/-- The list is another one now. -/
theorem KcAt.moved {w w5 : World} {base m : Nat} {v v' : Value} {most : Nat} {L L' : List Kp} (h : KcAt w base m v most L) (ho : Only v.ownBlock.toList w w5) (hown : Kps w5 base v' L') :
    w5.cell? ⟨m, 1, none⟩ = some v ∧ w5.cell? ⟨m, 0, none⟩ = some (.int .i64 (most : Nat)) ∧ w5.frozen? ⟨m, 1, none⟩ = false ∧ m < w5.heap.size ∧ KcAt (w5.setCell ⟨m, 1, none⟩ v') base m v' most L' ∧ Only (m :: v.ownBlock.toList) w (w5.setCell ⟨m, 1, none⟩ v') := by
  have hm : m ∉ v.ownBlock.toList := fun hm => h.ne (by simpa using hm) rfl
  have ht := (ho.block m h.lt hm).trans h.tab
  have hne : ∀ k, v'.ownBlock = some k → k ∉ [m] := fun k hk hkm => by
    obtain ⟨_, _, cur, hc⟩ := PartRow.block hown hk
    rw [List.mem_singleton.1 hkm, ht] at hc
    simp at hc
  exact ⟨cell_of_row _ _ 1 _ _ _ ht, cell_of_row _ _ 0 _ _ _ ht, frozen_of_row _ _ _ _ _ ht, (Array.getElem?_eq_some_iff.1 ht).1, ⟨heap_setCell_same w5 m 1 _ _ _ ht, PartRow.only hown ((Only.refl [m] w5).setCell (Or.inl (by simp)) _) hne⟩, (ho.mono (fun k hk => Or.inl (List.mem_cons_of_mem _ hk))).setCell (Or.inl (by simp)) _⟩
theorem Kps.snoc {w : World} {base n : Nat} {v : Value} {L : List Kp} {x : Kp} (hn : L.length = n) (h : PartRow w base 58 4 v (n + 1) (rowOf kpC L ++ kpC x)) : Kps w base v (L ++ [x]) := by
  unfold Kps
  rw [rowOf_append, List.length_append, List.length_singleton, hn, show rowOf kpC [x] = kpC x by simp [rowOf]]
  exact h
set_option maxRecDepth 100000 in
set_option maxHeartbeats 4000000 in
theorem rkeep_any (w : World) (base m : Nat) (v : Value) (most : Nat) (L : List Kp) (x : Kp) (h : KcAt w base m v most L) (hi : KInv most L) (hbs : base ≤ w.heap.size) :
    Calls Tryd.prog 9 #[.pointer (some ⟨m, 0, none⟩), .string x.c, .int .i64 x.n, .string x.t, .string x.r] w fun e w' => RKeepR w w' base m v most L x e := by
  have c1 := h.c1
  have hml := h.lt
  have hl := hi.len
  have hm2 := hi.most2
  have hm1 := hi.most1
  have H : Hid (KcAt w base m v most L) := h
  have HD : Hid (roomK most L ++ [x] = if most < (L ++ [x]).length then (L ++ [x]).drop 1 else L ++ [x]) := keep_doc hi x
  obtain ⟨ad, cap, hv, hcm, hnc, hf⟩ := h.own.form
  have HF : Hid (∀ j x, L[j]? = some x → ∃ g off, ad = some ⟨g, off, none⟩ ∧ KpIn w g (off + j * 4) x) := hf
  obtain ⟨n, hn⟩ : ∃ n, L.length = n := ⟨_, rfl⟩
  have HN : Hid (L.length = n) := hn
  obtain ⟨i0, hi0, hz0, hz1, hz2⟩ := kpInfo'
  have o1 : Only [] w (w.alloc (.cells #[.string x.c, .int .i64 x.n, .string x.t, .string x.r] 58)) := (Only.refl [] w).alloc _
  have hp := PartRow.only h.own o1 (fun _ _ => by simp)
  rw [hn] at hp
  obtain ⟨g5, off5, cap5, w5, hr5, hP5, ho5⟩ := PartRow.append (P := Tryd.prog) 31 i0 _ 56 kpsUnd hi0 hz0 hz1 hz2 rfl (by decide) hp ⟨w.heap.size, 0, none⟩ 1 1 (kpC x) rfl (kp_news x _) (kpC_one x) (by decide) (by unfold maxLen; omega) (by omega) (by rw [World.size_alloc]; omega)
  have hO5 : Only v.ownBlock.toList w w5 := (o1.mono (fun _ hk => by cases hk)).trans ho5 (fun _ hk => Or.inl hk)
  have hK5 : Kps w5 base (.slice (some ⟨g5, off5, none⟩) (n + 1) cap5) (L ++ [x]) := Kps.snoc hn hP5
  have hcap5 : n + 1 ≤ cap5 ∧ (cap5 : Int) ≤ 9223372036854775807 := by
    obtain ⟨ad', cap', hv', hc', hn', _⟩ := PartRow.form hP5
    cases hv'
    exact ⟨hn', hc'⟩
  have HM1 : Hid (KcAt (w5.setCell ⟨m, 1, none⟩ (.slice (some ⟨g5, off5, none⟩) (n + 1) cap5)) base m (.slice (some ⟨g5, off5, none⟩) (n + 1) cap5) most (L ++ [x]) ∧ Only (m :: v.ownBlock.toList) w (w5.setCell ⟨m, 1, none⟩ (.slice (some ⟨g5, off5, none⟩) (n + 1) cap5))) := (h.moved hO5 hK5).2.2.2.2
  have hK6 : Kps w5 base (.slice (some ⟨g5, off5 + 4, none⟩) n (cap5 - 1)) ((L ++ [x]).drop 1) := by
    have := PartRow.tail hP5
    unfold Kps
    rw [List.length_drop, List.length_append, List.length_singleton, hn, Nat.add_sub_cancel, rowOf_drop kpC_len, rowOf_append, show rowOf kpC [x] = kpC x by simp [rowOf]]
    exact this
  have HM2 : Hid (KcAt (w5.setCell ⟨m, 1, none⟩ (.slice (some ⟨g5, off5 + 4, none⟩) n (cap5 - 1))) base m (.slice (some ⟨g5, off5 + 4, none⟩) n (cap5 - 1)) most ((L ++ [x]).drop 1) ∧ Only (m :: v.ownBlock.toList) w (w5.setCell ⟨m, 1, none⟩ (.slice (some ⟨g5, off5 + 4, none⟩) n (cap5 - 1)))) := (h.moved hO5 hK6).2.2.2.2
  obtain ⟨_, e0, e2, e3, _⟩ := h.moved hO5 hK5
  have c1' := c1
  rw [hv, hn] at c1'
  have hr6 := hr5
  rw [hv, hn] at hr6
  obtain ⟨hq1, hq2⟩ := hcap5
  rw [hn] at hl
  have HV : Hid (v = .slice ad n cap) := by show _ = _; rw [hv, hn]
  clear hf h hcm hnc hp hP5 ho5 hK5 hK6 hO5 hr5 c1 hv hn hi0 hz0 hz1 hz2 o1 hi hbs
  go_enter Tryd.func9, Tryd.ntmps9
  go_wp2
  go_loop [11] (fun q => ∃ j : Nat, q = .int .i64 (j : Nat) ∧ j ≤ n ∧ NoneTo L j (x.c, x.n)) (fun q => n - (intOf q).toNat)
  case atStart => exact ⟨0, rfl, Nat.zero_le _, fun x hx => by simp at hx⟩
  case round =>
    obtain ⟨j, rfl, hj, hno⟩ := hrel
    have HNO : Hid (NoneTo L j (x.c, x.n)) := hno
    clear hno
    by_cases hlt : j < n
    · obtain ⟨y, hx⟩ : ∃ y, L[j]? = some y := ⟨L[j]'(by have := HN.out; omega), List.getElem?_eq_getElem _⟩
      obtain ⟨g, off, rfl, q0, q1, q2, q3⟩ := HF.out j y hx
      have HX : Hid (L[j]? = some y) := hx
      clear hx
      by_cases h1 : y.c = x.c
      · have b1 := bytes_eq h1
        by_cases h2 : y.n = x.n
        · have b2 : (y.n == x.n) = true := by rw [h2]; simp
          have HFD : Hid (findK L x.k = some y) := HNO.out.found HX.out (kk_eq h1 h2)
          have HR : Hid (keepK most L x = (6, L)) := by show _ = _; unfold keepK; rw [HFD.out]; rfl
          clear h1 h2
          go_wp2
          go_ret
          unfold RKeepR
          rw [HR.out]
          exact ⟨rfl, v, H.out, Only.refl _ _⟩
        · have b2 : (y.n == x.n) = false := by simpa using h2
          have HST : Hid (NoneTo L (j + 1) (x.c, x.n)) := HNO.out.step HX.out (fun e => h2 (by unfold Kp.k at e; simp only [Prod.mk.injEq] at e; exact e.2))
          clear h1 h2
          go_wp2
          go_round
          case rel => exact ⟨j + 1, by go_num, by omega, HST.out⟩
          case measure => simp [intOf]; omega
      · have b1 := bytes_ne h1
        have HST : Hid (NoneTo L (j + 1) (x.c, x.n)) := HNO.out.step HX.out (fun e => h1 (by unfold Kp.k at e; simp only [Prod.mk.injEq] at e; exact e.1))
        clear h1
        go_wp2
        go_round
        case rel => exact ⟨j + 1, by go_num, by omega, HST.out⟩
        case measure => simp [intOf]; omega
    · obtain rfl : n = j := by omega
      have HNF : Hid (findK L x.k = none) := NoneTo.all (by rw [HN.out]; exact HNO.out)
      have HR : Hid (keepK most L x = (0, roomK most L ++ [x])) := by show _ = _; unfold keepK; rw [HNF.out]; rfl
      by_cases hfl : most < n + 1
      · have HR2 : Hid (roomK most L ++ [x] = (L ++ [x]).drop 1) := by
          have := HD.out
          rw [if_pos (by rw [List.length_append, List.length_singleton, HN.out]; exact hfl)] at this
          exact this
        have d1 : decide ((most : Int) < (n : Int) + 1) = true := decide_eq_true (by omega)
        have d2 : ¬ cap5 = 1 := by omega
        have d3 : (1 : Int) ≤ (n : Int) + 1 := by omega
        go_wp2_with (at_builtin; refine wpList_append_known rfl _ _ 31 31 rfl _ _ rfl rfl (hr6 _) ?_)
        go_ret
        unfold RKeepR
        rw [HR.out]
        exact ⟨rfl, _, by rw [HR2.out]; exact HM2.out.1, HM2.out.2⟩
      · have HR2 : Hid (roomK most L ++ [x] = L ++ [x]) := by
          have := HD.out
          rw [if_neg (by rw [List.length_append, List.length_singleton, HN.out]; exact hfl)] at this
          exact this
        have d1 : decide ((most : Int) < (n : Int) + 1) = false := decide_eq_false (by omega)
        go_wp2_with (at_builtin; refine wpList_append_known rfl _ _ 31 31 rfl _ _ rfl rfl (hr6 _) ?_)
        go_ret
        unfold RKeepR
        rw [HR.out]
        exact ⟨rfl, _, by rw [HR2.out]; exact HM1.out.1, HM1.out.2⟩
end Go.Proofs.YtlmppddgeclddaaDoor
