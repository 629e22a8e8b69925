/- LockActs: the document's list of runs. -/
import Derived.Test.YtfnniphemlnanaaDoorLa8
namespace Go.Proofs.YtfnniphemlnanaaDoor
open Go Go.RowKit Go.Deep

theorem step_append_rows {P : Program} {w : World} {ops : Array Oper} {o : Oper} {a : Act} {K : Act → World → Prop} {Q : Exit → Act → World → Prop} {E : Prop} (hgd : o.guard = none) (s x : Operand) (t : TypeId)
    (ho : o.op = .call { callee := .builtin .append, args := #[s, x], argTypes := #[t, t] })
    (base : Nat) (e : TypeId) (i : TypeInfo) (z : Value) (size bytes : Nat) (ht : P.underlying t = some (.slice e)) (hi : P.info? e = some i) (hz : i.zero = some z)
    (hsize : i.size = size) (hby : i.bytes = bytes) (hzs : z.cells.size = size) (hsz : 0 < size)
    (v : Value) (n : Nat) (xs : List Value) (hs : a.eval s = v) (hown : w.ownsRow base e size v n xs)
    (vx : Value) (m base2 : Nat) (news : List Value) (hx : a.eval x = vx) (hvx : w.ownsRow base2 e size vx m news) (h1 : ∀ u ∈ news, u.oneCell' = true)
    (h63 : n + m ≤ maxLen) (hbytes : (n + m) * bytes ≤ 140737488355328) (hbase : base ≤ w.heap.size)
    (h : ∀ v' w', w'.ownsRow base e size v' (n + m) (xs ++ news) → w.grownBy w' v.ownBlock → (v'.ownBlock = v.ownBlock ∨ v'.ownBlock = some w.heap.size) → K (a.put o.dst v') w') :
    if Region.wanted o (yielded ops a.tmps) = true then Oper.wp P o a w K Q else E := by
  have hw : Region.wanted o (yielded ops a.tmps) = true := by simp [Region.wanted, hgd]
  rw [if_pos hw]
  have hl := hvx.1
  rcases hvx.2 with ⟨hv, hm⟩ | ⟨g, cap, cur, hv, _⟩
  · subst hm
    have hn : news = [] := List.length_eq_zero_iff.1 (by rw [hl]; omega)
    subst hn
    rw [hv] at hx
    have hrun := run_append_owned_none (P := P) (w := w) base t o.type e i size ht hi v n xs hown
    unfold Oper.wp
    simp [execOp, ho, resolve, invoke, builtin, hs, hx, hrun, Result.andThen]
    exact h v w (by rw [List.append_nil]; exact hown) (World.grownBy.refl _ _) (Or.inl rfl)
  · subst hv
    obtain ⟨v', w', hr, h2, h3, h4, h5⟩ := run_append_own_at (P := P) w base t o.type e i z size bytes ht hi hz hsize hby hzs hsz v n xs hown ⟨g, 0, none⟩ m cap news hl (fun j u hu => by
      have hj : j < m * size := by rw [← hl]; exact (List.getElem?_eq_some_iff.1 hu).1
      rw [add_none, Nat.zero_add, World.ownsRow.cellAt hvx j hj]
      exact hu) h1 h63 hbytes hbase
    unfold Oper.wp execOp
    simp only [ho, resolve, invoke, builtin, Sem.run_bind, Sem.run_pure, Result.andThen_ok, List.map_toArray, List.map_cons, List.map_nil, hs, hx, hr]
    exact h v' w' h2 h3 h5
theorem Rks.base {w : World} {base b : Nat} {v : Value} {l : List Lk} (h : Rks w base v l) (hb : b ≤ base) : Rks w b v l :=
  ⟨h.1, h.2.imp id (fun ⟨g, cap, cur, a, c, d⟩ => ⟨g, cap, cur, a, Nat.le_trans hb c, d⟩)⟩
theorem rks_lt {w : World} {base k : Nat} {v : Value} {l : List Lk} (h : Rks w base v l) (hk : v.ownBlock = some k) : k < w.heap.size := by
  rcases row_open h with ⟨rfl, _⟩ | ⟨g, cap, cur, rfl, _, hg, _⟩
  · cases hk
  · cases hk; exact hg
theorem rk_cells {w : World} {base g cap n i : Nat} {l : List Lk} {p : Lk} (h : Rks w base (.slice (some ⟨g, 0, none⟩) n cap) l) (hn : l.length = n) (hi : l[i]? = some p) : w.cell? ⟨g, i * 6, none⟩ = some (.int .i64 p.N) ∧ w.cell? ⟨g, i * 6 + 1, none⟩ = some (.int .i64 p.G) ∧ w.cell? ⟨g, i * 6 + 2, none⟩ = some (.int .i64 p.O) ∧ w.cell? ⟨g, i * 6 + 3, none⟩ = some (.int .i64 p.A) ∧ w.cell? ⟨g, i * 6 + 4, none⟩ = some (.int .i64 p.S) ∧ w.cell? ⟨g, i * 6 + 5, none⟩ = some (.bool p.W) :=
  have hc := row_cells (enc := lkC) (fun _ => rfl) h hn hi
  ⟨hc 0 (by decide), hc 1 (by decide), hc 2 (by decide), hc 3 (by decide), hc 4 (by decide), hc 5 (by decide)⟩
theorem lkC_len' (x : Lk) : (lkC x).length = 6 := rfl
theorem rks_take {w : World} {base g n cap : Nat} {l : List Lk} (h : Rks w base (.slice (some ⟨g, 0, none⟩) n cap) l) (hn : l.length = n) (k : Nat) : ∀ j u, (rowOf lkC (l.take k))[j]? = some u → w.cell? ((⟨g, 0, none⟩ : Addr).add j) = some u := by
  subst hn
  intro j u hu
  rw [rowOf_take lkC_len', List.getElem?_take] at hu
  split at hu
  · have hj : j < l.length * 6 := by rw [← rowOf_len lkC_len' l]; exact (List.getElem?_eq_some_iff.1 hu).1
    rw [add_none, Nat.zero_add, World.ownsRow.cellAt h j hj]
    exact hu
  · cases hu
theorem rks_drop {w : World} {base g n cap : Nat} {l : List Lk} (h : Rks w base (.slice (some ⟨g, 0, none⟩) n cap) l) (hn : l.length = n) (k : Nat) (ad : Addr) (ha : (l.drop k).length = 0 ∨ ad = ⟨g, k * 6, none⟩) : ∀ j u, (rowOf lkC (l.drop k))[j]? = some u → w.cell? (ad.add j) = some u := by
  subst hn
  intro j u hu
  rcases ha with ha | rfl
  · rw [List.length_eq_zero_iff.1 ha] at hu
    cases hu
  · rw [rowOf_drop lkC_len', List.getElem?_drop] at hu
    have hj : k * 6 + j < l.length * 6 := by rw [← rowOf_len lkC_len' l]; exact (List.getElem?_eq_some_iff.1 hu).1
    rw [add_none, World.ownsRow.cellAt h _ hj]
    exact hu
theorem best_start {H : List Lk} : ∀ (i : Nat) (y x : Lk), i < 1 → H[i]? = some y → H[0]? = some x → ¬ ltAO y x := by
  intro i y x hi hy hx
  obtain rfl : i = 0 := by omega
  rw [hy] at hx
  cases hx
  unfold ltAO
  omega
theorem best_old {H : List Lk} {q r : Nat} {x y : Lk} (h : ∀ (i : Nat) (y x : Lk), i < r → H[i]? = some y → H[q]? = some x → ¬ ltAO y x) (hx : H[q]? = some x) (hy : H[r]? = some y) (hn : ¬ ltAO y x) : ∀ (i : Nat) (y x : Lk), i < r + 1 → H[i]? = some y → H[q]? = some x → ¬ ltAO y x := by
  intro i y' x' hi hy' hx'
  rcases Nat.lt_or_ge i r with h1 | h1
  · exact h i y' x' h1 hy' hx'
  · obtain rfl : i = r := by omega
    rw [hy] at hy'
    rw [hx] at hx'
    cases hy'
    cases hx'
    exact hn
theorem best_new {H : List Lk} {q r : Nat} {x y : Lk} (h : ∀ (i : Nat) (y x : Lk), i < r → H[i]? = some y → H[q]? = some x → ¬ ltAO y x) (hx : H[q]? = some x) (hy : H[r]? = some y) (hn : ltAO y x) : ∀ (i : Nat) (y x : Lk), i < r + 1 → H[i]? = some y → H[r]? = some x → ¬ ltAO y x := by
  intro i y' x' hi hy' hx'
  rw [hy] at hx'
  cases hx'
  rcases Nat.lt_or_ge i r with h1 | h1
  · have := h i y' x h1 hy' hx
    unfold ltAO at *
    omega
  · obtain rfl : i = r := by omega
    rw [hy] at hy'
    cases hy'
    unfold ltAO
    omega
set_option maxRecDepth 100000 in
set_option maxHeartbeats 8000000 in
theorem listOf_any (w : World) (base : Nat) (v : Value) (l : List Pt) (h : Pts w base v l) (hl : l.length ≤ 100) (hP : ∀ p ∈ l, p.Ok) : Calls Tryd.prog 36 #[v] w fun e w' => ∃ v' D, e = .returned v' ∧ Rks w' w.heap.size v' D ∧ ListOf l D ∧ D.length ≤ 2010000 ∧ Only [] w w' := by
  have HOK : Hid (∀ p ∈ l, p.Ok) := hP
  have HRU : Hid (∀ W N G O, Only [] w W → Calls Tryd.prog 34 #[v, .agg #[.int .i64 N, .int .i64 G], .int .i64 O] W fun e w' => ∃ v' ps, e = .returned v' ∧ IsPlaces l N G O ps ∧ Rks w' W.heap.size v' (runsP l N G O ps) ∧ (runsP l N G O ps).length ≤ 201 ∧ Only [] W w') := fun W N G O ho => runs_any W base v l N G O (h.only ho (fun _ _ => by simp)) hl hP
  have HOWN : Hid (∀ W N G, Only [] w W → Calls Tryd.prog 50 #[v, .agg #[.int .i64 N, .int .i64 G]] W fun e w' => ∃ v' os, e = .returned v' ∧ Ints w' W.heap.size v' os ∧ IsOwners l N G os ∧ os.length ≤ 100 ∧ Only [] W w') := fun W N G ho => (owners_any W base v l N G (h.only ho (fun _ _ => by simp)) hl).mono fun e w' hh => by
    obtain ⟨v', os, h1, h2, h3, h4, h5⟩ := hh
    exact ⟨v', os, h1, h2, h3, by omega, h5⟩
  have HHA : Hid (Calls Tryd.prog 49 #[v] w fun e w' => ∃ v' hs, e = .returned v' ∧ Hds w' w.heap.size v' hs ∧ IsHandles l hs ∧ hs.length ≤ 100 ∧ Only [] w w') := (handles_any w base v l h hl).mono fun e w' hh => by
    obtain ⟨v', hs, h1, h2, h3, h4, h5⟩ := hh
    exact ⟨v', hs, h1, h2, h3, by omega, h5⟩
  clear h hl hP
  obtain ⟨i0, hi0, hz0, hz1, hz2⟩ := rkInfo'
  go_enter Tryd.func36, Tryd.ntmps36
  go_wp2_with (go_at_call 49; refine HHA.out.mono ?_; rintro e w1 ⟨v1, hs, rfl, h1, hs1, hl1, ho1⟩; obtain ⟨ad, cp, rfl, had, _⟩ := row_form h1; have HAD : Hid (hs ≠ [] → ∃ g, ad = some ⟨g, 0, none⟩) := had; have H1 : Hid (Hds w1 w.heap.size (.slice ad hs.length cp) hs) := h1; have HS1 : Hid (IsHandles l hs) := hs1; have HO1 : Hid (Only [] w w1) := ho1; have HL1 : Hid (hs.length ≤ 100) := hl1; clear h1 hs1 ho1 had hl1)
  have hsl := HL1.out
  obtain ⟨n, hn⟩ : ∃ n, hs.length = n := ⟨_, rfl⟩
  have HN : Hid (hs.length = n) := hn
  rw [hn] at hsl H1 ⊢
  clear hn
  go_loopw [3, 5, 6, 7, 8, 9, 10, 11] (fun o i _ _ _ _ _ _ wr => ∃ (j : Nat) (D : List Lk), i = .int .i64 j ∧ j ≤ n ∧ Rks wr w.heap.size o D ∧ OutInv l hs j D ∧ Only [] w1 wr ∧ (∀ k, o.ownBlock = some k → w1.heap.size ≤ k)) (fun _ i _ _ _ _ _ _ _ => n - (intOf i).toNat)
  case atStart => exact ⟨0, [], rfl, Nat.zero_le _, World.ownsRow_nil _ _ _ _, OutInv.nil _ _, Only.refl _ _, (fun k hk => by cases hk)⟩
  case round =>
    obtain ⟨j, D, rfl, hj, hR, hI, ho, hfr⟩ := hrel
    have HR : Hid (Rks wr w.heap.size u3 D) := hR
    have HI : Hid (OutInv l hs j D) := hI
    have HO : Hid (Only [] w1 wr) := ho
    have HFR : Hid (∀ k, u3.ownBlock = some k → w1.heap.size ≤ k) := hfr
    clear hR hI ho hfr
    by_cases hlt : j < n
    · obtain ⟨⟨N, G⟩, hx⟩ : ∃ p, hs[j]? = some p := ⟨_, List.getElem?_eq_getElem (by rw [HN.out]; exact hlt)⟩
      obtain ⟨gH, rfl⟩ := HAD.out (fun e => by rw [e] at hx; cases hx)
      have HX : Hid (hs[j]? = some (N, G)) := hx
      have HCX : Hid (∀ W, Only [] w1 W → W.cell? ⟨gH, j * 2, none⟩ = some (.int .i64 N) ∧ W.cell? ⟨gH, j * 2 + 1, none⟩ = some (.int .i64 G)) := fun W ho' => hd_cells (H1.out.only ho' (fun _ _ => by simp)) HN.out hx
      have hj2 : (j : Int) < n := by omega
      clear hx
      obtain ⟨W0, hW0⟩ : ∃ W0, wr = W0 := ⟨_, rfl⟩
      rw [hW0] at HO HR ⊢
      clear hW0
      obtain ⟨x0, x1⟩ := HCX.out W0 HO.out
      go_upto_block 2 with (go_at_call 50; refine (HOWN.out _ N G (only_nil HO1.out HO.out)).mono ?_; rintro e w2 ⟨v2, os, rfl, h2, hs2, hl2, ho2⟩; obtain ⟨ad2, cp2, rfl, had2, _⟩ := row_form h2; have HAD2 : Hid (os ≠ [] → ∃ g, ad2 = some ⟨g, 0, none⟩) := had2; have H2 : Hid (Ints w2 W0.heap.size (.slice ad2 os.length cp2) os) := h2; have HS2 : Hid (IsOwners l N G os) := hs2; have HO2 : Hid (Only [] W0 w2) := ho2; have HL2 : Hid (os.length ≤ 100) := hl2; clear h2 hs2 ho2 had2 hl2 x0 x1)
      have hosl := HL2.out
      obtain ⟨m, hm⟩ : ∃ m, os.length = m := ⟨_, rfl⟩
      have HM : Hid (os.length = m) := hm
      rw [hm] at hosl H2 ⊢
      clear hm
      have HW2 : Hid (Only [] w1 w2) := only_nil HO.out HO2.out
      have HWW : Hid (Only [] w w2) := only_nil HO1.out HW2.out
      go_cut [6, 8] from 14 to 112 (fun hh _ wx => ∃ H : List Lk, Rks wx W0.heap.size hh H ∧ HereInv l N G os m H ∧ Only [] w2 wx ∧ (∀ b, hh.ownBlock = some b → w2.heap.size ≤ b))
      case first =>
        go_wp2_with fail
        go_loopw [6, 8] (fun hh k wx => ∃ (q : Nat) (H : List Lk), k = .int .i64 q ∧ q ≤ m ∧ Rks wx W0.heap.size hh H ∧ HereInv l N G os q H ∧ Only [] w2 wx ∧ (∀ b, hh.ownBlock = some b → w2.heap.size ≤ b)) (fun _ k _ => m - (intOf k).toNat)
        case atStart => exact ⟨0, [], rfl, Nat.zero_le _, World.ownsRow_nil _ _ _ _, HereInv.nil _ _ _ _, Only.refl _ _, (fun b hb => by cases hb)⟩
        case round =>
          obtain ⟨q, H, rfl, hq, hRH, hHI, hoq, hfb⟩ := hrel
          have HRH : Hid (Rks wr W0.heap.size u6 H) := hRH
          have HHI : Hid (HereInv l N G os q H) := hHI
          have HOQ : Hid (Only [] w2 wr) := hoq
          have HFB : Hid (∀ b, u6.ownBlock = some b → w2.heap.size ≤ b) := hfb
          clear hRH hHI hoq hfb
          by_cases hqm : q < m
          · obtain ⟨O, hO⟩ : ∃ O, os[q]? = some O := ⟨_, List.getElem?_eq_getElem (by rw [HM.out]; exact hqm)⟩
            obtain ⟨gO, rfl⟩ := HAD2.out (fun e => by rw [e] at hO; cases hO)
            have HOO : Hid (os[q]? = some O) := hO
            have HS3 : Hid (∀ W, Only [] w2 W → W.cell? ⟨gH, j * 2, none⟩ = some (.int .i64 N) ∧ W.cell? ⟨gH, j * 2 + 1, none⟩ = some (.int .i64 G) ∧ W.cell? ⟨gO, q, none⟩ = some (.int .i64 O)) := fun W ho => ⟨(HCX.out W (only_nil HW2.out ho)).1, (HCX.out W (only_nil HW2.out ho)).2, int_cell (H2.out.only ho (fun _ _ => by simp)) HM.out HOO.out⟩
            have HS0 : Hid (wr.drew.cell? ⟨gH, j * 2, none⟩ = some (.int .i64 N) ∧ wr.drew.cell? ⟨gH, j * 2 + 1, none⟩ = some (.int .i64 G) ∧ wr.drew.cell? ⟨gO, q, none⟩ = some (.int .i64 O)) := HS3.out _ HOQ.out.drew
            have hqi : (q : Int) < m := by omega
            obtain ⟨rn, hrn⟩ : ∃ rn, H.length = rn := ⟨_, rfl⟩
            have HRN : Hid (H.length = rn) := hrn
            have hrl : rn ≤ 20100 := by have := HHI.out.len; have := HL2.out; have := HM.out; omega
            have HR4 : Hid (∀ W, Only [] wr W → W.ownsRow W0.heap.size 44 6 u6 rn (rowOf lkC H)) := fun W ho => by have hh := HRH.out.only ho (fun _ _ => by simp); unfold Rks at hh; rw [HRN.out] at hh; exact hh
            clear hO hrn
            go_wp2
            go_region_held3 (fun W => W.cell? ⟨gH, j * 2, none⟩ = some (.int .i64 N) ∧ W.cell? ⟨gH, j * 2 + 1, none⟩ = some (.int .i64 G) ∧ W.cell? ⟨gO, q, none⟩ = some (.int .i64 O)) (with_reducible first | exact HS0.out | exact HS4.out | exact HS7.out)
              (first
                | (go_at_call 34; refine (HRU.out _ N G O (only_nil HWW.out HOQ.out.drew)).mono ?_; rintro e w4 ⟨v4, ps, rfl, hip, hrk, hrl4, ho4⟩; have HIP : Hid (IsPlaces l N G O ps) := hip; have HRL : Hid ((runsP l N G O ps).length ≤ 201) := hrl4; have HO4 : Hid (Only [] w2 w4) := only_nil HOQ.out.drew ho4; have HD4 : Hid (Only [] wr w4) := only_nil (Only.refl [] wr).drew ho4; have HS4 : Hid (w4.cell? ⟨gH, j * 2, none⟩ = some (.int .i64 N) ∧ w4.cell? ⟨gH, j * 2 + 1, none⟩ = some (.int .i64 G) ∧ w4.cell? ⟨gO, q, none⟩ = some (.int .i64 O)) := HS3.out w4 HO4.out; have HRK : Hid (Rks w4 wr.drew.heap.size v4 (runsP l N G O ps)) := hrk; have hrl5 := hrl4; clear hip hrk hrl4 ho4)
                | (refine step_append_rows (by rfl) (.tmp 32) (.tmp 42) 54 (by rfl) W0.heap.size 44 i0 _ 6 48 rksUnd hi0 hz0 hz1 hz2 rfl (by decide) u6 rn (rowOf lkC H) (by rfl) (HR4.out _ HD4.out) v4 _ _ _ (by rfl) HRK.out (rowOf_one lkC_one _) (by unfold maxLen; omega) (by omega) (Nat.le_trans HO2.out.size HO4.out.size) ?_; intro v7 w7 hown7 hgr7 hat7; have HO7 : Hid (Only [] w2 w7) := HO4.out.grown hgr7 (fun k hk => Or.inr (HFB.out k hk)); have HR7 : Hid (Rks w7 W0.heap.size v7 (H ++ runsP l N G O ps)) := (by show Rks _ _ _ _; unfold Rks; rw [rowOf_append, List.length_append, HRN.out]; exact hown7); have HG7 : Hid (∀ b, v7.ownBlock = some b → w2.heap.size ≤ b) := (fun b hb => by rcases hat7 with e | e; exact HFB.out b (e.symm.trans hb); rw [e] at hb; cases hb; exact HO4.out.size); have HS7 : Hid (w7.cell? ⟨gH, j * 2, none⟩ = some (.int .i64 N) ∧ w7.cell? ⟨gH, j * 2 + 1, none⟩ = some (.int .i64 G) ∧ w7.cell? ⟨gO, q, none⟩ = some (.int .i64 O)) := HS3.out w7 HO7.out; clear hown7 hgr7 hat7))
            go_wp2
            go_roundw
            case rel => exact ⟨q + 1, _, by go_num, by omega, HR7.out, HHI.out.step HOK.out HS2.out.1 HOO.out HIP.out HRL.out, HO7.out, HG7.out⟩
            case measure => simp [intOf]; omega
          · obtain rfl : q = m := by omega
            have hq2 : decide ((q : Int) < q) = false := decide_eq_false (by omega)
            go_wp2
            go_meet
            exact ⟨H, HRH.out, HHI.out, HOQ.out, HFB.out⟩
      case rest =>
        obtain ⟨H0, hRH, hHI, hoq, hfb⟩ := hcut
        obtain ⟨ad6, cp6, rfl, _⟩ := row_form hRH
        have HRH : Hid (Rks wc W0.heap.size (.slice ad6 H0.length cp6) H0) := hRH
        have HHI : Hid (HereInv l N G os os.length H0) := by rw [HM.out]; exact hHI
        have HOC : Hid (Only [] w2 wc) := hoq
        have HFB : Hid (∀ b, (Value.slice ad6 H0.length cp6).ownBlock = some b → w2.heap.size ≤ b) := hfb
        have HZ : Hid (H0.length ≤ 20100) := by show _ ≤ _; have := hHI.len; omega
        clear hRH hHI hoq hfb
        generalize wc = wt at HRH HOC ⊢
        go_wp2_with fail
        go_loopw [3, 6, 9, 10, 11] (fun o hh _ _ _ wx => ∃ (H S : List Lk) (M : Nat), Rks wx w.heap.size o (D ++ S) ∧ Rks wx w.heap.size hh H ∧ SelInv H0 H S ∧ Only [] w1 wx ∧ (∀ k, o.ownBlock = some k → w1.heap.size ≤ k ∧ k < M) ∧ (∀ k, hh.ownBlock = some k → M ≤ k)) (fun _ hh _ _ _ _ => match hh with | .slice _ c _ => c | _ => 0)
        case atStart => exact ⟨H0, [], W0.heap.size, (by rw [List.append_nil]; exact HR.out.only (only_nil HO2.out HOC.out) (fun _ _ => by simp)), HRH.out.base (only_nil HO1.out HO.out).size, SelInv.start HHI.out.diff, only_nil HW2.out HOC.out, (fun k hk => ⟨HFR.out k hk, rks_lt HR.out hk⟩), (fun k hk => Nat.le_trans HO2.out.size (HFB.out k hk))⟩
        case round =>
          obtain ⟨H, S, M, hRo, hRh, hSel, hox, hob, hhb⟩ := hrel
          obtain ⟨ad6, cp6, rfl, had6, hc1, hc2⟩ := row_form hRh
          have HRO : Hid (Rks wr w.heap.size u3 (D ++ S)) := hRo
          have HRH3 : Hid (Rks wr w.heap.size (.slice ad6 H.length cp6) H) := hRh
          have HSEL : Hid (SelInv H0 H S) := hSel
          have HOX3 : Hid (Only [] w1 wr) := hox
          have HOB : Hid (∀ k, u3.ownBlock = some k → w1.heap.size ≤ k ∧ k < M) := hob
          have HHB : Hid (∀ k, (Value.slice ad6 H.length cp6).ownBlock = some k → M ≤ k) := hhb
          have HAD6 : Hid (H ≠ [] → ∃ g, ad6 = some ⟨g, 0, none⟩) := had6
          clear hRo hRh hSel hox hob hhb had6
          by_cases hne : H = []
          · subst hne
            go_wp2
            go_roundw
            case rel => exact ⟨j + 1, D ++ S, by go_num, by omega, HRO.out, HI.out.step HS1.out.1 HX.out (HHI.out.full HS2.out) HZ.out HSEL.out, HOX3.out, (fun k hk => (HOB.out k hk).1)⟩
            case measure => simp [intOf]; omega
          · obtain ⟨g6, rfl⟩ := HAD6.out hne
            have hpos : 0 < H.length := List.length_pos_iff.2 hne
            obtain ⟨c, hc⟩ : ∃ c, H.length = c := ⟨_, rfl⟩
            have HC : Hid (H.length = c) := hc
            rw [hc] at hc1 hpos HRH3 HHB ⊢
            have hposi : (0 : Int) < c := by omega
            unfold maxLen at hc2
            clear hc hne
            obtain ⟨W3, hW3⟩ : ∃ W3, wr = W3 := ⟨_, rfl⟩
            rw [hW3] at HRO HRH3 HOX3 ⊢
            clear hW3
            go_upto_block 6 with fail
            go_cut [9, 10] from 44 to 112 (fun b _ wx => ∃ q : Nat, b = .int .i64 q ∧ q < c ∧ (∀ (i : Nat) (y x : Lk), i < c → H[i]? = some y → H[q]? = some x → ¬ ltAO y x) ∧ Only [] W3 wx)
            case first =>
              go_wp2_with fail
              go_loopw [9, 10] (fun b k wx => ∃ (q r : Nat), b = .int .i64 q ∧ k = .int .i64 r ∧ q < c ∧ 1 ≤ r ∧ r ≤ c ∧ (∀ (i : Nat) (y x : Lk), i < r → H[i]? = some y → H[q]? = some x → ¬ ltAO y x) ∧ Only [] W3 wx) (fun _ k _ => c - (intOf k).toNat)
              case atStart => exact ⟨0, 1, rfl, rfl, hpos, Nat.le_refl _, hpos, best_start, Only.refl _ _⟩
              case round =>
                obtain ⟨q, r, rfl, rfl, hq, hr1, hrc, hmin, hox⟩ := hrel
                have HMIN : Hid (∀ (i : Nat) (y x : Lk), i < r → H[i]? = some y → H[q]? = some x → ¬ ltAO y x) := hmin
                have HOX : Hid (Only [] W3 wr) := hox
                clear hmin hox
                by_cases hrm : r < c
                · obtain ⟨y, hy⟩ : ∃ y, H[r]? = some y := ⟨_, List.getElem?_eq_getElem (by rw [HC.out]; exact hrm)⟩
                  obtain ⟨x, hx⟩ : ∃ x, H[q]? = some x := ⟨_, List.getElem?_eq_getElem (by rw [HC.out]; exact hq)⟩
                  obtain ⟨_, _, y2, y3, _, _⟩ := rk_cells (HRH3.out.only HOX.out (fun _ _ => by simp)) HC.out hy
                  obtain ⟨_, _, x2, x3, _, _⟩ := rk_cells (HRH3.out.only HOX.out (fun _ _ => by simp)) HC.out hx
                  have HY : Hid (H[r]? = some y) := hy
                  have HX : Hid (H[q]? = some x) := hx
                  have hri : (r : Int) < c := by omega
                  have hqi : (q : Int) < c := by omega
                  clear hy hx
                  by_cases h1 : y.A < x.A
                  · have d1 : decide (y.A < x.A) = true := decide_eq_true h1
                    have HLT : Hid (ltAO y x) := by show ltAO y x; unfold ltAO; omega
                    clear h1
                    go_wp2
                    go_big_quiet (fail)
                    go_wp2
                    go_roundw
                    case rel => exact ⟨r, r + 1, rfl, by go_num, by omega, by omega, by omega, best_new HMIN.out HX.out HY.out HLT.out, HOX.out.drewsN _⟩
                    case measure => simp [intOf]; omega
                  · have d1 : decide (y.A < x.A) = false := decide_eq_false h1
                    by_cases h2 : y.A = x.A
                    · have d2 : (y.A == x.A) = true := beq_iff_eq.2 h2
                      by_cases h3 : y.O < x.O
                      · have d3 : decide (y.O < x.O) = true := decide_eq_true h3
                        have HLT : Hid (ltAO y x) := by show ltAO y x; unfold ltAO; omega
                        clear h1 h2 h3
                        go_wp2
                        go_big_quiet (fail)
                        go_wp2
                        go_roundw
                        case rel => exact ⟨r, r + 1, rfl, by go_num, by omega, by omega, by omega, best_new HMIN.out HX.out HY.out HLT.out, HOX.out.drewsN _⟩
                        case measure => simp [intOf]; omega
                      · have d3 : decide (y.O < x.O) = false := decide_eq_false h3
                        have HLT : Hid (¬ ltAO y x) := by show ¬ ltAO y x; unfold ltAO; omega
                        clear h1 h2 h3
                        go_wp2
                        go_big_quiet (fail)
                        go_wp2
                        go_roundw
                        case rel => exact ⟨q, r + 1, rfl, by go_num, by omega, by omega, by omega, best_old HMIN.out HX.out HY.out HLT.out, HOX.out.drewsN _⟩
                        case measure => simp [intOf]; omega
                    · have d2 : (y.A == x.A) = false := beq_eq_false_iff_ne.2 h2
                      have HLT : Hid (¬ ltAO y x) := by show ¬ ltAO y x; unfold ltAO; omega
                      clear h1 h2
                      go_wp2
                      go_big_quiet (fail)
                      go_wp2
                      go_roundw
                      case rel => exact ⟨q, r + 1, rfl, by go_num, by omega, by omega, by omega, best_old HMIN.out HX.out HY.out HLT.out, HOX.out.drewsN _⟩
                      case measure => simp [intOf]; omega
                · obtain rfl : r = c := by omega
                  have hq2 : decide ((r : Int) < r) = false := decide_eq_false (by omega)
                  go_wp2
                  go_meet
                  exact ⟨q, rfl, hq, HMIN.out, HOX.out⟩
            case rest =>
              obtain ⟨q, rfl, hq, hmin, hoc⟩ := hcut
              obtain ⟨x, hx⟩ : ∃ x, H[q]? = some x := ⟨_, List.getElem?_eq_getElem (by rw [HC.out]; exact hq)⟩
              have HX2 : Hid (H[q]? = some x) := hx
              have HSN : Hid (SelInv H0 (H.take q ++ H.drop (q + 1)) (S ++ [x])) := HSEL.out.step hx (fun k y hy => hmin k y x (by have := (List.getElem?_eq_some_iff.1 hy).1; have := HC.out; omega) hy hx)
              have HO5 : Hid (Only [] W3 wc) := hoc
              clear hmin hoc hx
              generalize wc = W4 at HO5 ⊢
              have HRH4 : Hid (Rks W4 w.heap.size (.slice (some ⟨g6, 0, none⟩) c cp6) H) := HRH3.out.only HO5.out (fun _ _ => by simp)
              have HW4 : Hid (Only [] w1 W4) := only_nil HOX3.out HO5.out
              have HBW : Hid (w.heap.size ≤ W4.heap.size) := Nat.le_trans HO1.out.size HW4.out.size
              obtain ⟨dn, hdn⟩ : ∃ dn, (D ++ S).length = dn := ⟨_, rfl⟩
              have HDN : Hid ((D ++ S).length = dn) := hdn
              have hdb : dn ≤ 2010000 := by
                have h1 := HI.out.len
                have h2 := HSEL.out.perm.length_eq
                have h3 := HZ.out
                rw [List.length_append] at h2 hdn
                omega
              have HRO4 : Hid (W4.ownsRow w.heap.size 44 6 u3 dn (rowOf lkC (D ++ S))) := by
                show W4.ownsRow _ _ _ _ _ _
                have hh := HRO.out.only HO5.out (fun _ _ => by simp)
                unfold Rks at hh
                rw [HDN.out] at hh
                exact hh
              have hcb : c ≤ 20100 := by
                have h2 := HSEL.out.perm.length_eq
                have h3 := HZ.out
                have h4 := HC.out
                rw [List.length_append] at h2
                omega
              have HNW : Hid (∀ (r : Nat) (u : Value), (lkC x)[r]? = some u → (W4.alloc (.cells #[.int .i64 x.N, .int .i64 x.G, .int .i64 x.O, .int .i64 x.A, .int .i64 x.S, .bool x.W] 44)).cell? ((⟨W4.heap.size, 0, none⟩ : Addr).add r) = some u) := World.news_of_block (w := W4.alloc (.cells #[.int .i64 x.N, .int .i64 x.G, .int .i64 x.O, .int .i64 x.A, .int .i64 x.S, .bool x.W] 44)) (heap_alloc_last W4 _)
              have HB2 : Hid (w.heap.size ≤ (W4.alloc (.cells #[.int .i64 x.N, .int .i64 x.G, .int .i64 x.O, .int .i64 x.A, .int .i64 x.S, .bool x.W] 44)).heap.size) := by show w.heap.size ≤ _; rw [World.size_alloc]; have := HBW.out; omega
              obtain ⟨ad, had, hadr⟩ : ∃ ad : Addr, (if cp6 = q + 1 then some (⟨g6, 0, none⟩ : Addr) else some ⟨g6, (q + 1) * 6, none⟩) = some ad ∧ ((H.drop (q + 1)).length = 0 ∨ ad = ⟨g6, (q + 1) * 6, none⟩) := by
                by_cases hcq : cp6 = q + 1
                · exact ⟨_, if_pos hcq, Or.inl (by rw [List.length_drop, HC.out]; omega)⟩
                · exact ⟨_, if_neg hcq, Or.inr rfl⟩
              have HADR : Hid ((H.drop (q + 1)).length = 0 ∨ ad = ⟨g6, (q + 1) * 6, none⟩) := hadr
              have HL5 : Hid ((rowOf lkC (H.take q)).length = q * 6) := by show (rowOf lkC (H.take q)).length = q * 6; rw [rowOf_len lkC_len', List.length_take, HC.out]; congr 1; omega
              have HL6 : Hid ((rowOf lkC (H.drop (q + 1))).length = (c - (q + 1)) * 6) := by show (rowOf lkC (H.drop (q + 1))).length = (c - (q + 1)) * 6; rw [rowOf_len lkC_len', List.length_drop, HC.out]
              have HLN : Hid ((H.take q ++ H.drop (q + 1)).length = q + (c - (q + 1))) := by show _ = _; rw [List.length_append, List.length_take, List.length_drop, HC.out]; omega
              have e2 : (q : Int) ≤ (c : Int) := by omega
              have e3 : (q : Int) < (c : Int) := by omega
              have e4 : (q : Int) ≤ (cp6 : Int) := by omega
              have e5 : (q : Int) + 1 ≤ (c : Int) := by omega
              have e6 : (q : Int) + 1 ≤ (cp6 : Int) := by omega
              obtain ⟨b0, b1, b2, b3, b4, b5⟩ := rk_cells HRH4.out HC.out HX2.out
              clear hadr hdn
              go_wp2_with (first
                | (at_builtin; refine wpList_append_lies _ rfl (.tmp 95) (.tmp 100) 54 rfl w.heap.size 44 i0 _ 6 48 rksUnd hi0 hz0 hz1 hz2 rfl (by decide) u3 dn (rowOf lkC (D ++ S)) rfl (World.ownsRow.alloc HRO4.out _) ⟨W4.heap.size, 0, none⟩ 1 1 (lkC x) rfl rfl HNW.out (lkC_one _) (by decide) (by unfold maxLen; omega) (by omega) HB2.out (W4.heap.size + 1) (by simp) ?_; intro g5 c5 w5 hown5 hgr5 hat5 hlt5; have HR5 : Hid (Rks w5 w.heap.size (.slice (some ⟨g5, 0, none⟩) (dn + 1) c5) (D ++ (S ++ [x]))) := (by show Rks _ _ _ _; rw [← List.append_assoc]; exact rks_snoc HDN.out hown5); have HRH5 : Hid (Rks w5 w.heap.size (.slice (some ⟨g6, 0, none⟩) c cp6) H) := HRH4.out.only (((Only.refl u3.ownBlock.toList W4).alloc _).grown hgr5 (fun k hk => Or.inl (by rw [hk]; simp))) (fun k hk hm => by have h1 := HHB.out k hk; cases hu : u3.ownBlock with | none => rw [hu] at hm; cases hm | some k2 => (rw [hu] at hm; simp at hm; have := (HOB.out k2 hu).2; omega)); have HW5 : Hid (Only [] w1 w5) := (HW4.out.alloc _).grown hgr5 (fun k hk => Or.inr (HOB.out k hk).1); have HG5 : Hid (w1.heap.size ≤ g5 ∧ g5 < w5.heap.size) := ⟨(by rcases hat5 with e | e; exact (HOB.out g5 e).1; have := HW4.out.size; omega), hlt5⟩; have HB5 : Hid (w.heap.size ≤ w5.heap.size) := Nat.le_trans HO1.out.size HW5.out.size; clear hown5 hgr5 hat5 hlt5 b0 b1 b2 b3 b4 b5)
                | (at_builtin; refine wpList_append_own_at _ rfl (.tmp 102) (.tmp 105) 54 rfl w.heap.size 44 i0 _ 6 48 rksUnd hi0 hz0 hz1 hz2 rfl (by decide) _ 0 [] rfl (World.ownsRow_nil _ _ _ _) ⟨g6, 0, none⟩ q cp6 (rowOf lkC (H.take q)) rfl HL5.out (rks_take HRH5.out HC.out q) (rowOf_one lkC_one _) (by unfold maxLen; omega) (by omega) HB5.out ?_; intro v6 w6 hown6 hgr6 _ hat6; have HO6 : Hid (Only [] w5 w6) := (Only.refl [] w5).grown hgr6 (fun k hk => by cases hk); have HV6 : Hid (w6.ownsRow w.heap.size 44 6 v6 q (rowOf lkC (H.take q))) := (by have hh := hown6; rw [Nat.zero_add, List.nil_append] at hh; exact hh); have HF6 : Hid (∀ k, v6.ownBlock = some k → w5.heap.size ≤ k) := (fun k hk => by rcases hat6 with e | e; rw [e] at hk; cases hk; rw [e] at hk; cases hk; exact Nat.le_refl _); clear hown6 hgr6 hat6)
                | (at_builtin; refine wpList_append_own_at _ rfl (.tmp 107) (.tmp 111) 54 rfl w.heap.size 44 i0 _ 6 48 rksUnd hi0 hz0 hz1 hz2 rfl (by decide) v6 q (rowOf lkC (H.take q)) rfl HV6.out ad (c - (q + 1)) _ (rowOf lkC (H.drop (q + 1))) rfl HL6.out (rks_drop (HRH5.out.only HO6.out (fun _ _ => by simp)) HC.out (q + 1) ad HADR.out) (rowOf_one lkC_one _) (by unfold maxLen; omega) (by omega) (Nat.le_trans HB5.out HO6.out.size) ?_; intro v7 w7 hown7 hgr7 _ hat7; have HO7 : Hid (Only [] w5 w7) := HO6.out.grown hgr7 (fun k hk => Or.inr (HF6.out k hk)); have HV7 : Hid (Rks w7 w.heap.size v7 (H.take q ++ H.drop (q + 1))) := (by show Rks _ _ _ _; unfold Rks; rw [HLN.out, rowOf_append]; exact hown7); have HF7 : Hid (∀ k, v7.ownBlock = some k → w5.heap.size ≤ k) := (fun k hk => by rcases hat7 with e | e; exact HF6.out k (e.symm.trans hk); rw [e] at hk; cases hk; exact HO6.out.size); clear hown7 hgr7 hat7)
                | go_in)
              obtain ⟨ad7, cp7, rfl, _⟩ := row_form HV7.out
              go_roundw
              case rel => exact ⟨_, S ++ [x], w5.heap.size, HR5.out.only HO7.out (fun _ _ => by simp), HV7.out, HSN.out, only_nil HW5.out HO7.out, (fun k hk => by obtain rfl : g5 = k := Option.some.inj hk; exact HG5.out), HF7.out⟩
              case measure => show (H.take q ++ H.drop (q + 1)).length < c; rw [HLN.out]; omega
    · obtain rfl : j = n := by omega
      have HE : Hid (OutInv l hs hs.length D) := by rw [HN.out]; exact HI.out
      have hj2 : decide ((j : Int) < j) = false := decide_eq_false (by omega)
      go_wp2
      go_ret
      exact ⟨_, D, rfl, HR.out, HE.out.full HS1.out, (by have := HE.out.len; have := HL1.out; omega), only_nil HO1.out HO.out⟩
end Go.Proofs.YtfnniphemlnanaaDoor
