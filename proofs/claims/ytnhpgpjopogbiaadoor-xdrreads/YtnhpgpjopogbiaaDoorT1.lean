/- XdrTwice: the walk. -/
import Derived.Test.YtnhpgpjopogbiaaDoorT2
namespace Go.Proofs.YtnhpgpjopogbiaaDoor
open Go Go.RowKit Go.Deep

theorem Tryd.infoPut : (Tryd.prog.info? 42).map (fun i => (i.zero, i.size, i.bytes)) = some (some (.agg #[.string ⟨#[]⟩, .int .i64 0, .string ⟨#[]⟩]), 3, 40) := by kernel_rfl

/-- What holds at a round's head of the first loop: W1 the writer's block; 'done' were written: t. -/
structure Inv1 (w : World) (W1 : Nat) (wr : World) (v : Value) (done : List PutM) (t : ByteArray) : Prop where
  cell : wr.cell? ⟨W1, 0, none⟩ = some (.string t)
  free : wr.frozen? ⟨W1, 0, none⟩ = false
  owns : wr.ownsRow (W1 + 1) 42 3 v done.length (cellsOf done)
  below : Below w.heap.size w wr
  first : w.heap.size ≤ W1
  size : t.size ≤ 4000
  all : t.data.toList = allOf done
  each : ∀ p ∈ done, (∃ y, encP p = some y) ∧ p.S.size ≤ 5000 ∧ p.N < 9223372036854775808

theorem Inv1.lt {w wr : World} {W1 : Nat} {v : Value} {done : List PutM} {t : ByteArray} (h : Inv1 w W1 wr v done t) : W1 < wr.heap.size := lt_of_cell h.cell

/-- Behind a write that went well, and the append. -/
theorem Inv1.step {w wr w2 w3 : World} {W1 : Nat} {v v' : Value} {done : List PutM} {t y : ByteArray} {p : PutM} {o : Obj} (h : Inv1 w W1 wr v done t) (hp : encP p = some y) (hs : p.S.size ≤ 5000) (hn : p.N < 9223372036854775808) (hr : y.size + t.size ≤ 4000)
    (hb : Below wr.heap.size (wr.setCell ⟨W1, 0, none⟩ (.string (t ++ y))) w2)
    (ho : w3.ownsRow (W1 + 1) 42 3 v' (done.length + 1) (cellsOf done ++ cellsP p)) (hg : (w2.alloc o).grownBy w3 v.ownBlock) : Inv1 w W1 w3 v' (done ++ [p]) (t ++ y) := by
  have hlt := h.lt
  have hsz : wr.heap.size ≤ w2.heap.size := by simpa [World.setCell] using hb.size
  have b1 : Below (W1 + 1) w2 w3 := ((Below.refl _ _).alloc (by omega) o).grown hg (by simp; omega) (fun k hk => ((put_owns hb h.owns (by simp)).lt k hk).1)
  have c1 : w3.cell? ⟨W1, 0, none⟩ = some (.string (t ++ y)) := (b1.cell (p := ⟨W1, 0, none⟩) (by simp)).trans (put_cell hb h.cell)
  have f1 : w3.frozen? ⟨W1, 0, none⟩ = false := (b1.frozen (p := ⟨W1, 0, none⟩) (by simp)).trans ((put_frozen hb h.cell).trans h.free)
  refine ⟨c1, f1, ?_, ?_, h.first, ?_, ?_, ?_⟩
  · rw [cellsOf_snoc, List.length_append]; exact ho
  · exact h.below.trans ((put_below hb h.first (by have := h.below.size; omega)).trans (b1.mono (by have := h.first; omega)))
  · rw [ByteArray.size_append]; omega
  · rw [allOf_snoc _ _ _ hp, ← h.all]; simp
  · intro q hq
    rcases List.mem_append.1 hq with h1 | h1
    · exact h.each q h1
    · rw [List.mem_singleton.1 h1]; exact ⟨⟨y, hp⟩, hs, hn⟩

/-- A Put's cells behind a write. -/
theorem puts_kept {w wr w2 : World} {W1 : Nat} {ab ao j : Nat} {u x : Value} (hw : w.heap.size ≤ W1) (hl : w.cell? ⟨ab, ao, none⟩ = some x) (hb : Below w.heap.size w wr) (h2 : Below wr.heap.size (wr.setCell ⟨W1, j, none⟩ u) w2) : w2.cell? ⟨ab, ao, none⟩ = some x := by
  have hlt : ab < w.heap.size := lt_of_cell hl
  have : Below w.heap.size wr w2 := put_below h2 hw hb.size
  exact (this.cell (p := ⟨ab, ao, none⟩) hlt).trans ((hb.cell (p := ⟨ab, ao, none⟩) hlt).trans hl)

theorem put_cells_new (w : World) (p : PutM) (T : TypeId) : ∀ i u, (cellsP p)[i]? = some u → (w.alloc (.cells #[.string p.K, .int .i64 p.N, .string p.S] T)).cell? ((⟨w.heap.size, 0, none⟩ : Addr).add i) = some u := by
  intro i u h
  rw [addr_head, World.cell?_alloc_new, ← h]
  simp [cellsP]
theorem put_cells_one (p : PutM) : ∀ u ∈ cellsP p, u.oneCell' = true := by
  intro u hu
  simp only [cellsP, List.mem_cons, List.not_mem_nil, or_false] at hu
  rcases hu with rfl | rfl | rfl <;> rfl

set_option maxRecDepth 100000 in
set_option maxHeartbeats 8000000 in
theorem twice_walk (ab ao len cap : Nat) (P : Nat → PutM) (T : TypeId) (e0 e1 e8 : Value) (w : World) (hp : PutsAt w ab ao len P) (hlen : len ≤ 60) (hN : ∀ i, i < len → (P i).N < 9223372036854775808)
    (hE0 : w.cell? ⟨0, 0, none⟩ = some (.iface T e0)) (hE1 : w.cell? ⟨1, 0, none⟩ = some (.iface T e1)) (hE8 : w.cell? ⟨8, 0, none⟩ = some (.iface T e8)) :
    Calls Tryd.prog 5 #[.slice (some ⟨ab, ao, none⟩) len cap] w fun e w' => e = .returned (.bool true) ∧ Below w.heap.size w w' := by
  obtain ⟨i0, hi, hz0, hz1, hz2⟩ := info_parts Tryd.infoPut
  go_enter Tryd.func5, Tryd.ntmps5
  go_wp2_with (go_at_call 13; refine (four_any _).mono ?_; rintro e w1 ⟨rfl, hb1⟩)
  go_loopw [5, 6] (fun v i wr => ∃ (j : Nat) (done : List PutM) (t : ByteArray), j ≤ len ∧ i = .int .i64 j ∧ done.length ≤ j ∧ Inv1 w w1.heap.size wr v done t) (fun _ i _ => len - (intOf i).toNat)
  case atStart => exact ⟨0, [], ⟨#[]⟩, Nat.zero_le _, rfl, Nat.le_refl _, by simp, by simp, World.ownsRow_nil _ _ _ _, hb1.alloc hb1.size _, hb1.size, by decide, rfl, fun p hp => by simp at hp⟩
  case round =>
    obtain ⟨j, done, t, hj, rfl, hdl, I⟩ := hrel
    have hlt1 := I.lt
    have hc := I.cell
    have hf := I.free
    have ht := I.size
    have q1 : wr.cell? ⟨1, 0, none⟩ = some (.iface T e1) := (I.below.cell (p := ⟨1, 0, none⟩) (lt_of_cell hE1)).trans hE1
    have q8 : wr.cell? ⟨8, 0, none⟩ = some (.iface T e8) := (I.below.cell (p := ⟨8, 0, none⟩) (lt_of_cell hE8)).trans hE8
    by_cases hlt : j < len
    · obtain ⟨h0, h1, h2⟩ := hp j hlt
      have g0 : wr.cell? ⟨ab, ao + j * 3, none⟩ = some (.string (P j).K) := (I.below.cell (p := ⟨ab, ao + j * 3, none⟩) (lt_of_cell h0)).trans h0
      have g1 : wr.cell? ⟨ab, ao + j * 3 + 1, none⟩ = some (.int .i64 (P j).N) := (I.below.cell (p := ⟨ab, ao + j * 3 + 1, none⟩) (lt_of_cell h1)).trans h1
      have g2 : wr.cell? ⟨ab, ao + j * 3 + 2, none⟩ = some (.string (P j).S) := (I.below.cell (p := ⟨ab, ao + j * 3 + 2, none⟩) (lt_of_cell h2)).trans h2
      have hNj := hN j hlt
      have H0 : Hid _ := h0
      have H1 : Hid _ := h1
      have H2 : Hid _ := h2
      clear h0 h1 h2
      go_wp2_with fail
      · go_ret
        exact ⟨rfl, I.below⟩
      · have hx : encP (P j) = encInt (P j).N := encP_int (by assumption)
        have HX : Hid _ := hx
        have hSj : (P j).S.size ≤ 5000 := by omega
        clear hx
        refine (int_put w1.heap.size t (P j).N _ _ _ hc hf ht q1 q8).mono ?_
        rintro e w2 (⟨y, hy, hr, rfl, hb⟩ | ⟨hy, rfl, rfl⟩ | ⟨y, hy, hr, rfl, rfl⟩)
        · have k0 := puts_kept I.first H0.out I.below hb
          have k1 := puts_kept I.first H1.out I.below hb
          have k2 := puts_kept I.first H2.out I.below hb
          have hy1 : Hid (encP (P j) = some y) := HX.out.trans hy
          have hown := (put_owns hb I.owns (by simp)).alloc (.cells #[.string (P j).K, .int .i64 (P j).N, .string (P j).S] 42)
          have hsz : wr.heap.size ≤ w2.heap.size := by simpa [World.setCell] using hb.size
          clear hy hc hf q1 q8 g0 g1 g2
          go_wp2_with (at_builtin; refine wpList_append_own _ rfl (.tmp 85) (.tmp 90) 37 rfl (w1.heap.size + 1) 42 i0 _ 3 40 Tryd.underlying37 hi hz0 hz1 hz2 rfl (by decide) _ done.length (cellsOf done) rfl hown ⟨w2.heap.size, 0, none⟩ 1 1 (cellsP (P j)) rfl rfl ?c1 ?c2 ?c3 ?c4 ?c5 ?_)
          case c1 => exact put_cells_new _ _ _
          case c2 => exact put_cells_one _
          case c3 => unfold maxLen; omega
          case c4 => omega
          case c5 => simp; omega
          · intro v' w3 ho hg _
            have I' := I.step hy1.out hSj hNj hr hb ho hg
            clear hown ho hg hb k0 k1 k2 I
            go_wp2
            go_roundw
            case rel => exact ⟨j + 1, done ++ [P j], t ++ y, by omega, by go_num, by simp; omega, I'⟩
            case measure => simp [intOf]; omega
        · go_wp2
          go_roundw
          case rel => exact ⟨j + 1, done, t, by omega, by go_num, by omega, I⟩
          case measure => simp [intOf]; omega
        · go_wp2
          go_roundw
          case rel => exact ⟨j + 1, done, t, by omega, by go_num, by omega, I⟩
          case measure => simp [intOf]; omega
      · have hx : encP (P j) = encLong (P j).N := encP_long (by assumption) (by assumption)
        have HX : Hid _ := hx
        have hSj : (P j).S.size ≤ 5000 := by omega
        clear hx
        refine (long_put w1.heap.size t (P j).N _ _ _ hc hf ht hNj q1 q8).mono ?_
        rintro e w2 (⟨y, hy, hr, rfl, hb⟩ | ⟨hy, rfl, rfl⟩ | ⟨y, hy, hr, rfl, rfl⟩)
        · have k0 := puts_kept I.first H0.out I.below hb
          have k1 := puts_kept I.first H1.out I.below hb
          have k2 := puts_kept I.first H2.out I.below hb
          have hy1 : Hid (encP (P j) = some y) := HX.out.trans hy
          have hown := (put_owns hb I.owns (by simp)).alloc (.cells #[.string (P j).K, .int .i64 (P j).N, .string (P j).S] 42)
          have hsz : wr.heap.size ≤ w2.heap.size := by simpa [World.setCell] using hb.size
          clear hy hc hf q1 q8 g0 g1 g2
          go_wp2_with (at_builtin; refine wpList_append_own _ rfl (.tmp 85) (.tmp 90) 37 rfl (w1.heap.size + 1) 42 i0 _ 3 40 Tryd.underlying37 hi hz0 hz1 hz2 rfl (by decide) _ done.length (cellsOf done) rfl hown ⟨w2.heap.size, 0, none⟩ 1 1 (cellsP (P j)) rfl rfl ?c1 ?c2 ?c3 ?c4 ?c5 ?_)
          case c1 => exact put_cells_new _ _ _
          case c2 => exact put_cells_one _
          case c3 => unfold maxLen; omega
          case c4 => omega
          case c5 => simp; omega
          · intro v' w3 ho hg _
            have I' := I.step hy1.out hSj hNj hr hb ho hg
            clear hown ho hg hb k0 k1 k2 I
            go_wp2
            go_roundw
            case rel => exact ⟨j + 1, done ++ [P j], t ++ y, by omega, by go_num, by simp; omega, I'⟩
            case measure => simp [intOf]; omega
        · go_wp2
          go_roundw
          case rel => exact ⟨j + 1, done, t, by omega, by go_num, by omega, I⟩
          case measure => simp [intOf]; omega
        · go_wp2
          go_roundw
          case rel => exact ⟨j + 1, done, t, by omega, by go_num, by omega, I⟩
          case measure => simp [intOf]; omega
      · have hx : encP (P j) = some (encBool (decide (0 < (P j).N))) := encP_bool (by assumption) (by assumption) (by assumption)
        have HX : Hid _ := hx
        have hSj : (P j).S.size ≤ 5000 := by omega
        clear hx
        refine (bool_put w1.heap.size t (decide (0 < (P j).N)) (.iface T e1) _ _ hc hf ht q8).mono ?_
        rintro e w2 (⟨y, hy, hr, rfl, hb⟩ | ⟨hy, rfl, rfl⟩ | ⟨y, hy, hr, rfl, rfl⟩)
        · have k0 := puts_kept I.first H0.out I.below hb
          have k1 := puts_kept I.first H1.out I.below hb
          have k2 := puts_kept I.first H2.out I.below hb
          have hy1 : Hid (encP (P j) = some y) := HX.out.trans hy
          have hown := (put_owns hb I.owns (by simp)).alloc (.cells #[.string (P j).K, .int .i64 (P j).N, .string (P j).S] 42)
          have hsz : wr.heap.size ≤ w2.heap.size := by simpa [World.setCell] using hb.size
          clear hy hc hf q1 q8 g0 g1 g2
          go_wp2_with (at_builtin; refine wpList_append_own _ rfl (.tmp 85) (.tmp 90) 37 rfl (w1.heap.size + 1) 42 i0 _ 3 40 Tryd.underlying37 hi hz0 hz1 hz2 rfl (by decide) _ done.length (cellsOf done) rfl hown ⟨w2.heap.size, 0, none⟩ 1 1 (cellsP (P j)) rfl rfl ?c1 ?c2 ?c3 ?c4 ?c5 ?_)
          case c1 => exact put_cells_new _ _ _
          case c2 => exact put_cells_one _
          case c3 => unfold maxLen; omega
          case c4 => omega
          case c5 => simp; omega
          · intro v' w3 ho hg _
            have I' := I.step hy1.out hSj hNj hr hb ho hg
            clear hown ho hg hb k0 k1 k2 I
            go_wp2
            go_roundw
            case rel => exact ⟨j + 1, done ++ [P j], t ++ y, by omega, by go_num, by simp; omega, I'⟩
            case measure => simp [intOf]; omega
        · go_wp2
          go_roundw
          case rel => exact ⟨j + 1, done, t, by omega, by go_num, by omega, I⟩
          case measure => simp [intOf]; omega
        · go_wp2
          go_roundw
          case rel => exact ⟨j + 1, done, t, by omega, by go_num, by omega, I⟩
          case measure => simp [intOf]; omega
      · have hx : encP (P j) = some (itemS (P j).S) := encP_bytes (by assumption) (by assumption) (by assumption)
        have HX : Hid _ := hx
        have hSj : (P j).S.size ≤ 5000 := by omega
        clear hx
        refine (bytes_put w1.heap.size t (P j).S (.iface T e1) _ _ hc hf ht hSj q8).mono ?_
        rintro e w2 (⟨y, hy, hr, rfl, hb⟩ | ⟨hy, rfl, rfl⟩ | ⟨y, hy, hr, rfl, rfl⟩)
        · have k0 := puts_kept I.first H0.out I.below hb
          have k1 := puts_kept I.first H1.out I.below hb
          have k2 := puts_kept I.first H2.out I.below hb
          have hy1 : Hid (encP (P j) = some y) := HX.out.trans hy
          have hown := (put_owns hb I.owns (by simp)).alloc (.cells #[.string (P j).K, .int .i64 (P j).N, .string (P j).S] 42)
          have hsz : wr.heap.size ≤ w2.heap.size := by simpa [World.setCell] using hb.size
          clear hy hc hf q1 q8 g0 g1 g2
          go_wp2_with (at_builtin; refine wpList_append_own _ rfl (.tmp 85) (.tmp 90) 37 rfl (w1.heap.size + 1) 42 i0 _ 3 40 Tryd.underlying37 hi hz0 hz1 hz2 rfl (by decide) _ done.length (cellsOf done) rfl hown ⟨w2.heap.size, 0, none⟩ 1 1 (cellsP (P j)) rfl rfl ?c1 ?c2 ?c3 ?c4 ?c5 ?_)
          case c1 => exact put_cells_new _ _ _
          case c2 => exact put_cells_one _
          case c3 => unfold maxLen; omega
          case c4 => omega
          case c5 => simp; omega
          · intro v' w3 ho hg _
            have I' := I.step hy1.out hSj hNj hr hb ho hg
            clear hown ho hg hb k0 k1 k2 I
            go_wp2
            go_roundw
            case rel => exact ⟨j + 1, done ++ [P j], t ++ y, by omega, by go_num, by simp; omega, I'⟩
            case measure => simp [intOf]; omega
        · go_wp2
          go_roundw
          case rel => exact ⟨j + 1, done, t, by omega, by go_num, by omega, I⟩
          case measure => simp [intOf]; omega
        · go_wp2
          go_roundw
          case rel => exact ⟨j + 1, done, t, by omega, by go_num, by omega, I⟩
          case measure => simp [intOf]; omega
    · have q0 : wr.cell? ⟨0, 0, none⟩ = some (.iface T e0) := (I.below.cell (p := ⟨0, 0, none⟩) (lt_of_cell hE0)).trans hE0
      obtain ⟨hol, ho⟩ := I.owns
      rcases ho with ⟨hv, hn⟩ | ⟨g, cp, cur, hv, hg, hh, hcap, hmx, hcs, hcur⟩
      · have hd : done = [] := List.length_eq_zero_iff.1 hn
        have ht0 : t = bs [] := data_inj (by rw [I.all, hd]; rfl)
        have Hb : Hid _ := I.below
        rw [ht0] at hc
        rw [hv]
        clear hol hn hv I hd
        clear ht0
        go_wp2_with (first
          | (go_at_call 21; refine (text_any w1.heap.size (bs []) _ hc).mono ?_; rintro e w2 ⟨rfl, rfl⟩)
          | (go_at_call 22; refine (newReader_any (bs []) _).mono ?_; rintro e w2 ⟨rfl, rfl⟩))
        refine wp_loop_rounds 1 ?_
        rw [rounds_succ]
        go_wp2_with (go_at_call 27; refine (rEnd_none wr.heap.size _ ?_).mono ?_; exact (by simp); rintro e w2 ⟨rfl, rfl⟩)
        go_ret
        exact ⟨rfl, Hb.out.alloc Hb.out.size _⟩
      · rw [hv] at I
        rw [hv]
        have OwnR := I.owns
        have Hall : Hid _ := I.all
        have Hb : Hid _ := I.below
        have Heach : Hid _ := I.each
        clear hol hv hh hcs hcur I
        go_wp2_with (first
          | (go_at_call 21; refine (text_any w1.heap.size t _ hc).mono ?_; rintro e w2 ⟨rfl, rfl⟩)
          | (go_at_call 22; refine (newReader_any t _).mono ?_; rintro e w2 ⟨rfl, rfl⟩))
        go_loopw [9] (fun i wx => ∃ (k : Nat) (t1 : ByteArray), k ≤ done.length ∧ i = .int .i64 k ∧ wx.cell? ⟨wr.heap.size, 0, none⟩ = some (.string t1) ∧ wx.frozen? ⟨wr.heap.size, 0, none⟩ = false ∧ Below wr.heap.size wr wx ∧ t1.data.toList = allOf (done.drop k) ∧ t1.size ≤ 4000) (fun i _ => done.length - (intOf i).toNat)
        case atStart => exact ⟨0, t, Nat.zero_le _, rfl, by simp, by simp, (Below.refl _ _).alloc (Nat.le_refl _) _, Hall.out, ht⟩
        case round =>
          clear hc hf q1 q8 hlt1 ht
          rename_i wo _ _ _ _ _ _
          obtain ⟨k, t1, hk, rfl, hcx, hfx, hbx, hdx, htx⟩ := hrel
          have Hdx : Hid _ := hdx
          clear hdx
          have hgl : g < wo.heap.size := (OwnR.lt g rfl).2
          by_cases hkl : k < done.length
          · obtain ⟨p, hpd⟩ : ∃ p, p = done[k] := ⟨_, rfl⟩
            obtain ⟨⟨y, hy⟩, hps, hpn⟩ := Heach.out p (by rw [hpd]; exact List.getElem_mem hkl)
            have Hy : Hid _ := hy
            have HD : Hid (t1.data.toList = y.data.toList ++ allOf (done.drop (k + 1))) := by
              rw [hpd] at hy
              exact Hdx.out.trans (allOf_drop done k hkl y hy)
            obtain ⟨x0, x1, x2⟩ := cellsOf_get done k hkl
            rw [← hpd] at x0 x1 x2
            have c0 : wr.cell? ⟨g, k * 3, none⟩ = some (.string p.K) := (hbx.cell (p := ⟨g, k * 3, none⟩) hgl).trans ((OwnR.cellAt (k * 3) (by omega)).trans x0)
            have c1 : wr.cell? ⟨g, k * 3 + 1, none⟩ = some (.int .i64 p.N) := (hbx.cell (p := ⟨g, k * 3 + 1, none⟩) hgl).trans ((OwnR.cellAt (k * 3 + 1) (by omega)).trans x1)
            have c2 : wr.cell? ⟨g, k * 3 + 2, none⟩ = some (.string p.S) := (hbx.cell (p := ⟨g, k * 3 + 2, none⟩) hgl).trans ((OwnR.cellAt (k * 3 + 2) (by omega)).trans x2)
            have haN : (⟨wo.heap.size, 0, none⟩ : Addr) ≠ ⟨g, k * 3 + 1, none⟩ := fun h => by have := congrArg Addr.block h; simp at this; omega
            have haS : (⟨wo.heap.size, 0, none⟩ : Addr) ≠ ⟨g, k * 3 + 2, none⟩ := fun h => by have := congrArg Addr.block h; simp at this; omega
            clear hpd hy x0 x1 x2
            cases hk0 : (p.K.toList == [105, 110, 116])
            · cases hk1 : (p.K.toList == [108, 111, 110, 103])
              · cases hk2 : (p.K.toList == [98, 111, 111, 108])
                · have HD2 : Hid (t1.data.toList = (itemS p.S).data.toList ++ allOf (done.drop (k + 1))) := (Option.some.inj ((encP_bytes hk0 hk1 hk2).symm.trans Hy.out)).symm ▸ HD.out
                  go_wp2_with (go_at_call 26; refine (back_bytes wo.heap.size t1 p.S _ _ hcx hfx htx hps HD2.out).mono ?_; rintro e w4 ⟨rfl, t2, ht2, rfl⟩; have m1 := (World.cell?_setCell_other wr _ ⟨g, k * 3 + 1, none⟩ (.string t2) haN).trans c1; have m2 := (World.cell?_setCell_other wr _ ⟨g, k * 3 + 2, none⟩ (.string t2) haS).trans c2; have HT : Hid _ := ht2; clear ht2)
                  have n1 := World.cell?_setCell_same wr ⟨wo.heap.size, 0, none⟩ (.string t2) hcx
                  go_roundw
                  case rel => exact ⟨k + 1, t2, by omega, by go_num, n1, (World.frozen?_setCell _ _ _ _).trans hfx, hbx.setCell (Nat.le_refl _) _, HT.out, by rw [← data_length, HT.out]; have := congrArg List.length HD.out; rw [List.length_append, data_length] at this; omega⟩
                  case measure => simp [intOf]; omega
                · have HD2 : Hid (t1.data.toList = (encBool (decide (0 < p.N))).data.toList ++ allOf (done.drop (k + 1))) := (Option.some.inj ((encP_bool hk0 hk1 hk2).symm.trans Hy.out)).symm ▸ HD.out
                  go_wp2_with (go_at_call 25; refine (back_bool wo.heap.size t1 (decide (0 < p.N)) _ _ hcx hfx htx HD2.out).mono ?_; rintro e w4 ⟨rfl, t2, ht2, rfl⟩; have m1 := (World.cell?_setCell_other wr _ ⟨g, k * 3 + 1, none⟩ (.string t2) haN).trans c1; have m2 := (World.cell?_setCell_other wr _ ⟨g, k * 3 + 2, none⟩ (.string t2) haS).trans c2; have HT : Hid _ := ht2; clear ht2)
                  have n1 := World.cell?_setCell_same wr ⟨wo.heap.size, 0, none⟩ (.string t2) hcx
                  go_roundw
                  case rel => exact ⟨k + 1, t2, by omega, by go_num, n1, (World.frozen?_setCell _ _ _ _).trans hfx, hbx.setCell (Nat.le_refl _) _, HT.out, by rw [← data_length, HT.out]; have := congrArg List.length HD.out; rw [List.length_append, data_length] at this; omega⟩
                  case measure => simp [intOf]; omega
              · have Hy2 : Hid _ := (encP_long hk0 hk1).symm.trans Hy.out
                go_wp2_with (go_at_call 24; refine (back_long wo.heap.size t1 y p.N _ _ hcx hfx htx hpn Hy2.out HD.out).mono ?_; rintro e w4 ⟨rfl, t2, ht2, rfl⟩; have m1 := (World.cell?_setCell_other wr _ ⟨g, k * 3 + 1, none⟩ (.string t2) haN).trans c1; have m2 := (World.cell?_setCell_other wr _ ⟨g, k * 3 + 2, none⟩ (.string t2) haS).trans c2; have HT : Hid _ := ht2; clear ht2)
                have n1 := World.cell?_setCell_same wr ⟨wo.heap.size, 0, none⟩ (.string t2) hcx
                go_roundw
                case rel => exact ⟨k + 1, t2, by omega, by go_num, n1, (World.frozen?_setCell _ _ _ _).trans hfx, hbx.setCell (Nat.le_refl _) _, HT.out, by rw [← data_length, HT.out]; have := congrArg List.length HD.out; rw [List.length_append, data_length] at this; omega⟩
                case measure => simp [intOf]; omega
            · have Hy2 : Hid _ := (encP_int hk0).symm.trans Hy.out
              go_wp2_with (go_at_call 23; refine (back_int wo.heap.size t1 y p.N _ _ hcx hfx htx Hy2.out HD.out).mono ?_; rintro e w4 ⟨rfl, t2, ht2, rfl⟩; have m1 := (World.cell?_setCell_other wr _ ⟨g, k * 3 + 1, none⟩ (.string t2) haN).trans c1; have m2 := (World.cell?_setCell_other wr _ ⟨g, k * 3 + 2, none⟩ (.string t2) haS).trans c2; have HT : Hid _ := ht2; clear ht2)
              have n1 := World.cell?_setCell_same wr ⟨wo.heap.size, 0, none⟩ (.string t2) hcx
              go_roundw
              case rel => exact ⟨k + 1, t2, by omega, by go_num, n1, (World.frozen?_setCell _ _ _ _).trans hfx, hbx.setCell (Nat.le_refl _) _, HT.out, by rw [← data_length, HT.out]; have := congrArg List.length HD.out; rw [List.length_append, data_length] at this; omega⟩
              case measure => simp [intOf]; omega
          · have ht2 : t1 = bs [] := data_inj (by rw [Hdx.out, List.drop_of_length_le (by omega)]; rfl)
            rw [ht2] at hcx
            clear ht2 htx
            go_wp2_with (go_at_call 27; refine (rEnd_none wo.heap.size _ hcx).mono ?_; rintro e w4 ⟨rfl, rfl⟩)
            go_ret
            exact ⟨rfl, Hb.out.trans (hbx.mono Hb.out.size)⟩
end Go.Proofs.YtnhpgpjopogbiaaDoor
