/- Clients: New, older, find. -/
import Derived.Test.YtaipigiinljpkaaGreatDoorLs2
namespace Go.Proofs.YtaipigiinljpkaaGreatDoor
open Go Go.RowKit Go.Deep Go.Maps

/-- What lies in a block of three. -/
theorem three_of {W : World} {b : Nat} {x y z : Value} {ty : TypeId} (h : W.heap[b]? = some (.cells #[x, y, z] ty (0, 0))) : (W.cell? ⟨b, 0, none⟩ = some x ∧ W.cell? ⟨b, 1, none⟩ = some y ∧ W.cell? ⟨b, 2, none⟩ = some z) ∧ W.frozen? ⟨b, 0, none⟩ = false ∧ W.frozen? ⟨b, 1, none⟩ = false ∧ W.frozen? ⟨b, 2, none⟩ = false :=
  ⟨⟨cell_of_row _ _ 0 _ _ _ h, cell_of_row _ _ 1 _ _ _ h, cell_of_row _ _ 2 _ _ _ h⟩, frozen_of_row _ _ _ _ _ h, frozen_of_row _ _ _ _ _ h, frozen_of_row _ _ _ _ _ h⟩
set_option maxHeartbeats 1000000 in
theorem older_any (w : World) (c : Cli) (n : Nat) (hn : n ≤ 1099511627776) (hg : c.g ≤ 1000) : Calls Tryz.prog 29 #[.agg #[.int .i64 (c.a : Nat), .int .i64 (c.b : Nat), .int .i64 (c.g : Nat)], .int .i64 (n : Nat)] w fun e w' => e = .returned (.agg #[.int .i64 (c.a : Nat), .int .i64 (c.b : Nat), .int .i64 (oldC n c : Nat)]) ∧ Only [] w w' := by
  have HI : Hid (∀ W, Calls Tryz.prog 33 #[.agg #[.int .i64 (c.a : Nat), .int .i64 (c.b : Nat), .int .i64 (c.g : Nat)]] W fun e w' => e = .returned (.bool (decide (0 < c.a))) ∧ Only [] W w') := fun W => isconf_any W _ _ _
  have hO : Only [] w ((w.alloc (.cells #[.int .i64 (c.a : Nat), .int .i64 (c.b : Nat), .int .i64 (c.g : Nat)] 61)).alloc (.cells #[.int .i64 0, .int .i64 0, .int .i64 0] 61)) := ((Only.refl [] w).alloc _).alloc _
  have hh0 := heap_alloc_last w (.cells #[.int .i64 (c.a : Nat), .int .i64 (c.b : Nat), .int .i64 (c.g : Nat)] 61)
  have hh1 := heap_alloc_last (w.alloc (.cells #[.int .i64 (c.a : Nat), .int .i64 (c.b : Nat), .int .i64 (c.g : Nat)] 61)) (.cells #[.int .i64 0, .int .i64 0, .int .i64 0] 61)
  have ho1 : Only [] (w.alloc (.cells #[.int .i64 (c.a : Nat), .int .i64 (c.b : Nat), .int .i64 (c.g : Nat)] 61)) ((w.alloc (.cells #[.int .i64 (c.a : Nat), .int .i64 (c.b : Nat), .int .i64 (c.g : Nat)] 61)).alloc (.cells #[.int .i64 0, .int .i64 0, .int .i64 0] 61)) := (Only.refl [] _).alloc _
  rw [World.size_alloc] at hh1
  have HB : Hid (∀ W, Only [] ((w.alloc (.cells #[.int .i64 (c.a : Nat), .int .i64 (c.b : Nat), .int .i64 (c.g : Nat)] 61)).alloc (.cells #[.int .i64 0, .int .i64 0, .int .i64 0] 61)) W → W.heap[w.heap.size]? = some (.cells #[.int .i64 (c.a : Nat), .int .i64 (c.b : Nat), .int .i64 (c.g : Nat)] 61 (0, 0)) ∧ W.heap[w.heap.size + 1]? = some (.cells #[.int .i64 0, .int .i64 0, .int .i64 0] 61 (0, 0)) ∧ Only [] w W) := fun W ho =>
    ⟨(ho.block _ (by simp; omega) (by simp)).trans ((ho1.block _ (by simp) (by simp)).trans hh0), (ho.block _ (by simp) (by simp)).trans hh1, hO.trans ho (fun _ hk => by cases hk)⟩
  clear hO hh0 hh1 ho1
  unfold oldC
  by_cases h0 : 0 < c.a
  · rw [if_pos h0]
    have hd : decide (0 < c.a) = true := decide_eq_true h0
    rw [hd] at HI
    clear hd
    go_enter Tryz.func29, Tryz.ntmps29
    go_wp2_with (go_at_call 33; go_must (refine (HI.out _).mono ?_); rintro e w2 ⟨rfl, ho2⟩; obtain ⟨b1, b2, o2⟩ := HB.out w2 ho2; obtain ⟨⟨c0, c1, c2⟩, _, _, f2⟩ := three_of b1; obtain ⟨⟨d0, d1, d2⟩, g0, g1, g2⟩ := three_of b2; have HO2 : Hid (Only [] w w2) := o2; clear o2 ho2 b1 b2)
    refine bodyPost_ret (v := .agg #[.int .i64 (c.a : Nat), .int .i64 (c.b : Nat), .int .i64 (c.g + n : Nat)]) (by simp [results, Tryz.results29, go_sem, d0, d1, d2]) rfl ⟨rfl, ?_⟩
    have hsz := HO2.out.size
    exact (((HO2.out.setCell (Or.inr (Nat.le_refl _)) _).setCell (Or.inr (Nat.le_succ _)) _).setCell (Or.inr (Nat.le_succ _)) _).setCell (Or.inr (Nat.le_succ _)) _
  · rw [if_neg h0]
    have hd : decide (0 < c.a) = false := decide_eq_false h0
    rw [hd] at HI
    clear hd
    go_enter Tryz.func29, Tryz.ntmps29
    go_wp2_with (go_at_call 33; go_must (refine (HI.out _).mono ?_); rintro e w2 ⟨rfl, ho2⟩; obtain ⟨b1, b2, o2⟩ := HB.out w2 ho2; obtain ⟨⟨c0, c1, c2⟩, _, _, f2⟩ := three_of b1; obtain ⟨⟨d0, d1, d2⟩, g0, g1, g2⟩ := three_of b2; have HO2 : Hid (Only [] w w2) := o2; clear o2 ho2 b1 b2)
    refine bodyPost_ret (v := .agg #[.int .i64 (c.a : Nat), .int .i64 (c.b : Nat), .int .i64 (c.g : Nat)]) (by simp [results, Tryz.results29, go_sem, d0, d1, d2]) rfl ⟨rfl, ?_⟩
    exact ((HO2.out.setCell (Or.inr (Nat.le_succ _)) _).setCell (Or.inr (Nat.le_succ _)) _).setCell (Or.inr (Nat.le_succ _)) _
set_option maxHeartbeats 2000000 in
theorem find_any (w : World) (t mb last : Nat) (l : List Cli) (id : Int) (h : LsAt w t mb last l) :
    Calls Tryz.prog 25 #[.pointer (some ⟨t, 0, none⟩), .int .i64 id] w fun e w' => ((∃ c ∈ l, hasB c id = true ∧ e = .returned (.tuple #[.string (bs c.s), .bool true])) ∨ ((∀ c ∈ l, hasB c id = false) ∧ e = .returned (.tuple #[.string ⟨#[]⟩, .bool false]))) ∧ Only [] w w' := by
  have ct := h.c1
  have htl := h.lt
  obtain ⟨w0, hrange, hrg0, hg0, _⟩ := h.own.range lawS undClis
  have HO0 : Hid (Only [] w w0) := (Only.refl [] w).grown hg0 (fun k hk => by cases hk)
  have HRG : Hid (w0.ranges Tryz.prog 9 cliElem mb w.heap.size l.length (cliD l) (has (cliD l)) (Maps.size (cliD l))) := hrg0
  have HN : Hid ((l.map (·.s)).Nodup) := h.inv.nod
  clear hg0 hrg0 h
  go_enter Tryz.func25, Tryz.ntmps25
  go_wp2
  clear hrange
  go_loopw [6, 7] (fun _ _ wr => ∃ (left : Lit → Bool) (cnt : Nat), wr.ranges Tryz.prog 9 cliElem mb w.heap.size l.length (cliD l) left cnt ∧ Only [] w wr ∧ (∀ kl, left kl = true → has (cliD l) kl = true) ∧ ∀ c ∈ l, left (.string c.s) = false → hasB c id = false)
    (fun _ _ wr => wr.rangeLeft mb w.heap.size)
  case atStart => exact ⟨_, _, HRG.out, HO0.out, fun _ h => h, fun c hc hl => by
    rw [has_cliD] at hl
    have hn : findC l c.s = none := by simpa using hl
    exact (findC_none hn c hc rfl).elim⟩
  case round =>
    obtain ⟨left, cnt, hrg, hO, hleft, hdone⟩ := hrel
    go_wp2_with (first
      | (at_next; refine wpList_next_ranges _ rfl _ rfl 9 lawS cliElem (fun x => x) (fun x => x) (fun key _ _ => ⟨key, rfl⟩) (fun v _ _ => ⟨v, rfl⟩) mb w.heap.size l.length _ _ _ rfl hrg ?_ ?_)
      | go_in)
    · intro _ hl0
      have HD : Hid ((∀ c ∈ l, hasB c id = false) ∧ Only [] w wr) := ⟨fun c hc => hdone c hc (hl0 _), hO⟩
      clear hrg hO hleft hdone hl0
      go_wp2
      go_ret2
      exact ⟨Or.inr ⟨HD.out.1, rfl⟩, HD.out.2⟩
    · intro x v kl yd yp w1 cnt1 hkey hlx hv hat hrg1 hlt hg1 hs1 hen
      obtain ⟨sx, rfl, rfl, _⟩ := WideMaps.string_of_keyOf Tryz.underlying9 hkey
      have hhas := hleft _ hlx
      rw [has_cliD] at hhas
      obtain ⟨c, he⟩ := Option.isSome_iff_exists.1 hhas
      obtain ⟨hcm, hcs⟩ := findC_mem he
      have hy := hat .nil
      rw [at_cliD, he] at hy
      simp only at hy
      subst hy
      obtain rfl := cliElem_inv hv
      unfold cvV at hen ⊢
      have hO1 : Only [] w w1 := hO.grown hg1 (fun k hk => by cases hk; exact Or.inr (Nat.le_refl _))
      have hhas := has_any (w1.alloc (.cells #[.int .i64 (c.a : Nat), .int .i64 (c.b : Nat), .int .i64 (c.g : Nat)] 61)) c id
      have HR1 : Hid (w1.ranges Tryz.prog 9 cliElem mb w.heap.size l.length (cliD l) (fun z => left z && !z.sameKey (.string sx.data.toList)) cnt1) := hrg1
      have HRO : Hid (wr.ranges Tryz.prog 9 cliElem mb w.heap.size l.length (cliD l) left cnt) := hrg
      have HO1 : Hid (Only [] w w1) := hO1
      have HLF : Hid (∀ kl, left kl = true → has (cliD l) kl = true) := hleft
      have HDN : Hid (∀ d ∈ l, left (.string d.s) = false → hasB d id = false) := hdone
      have HC : Hid (c ∈ l ∧ c.s = sx.data.toList ∧ ∀ d ∈ l, d.s = c.s → d = c) := ⟨hcm, hcs, fun d hd e => same_name HN.out hd hcm e⟩
      clear hrg1 hrg hO1 hO hg1 hs1 hv hat hkey he hcm hcs hleft hlx hdone
      cases hb : hasB c id with
      | true =>
        rw [hb] at hhas
        have HB : Hid (hasB c id = true) := hb
        clear hb
        go_wp2_with (go_at_call 37; go_must (refine hhas.mono ?_); rintro e' w2 ⟨rfl, ho2⟩)
        go_ret2
        exact ⟨Or.inl ⟨c, HC.out.1, HB.out, by rw [HC.out.2.1, bs_self]; rfl⟩, (HO1.out.alloc _).trans ho2 (fun _ hk => by cases hk)⟩
      | false =>
        rw [hb] at hhas
        have HB : Hid (hasB c id = false) := hb
        clear hb
        go_wp2_with (go_at_call 37; go_must (refine hhas.mono ?_); rintro e' w2 ⟨rfl, ho2⟩)
        have ho12 : Only [] w1 w2 := ((Only.refl [] w1).alloc _).trans ho2 (fun _ hk => by cases hk)
        have hrg2 := HR1.out.kept ho12.toG (by simp) (by simp)
        go_roundw
        case rel => exact ⟨_, cnt1, hrg2, HO1.out.trans ho12 (fun _ hk => by cases hk), fun kl h => HLF.out kl (by simp at h; exact h.1), fun d hd hl => by
          by_cases e : d.s = c.s
          · rw [HC.out.2.2 d hd e]
            exact HB.out
          · refine HDN.out d hd ?_
            have hk : (Lit.string d.s).sameKey (.string sx.data.toList) = false := by
              show (d.s == sx.data.toList) = false
              rw [← HC.out.2.1]
              simpa using e
            rw [hk] at hl
            simpa using hl⟩
        case measure => rw [hrg2.left_eq, HRO.out.left_eq]; exact hlt
end Go.Proofs.YtaipigiinljpkaaGreatDoor
