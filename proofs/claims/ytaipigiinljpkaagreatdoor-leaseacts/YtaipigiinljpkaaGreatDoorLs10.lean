/- Clients: List. -/
import Derived.Test.YtaipigiinljpkaaGreatDoorLs9
namespace Go.Proofs.YtaipigiinljpkaaGreatDoor
open Go Go.RowKit Go.Deep Go.Maps

def ListR (w w' : World) (l : List Cli) (e : Ending) : Prop :=
  ∃ v gs, e = .returned v ∧ Nums w' w.heap.size v gs ∧ gs.Pairwise (· < ·) ∧ (∀ x, x ∈ gs ↔ ∃ c ∈ l, 0 < c.a ∧ x = (c.a : Int)) ∧ Only [] w w'
set_option maxRecDepth 100000 in
set_option maxHeartbeats 4000000 in
theorem list_any (w : World) (t mb last : Nat) (l : List Cli) (h : LsAt w t mb last l) :
    Calls Tryz.prog 18 #[.pointer (some ⟨t, 0, none⟩)] w fun e w' => ListR w w' l e := by
  have ct := h.c1
  have htl := h.lt
  obtain ⟨w0, hrange, hrg0, hg0, hs0⟩ := h.own.range lawS undClis
  obtain ⟨i0, hi0, hz0, hz1, hz2⟩ := infoInt'
  have HO0 : Hid (Only [] w w0) := (Only.refl [] w).grown hg0 (fun k hk => by cases hk)
  have HRG : Hid (w0.ranges Tryz.prog 9 cliElem mb w.heap.size l.length (cliD l) (has (cliD l)) (Maps.size (cliD l))) := hrg0
  have H : Hid (CInv last l ∧ mb < w.heap.size ∧ w.heap.size + 1 ≤ w0.heap.size) := ⟨h.inv, h.mlt, by omega⟩
  clear hg0 hrg0 h hs0
  go_enter Tryz.func18, Tryz.ntmps18
  go_wp2
  clear hrange
  go_loopw [3] (fun lv wr => ∃ (left : Lit → Bool) (cnt : Nat) (xs : List Int), wr.ranges Tryz.prog 9 cliElem mb w.heap.size l.length (cliD l) left cnt ∧ Only [w.heap.size] w0 wr ∧ (∀ kl, left kl = true → has (cliD l) kl = true) ∧ Nums wr w0.heap.size lv xs ∧ xs.Nodup ∧ xs.length + cnt ≤ 12 ∧ ∀ x, x ∈ xs ↔ ∃ c ∈ l, left (.string c.s) = false ∧ 0 < c.a ∧ x = (c.a : Int))
    (fun _ wr => wr.rangeLeft mb w.heap.size)
  case atStart => exact ⟨_, _, [], HRG.out, Only.refl _ _, fun _ h => h, Nums.nil _ _, List.Pairwise.nil, by rw [size_cliD]; have := H.out.1.len; simpa using this, fun x => ⟨fun hx => (by cases hx), fun ⟨c, hc, hl, _⟩ => (by
    rw [has_cliD] at hl
    have hn : findC l c.s = none := by simpa using hl
    exact (findC_none hn c hc rfl).elim)⟩⟩
  case round =>
    obtain ⟨left, cnt, xs, hrg, hO, hleft, hnum, hnd, hlen, hmem⟩ := hrel
    go_wp2_with (first
      | (at_next; refine wpList_next_ranges _ rfl _ rfl 9 lawS cliElem (fun x => x) (fun x => x) (fun key _ _ => ⟨key, rfl⟩) (fun v _ _ => ⟨v, rfl⟩) mb w.heap.size l.length _ _ _ rfl hrg ?_ ?_)
      | go_in)
    · intro _ hl0
      have hsort := sort_ints wr w0.heap.size u3 xs hnum (by omega)
      have HM : Hid (∀ x, x ∈ xs ↔ ∃ c ∈ l, 0 < c.a ∧ x = (c.a : Int)) := fun x => by
        rw [hmem x]
        exact ⟨fun ⟨c, hc, _, h1⟩ => ⟨c, hc, h1⟩, fun ⟨c, hc, h1⟩ => ⟨c, hc, hl0 _, h1⟩⟩
      have HN : Hid (xs.Nodup ∧ Only [] w wr) := ⟨hnd, HO0.out.trans hO (fun k hk => Or.inr (by simp at hk; omega))⟩
      have HNM : Hid (Nums wr w0.heap.size u3 xs) := hnum
      clear hrg hO hleft hnum hnd hmem hl0
      go_wp2_with (go_at_call 32; refine hsort.mono ?_; rintro e w8 ⟨rfl, hN8, ho8⟩)
      go_ret
      refine ⟨u3, _, rfl, ⟨hN8.1, ?_⟩, sorted_rising HN.out.1, fun x => ?_, ?_⟩
      · rcases hN8.2 with e | ⟨g, cp, cur, h1, h2, h3⟩
        · exact Or.inl e
        · exact Or.inr ⟨g, cp, cur, h1, Nat.le_trans HO0.out.size h2, h3⟩
      · rw [(List.mergeSort_perm _ _).mem_iff]
        exact HM.out x
      · exact HN.out.2.trans ho8 (fun k hk => Or.inr (Nat.le_trans HO0.out.size (own_block HNM.out (by simpa using hk)).1))
    · intro x v kl yd yp w1 cnt1 hkey hlx hv hat hrg1 hlt hg1 hs1 hen
      obtain ⟨sx, rfl, rfl, _⟩ := WideMaps.string_of_keyOf Tryz.underlying9 hkey
      have hhas := hleft _ hlx
      rw [has_cliD] at hhas
      obtain ⟨c, he⟩ := Option.isSome_iff_exists.1 hhas
      obtain ⟨hcm, hcs⟩ := findC_mem he
      have hy := hat .nil
      rw [at_cliD, he] at hy
      simp only at hy
      subst hy
      obtain rfl := cliElem_inv hv
      unfold cvV at hen ⊢
      have hO1 : Only [w.heap.size] w0 w1 := hO.grown hg1 (fun k hk => by cases hk; exact Or.inl (by simp))
      have hcf := isconf_any (w1.alloc (.cells #[.int .i64 (c.a : Nat), .int .i64 (c.b : Nat), .int .i64 (c.g : Nat)] 61)) c.a c.b c.g
      have hrow1 : Nums w1 w0.heap.size u3 xs := by
        have hx : Only [w.heap.size] wr w1 := (Only.refl [w.heap.size] wr).grown hg1 (fun k hk => by cases hk; exact Or.inl (by simp))
        exact hnum.only hx (fun k hk => by have := (own_block hnum hk).1; have := H.out; simp; omega)
      have HR1 : Hid (w1.ranges Tryz.prog 9 cliElem mb w.heap.size l.length (cliD l) (fun z => left z && !z.sameKey (.string sx.data.toList)) cnt1) := hrg1
      have HRO : Hid (wr.ranges Tryz.prog 9 cliElem mb w.heap.size l.length (cliD l) left cnt) := hrg
      have HO1 : Hid (Only [w.heap.size] w0 w1) := hO1
      have HLF : Hid (∀ kl, left kl = true → has (cliD l) kl = true) := hleft
      have HRW : Hid (Nums w1 w0.heap.size u3 xs) := hrow1
      have HND : Hid (xs.Nodup) := hnd
      have HME : Hid (∀ x, x ∈ xs ↔ ∃ d ∈ l, left (.string d.s) = false ∧ 0 < d.a ∧ x = (d.a : Int)) := hmem
      have HLX : Hid (left (.string c.s) = true) := by show left _ = true; rw [hcs]; exact hlx
      have HCM : Hid (c ∈ l) := hcm
      have HLQ : Hid (∀ d ∈ l, (left (.string d.s) && !(Lit.string d.s).sameKey (.string sx.data.toList)) = false ↔ left (.string d.s) = false ∨ d.s = c.s) := fun d _ => by
        have hk : (Lit.string d.s).sameKey (.string sx.data.toList) = (d.s == c.s) := by rw [hcs]; rfl
        rw [hk]
        cases left (.string d.s) <;> simp
      clear hrg1 hrg hO1 hO hg1 hs1 hv hat hkey he hcm hcs hleft hlx hnum hnd hmem hrow1 hhas
      by_cases hp : 0 < c.a
      · rw [decide_eq_true hp] at hcf
        have HNX : Hid ((xs ++ [(c.a : Int)]).Nodup ∧ ∀ x, x ∈ xs ++ [(c.a : Int)] ↔ ∃ d ∈ l, (left (.string d.s) && !(Lit.string d.s).sameKey (.string sx.data.toList)) = false ∧ 0 < d.a ∧ x = (d.a : Int)) := by
          refine ⟨?_, fun x => ?_⟩
          · rw [List.nodup_append]
            refine ⟨HND.out, by simp, fun a ha b hb e => ?_⟩
            rw [List.mem_singleton.1 hb] at e
            obtain ⟨d, hd, h1, h2, h3⟩ := (HME.out a).1 ha
            by_cases es : d.s = c.s
            · rw [es, HLX.out] at h1; cases h1
            · have := ((H.out.1.one d c hd HCM.out es).1 h2).1
              omega
          · rw [List.mem_append, List.mem_singleton, HME.out x]
            constructor
            · rintro (⟨d, hd, h1, h2⟩ | rfl)
              · exact ⟨d, hd, (HLQ.out d hd).2 (Or.inl h1), h2⟩
              · exact ⟨c, HCM.out, (HLQ.out c HCM.out).2 (Or.inr rfl), hp, rfl⟩
            · rintro ⟨d, hd, h1, h2, h3⟩
              rcases (HLQ.out d hd).1 h1 with h4 | h4
              · exact Or.inl ⟨d, hd, h4, h2, h3⟩
              · obtain rfl := same_name H.out.1.nod hd HCM.out h4
                exact Or.inr h3
        obtain ⟨dn, hdn⟩ : ∃ dn, xs.length = dn := ⟨_, rfl⟩
        have HDN : Hid (xs.length = dn) := hdn
        rw [hdn] at hlen
        clear hdn
        go_wp2_with (first
          | (go_at_call 33; go_must (refine hcf.mono ?_); rintro e w3 ⟨rfl, ho3⟩; have hb3 := (ho3.block w1.heap.size (by simp) (by simp)).trans (heap_alloc_last w1 _); obtain ⟨⟨b0, b1, b2⟩, _, _, _⟩ := three_of hb3; have HO3 : Hid (Only [] w1 w3) := ((Only.refl [] w1).alloc _).trans ho3 (fun _ hk => by cases hk); have HROW : Hid (w3.ownsRow w0.heap.size 3 1 u3 dn (xs.map (Value.int .i64))) := Nums.own HDN.out (HRW.out.only HO3.out (fun _ _ => by simp)); clear ho3 hb3)
          | (at_builtin; refine wpList_append_lies _ rfl (.tmp 17) (.tmp 20) 44 rfl w0.heap.size 3 i0 _ 1 8 undInts hi0 hz0 hz1 hz2 rfl (by decide) u3 dn _ rfl (World.ownsRow.alloc HROW.out _) ⟨w3.heap.size, 0, none⟩ 1 1 [.int .i64 (c.a : Nat)] rfl rfl (one_news _ _) (by intro u hu; rw [List.mem_singleton.1 hu]; rfl) (by decide) (by unfold maxLen; omega) (by omega) (by rw [World.size_alloc]; have := HO1.out.size; have := HO3.out.size; omega) (w3.heap.size + 1) (by simp) ?_; intro g5 c5 w5 hown5 hgr5 hat5 hlt5; have HV5 : Hid (Nums w5 w0.heap.size (.slice (some ⟨g5, 0, none⟩) (dn + 1) c5) (xs ++ [(c.a : Int)])) := Nums.snoc HDN.out hown5; have HG5 : Hid ((w3.alloc (.cells #[.int .i64 (c.a : Nat)] 3)).grownBy w5 u3.ownBlock) := hgr5; clear hown5 hgr5 hat5 hlt5 b0 b1 b2)
          | go_in)
        have hne : ∀ k, k < w0.heap.size → some k ≠ u3.ownBlock := fun k hk e => by have := (own_block HRW.out e.symm).1; omega
        have hrg5 := ((HR1.out.kept (HO3.out.alloc (.cells #[.int .i64 (c.a : Nat)] 3)).toG (by simp) (by simp)).kept HG5.out (hne mb (by have := H.out; omega)) (hne w.heap.size (by have := H.out; omega)))
        go_roundw
        case rel => exact ⟨_, cnt1, _, hrg5, ((HO1.out.trans HO3.out (fun _ hk => by cases hk)).alloc _).grown HG5.out (fun k hk => Or.inr (own_block HRW.out hk).1), fun kl h => HLF.out kl (by simp at h; exact h.1), HV5.out, HNX.out.1, by rw [List.length_append, HDN.out]; show dn + 1 + cnt1 ≤ 12; omega, HNX.out.2⟩
        case measure => rw [hrg5.left_eq, HRO.out.left_eq]; exact hlt
      · rw [decide_eq_false hp] at hcf
        have HNX : Hid (∀ x, x ∈ xs ↔ ∃ d ∈ l, (left (.string d.s) && !(Lit.string d.s).sameKey (.string sx.data.toList)) = false ∧ 0 < d.a ∧ x = (d.a : Int)) := fun x => by
          rw [HME.out x]
          constructor
          · rintro ⟨d, hd, h1, h2⟩
            exact ⟨d, hd, (HLQ.out d hd).2 (Or.inl h1), h2⟩
          · rintro ⟨d, hd, h1, h2, h3⟩
            rcases (HLQ.out d hd).1 h1 with h4 | h4
            · exact ⟨d, hd, h4, h2, h3⟩
            · obtain rfl := same_name H.out.1.nod hd HCM.out h4
              exact (hp h2).elim
        go_wp2_with (go_at_call 33; go_must (refine hcf.mono ?_); rintro e w3 ⟨rfl, ho3⟩)
        have ho13 : Only [] w1 w3 := ((Only.refl [] w1).alloc _).trans ho3 (fun _ hk => by cases hk)
        have hrg3 := HR1.out.kept ho13.toG (by simp) (by simp)
        go_roundw
        case rel => exact ⟨_, cnt1, xs, hrg3, HO1.out.trans ho13 (fun _ hk => by cases hk), fun kl h => HLF.out kl (by simp at h; exact h.1), HRW.out.only ho13 (fun _ _ => by simp), HND.out, by omega, HNX.out⟩
        case measure => rw [hrg3.left_eq, HRO.out.left_eq]; exact hlt
end Go.Proofs.YtaipigiinljpkaaGreatDoor
