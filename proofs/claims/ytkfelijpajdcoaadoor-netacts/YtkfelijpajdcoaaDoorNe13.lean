/- A net: the document's Take, Twice, For. -/
import Derived.Test.YtkfelijpajdcoaaDoorNe12
import Derived.Test.YtkfelijpajdcoaaDoorM1
import Derived.Maps.AppendAt
namespace Go.Proofs.YtkfelijpajdcoaaDoor
open Go Go.RowKit Go.Deep

/-- The document's append. -/
theorem rappend (w : World) (base : Nat) (v : Value) (l1 l2 : List Msg) (h : Rms w base v l1) (a : Addr) (m c : Nat) (hm : l2.length = m) (hc : ∀ j u, (rowOf msC l2)[j]? = some u → w.cell? (a.add j) = some u) (h1 : l1.length ≤ 200) (h2 : l2.length ≤ 200) (hb : base ≤ w.heap.size) :
    ∃ v' w', (∀ ty, (Builtin.append_ #[29, 29] ty #[v, .slice (some a) m c]).run Tryd.prog w = .ok v' w') ∧ Rms w' base v' (l1 ++ l2) ∧ Only v.ownBlock.toList w w' ∧ (v'.ownBlock = v.ownBlock ∨ v'.ownBlock = some w.heap.size) := by
  subst hm
  obtain ⟨i0, hi0, hz0, hz1, hz2⟩ := rmInfo'
  obtain ⟨v', w', hr, hown, hgr, -, hat⟩ := run_append_own_at (P := Tryd.prog) (w := w) base 29 0 33 i0 _ 3 48 rmUnd hi0 hz0 hz1 hz2 rfl (by decide) v l1.length (rowOf msC l1) h a l2.length c (rowOf msC l2) (by rw [rowOf_len msC_len]) hc (rowOf_one msC_one _) (by unfold maxLen; omega) (by omega) hb
  refine ⟨v', w', fun ty => hr, ?_, (Only.refl _ w).grown hgr (fun k hk => Or.inl (by rw [hk]; simp)), hat⟩
  show w'.ownsRow _ _ _ _ _ _
  rw [List.length_append, rowOf_append]
  exact hown
theorem rcells {ty : TypeId} {w : World} {base g n cap : Nat} {l : List Msg} (h : RowM ty w base (.slice (some ⟨g, 0, none⟩) n cap) l) (hn : l.length = n) (i k : Nat) : ∀ j u, (rowOf msC ((l.drop i).take k))[j]? = some u → w.cell? ((⟨g, i * 3, none⟩ : Addr).add j) = some u := fun j u hu => by
  have hr := RowM.rows h hn (i * 3 + j) u (by
    rw [rowOf_take msC_len, rowOf_drop msC_len, List.getElem?_take] at hu
    split at hu
    · rw [List.getElem?_drop] at hu
      exact hu
    · cases hu)
  rw [add_none] at hr ⊢
  rw [Nat.zero_add] at hr
  exact hr
theorem dnet_open {w : World} {base t : Nat} {v : Value} {l : List Msg} {i : Nat} (h : DNet w base t v l) (hi : i < l.length) : ∃ g cap, v = .slice (some ⟨g, 0, none⟩) l.length cap ∧ g < w.heap.size ∧ l.length ≤ cap ∧ (cap : Int) ≤ 9223372036854775807 := by
  rcases RowM.open h.own with ⟨_, h2⟩ | ⟨g, cap, cur, h1, _, h3, _, h5, h6, _⟩
  · subst h2
    simp at hi
  · exact ⟨g, cap, h1, h3, h5, by unfold maxLen at h6; omega⟩
/-- What is behind a place, as a slice of it gives it. -/
theorem rest_at {w : World} {base g n cap i : Nat} {l : List Msg} (h : Rms w base (.slice (some ⟨g, 0, none⟩) n cap) l) (hn : l.length = n) : ∀ a : Addr, (i < n → a = ⟨g, i * 3, none⟩) → ∀ j u, (rowOf msC (l.drop i))[j]? = some u → w.cell? (a.add j) = some u := fun a ha j u hu => by
  by_cases hlt : i < n
  · rw [ha hlt]
    have := rcells h hn i (n - i) j u
    rw [List.take_of_length_le (by rw [List.length_drop]; omega)] at this
    exact this hu
  · rw [List.drop_of_length_le (by omega)] at hu
    cases hu
/-- A net whose list is another one now. -/
theorem DNet.stored {w w2 : World} {base t : Nat} {v v' : Value} {l l' : List Msg} (h : DNet w base t v l) (ho : Only [] w w2) (hm : Rms w2 base v' l') (hv : ∀ k, v'.ownBlock = some k → w.heap.size ≤ k) : w2.cell? ⟨t, 0, none⟩ = some v ∧ w2.frozen? ⟨t, 0, none⟩ = false ∧ t < w2.heap.size ∧ DNet (w2.setCell ⟨t, 0, none⟩ v') base t v' l' ∧ Only [t] w (w2.setCell ⟨t, 0, none⟩ v') := by
  have htl := (Array.getElem?_eq_some_iff.1 h.blk).1
  have hb' : w2.heap[t]? = some (.cells #[v] 31 (0, 0)) := (ho.block t htl (by simp)).trans h.blk
  have hos : Only [t] w2 (w2.setCell ⟨t, 0, none⟩ v') := (Only.refl [t] w2).setCell (Or.inl (by simp)) _
  have hvt : ∀ k, v'.ownBlock = some k → k ≠ t := fun k hk e => by have := hv k hk; omega
  exact ⟨cell_of_row _ _ 0 _ _ _ hb', frozen_of_row _ _ _ _ _ hb', (Array.getElem?_eq_some_iff.1 hb').1, ⟨heap_setCell_same w2 t 0 _ _ _ hb', RowM.only hm hos (fun k hk => by simpa using hvt k hk), hvt⟩, (ho.mono (fun _ hk => by cases hk)).trans hos (fun _ hk => Or.inl hk)⟩
set_option maxRecDepth 100000 in
set_option maxHeartbeats 4000000 in
theorem dtake_ok (w : World) (base t : Nat) (v : Value) (l : List Msg) (i : Nat) (x : Msg) (h : DNet w base t v l) (hx : l[i]? = some x) (hl : l.length ≤ 100) (hbs : base ≤ w.heap.size) : Calls Tryd.prog 10 #[.pointer (some ⟨t, 0, none⟩), .int .i64 i] w fun e w' => e = .returned (.tuple #[.agg #[.string x.F, .string x.T, .string x.X], .bool true]) ∧ ∃ v', DNet w' base t v' (l.take i ++ l.drop (i + 1)) ∧ Only [t] w w' := by
  have hil : i < l.length := (List.getElem?_eq_some_iff.1 hx).1
  obtain ⟨g, cap, rfl, hgl, hnc, hG63⟩ := dnet_open h hil
  obtain ⟨c0, c1, c2, -⟩ := RowM.cells h.own hx
  have cw := h.c0
  have htl := lt_of_cell cw
  have o4 : Only [] w ((w.alloc (.cells #[.string ⟨#[]⟩, .string ⟨#[]⟩, .string ⟨#[]⟩] 33)).alloc (.cells #[.string x.F, .string x.T, .string x.X] 33)) := ((Only.refl [] w).alloc _).alloc _
  have b1 := heap_alloc_last w (.cells #[.string ⟨#[]⟩, .string ⟨#[]⟩, .string ⟨#[]⟩] 33)
  have b2 := heap_alloc_last (w.alloc (.cells #[.string ⟨#[]⟩, .string ⟨#[]⟩, .string ⟨#[]⟩] 33)) (.cells #[.string x.F, .string x.T, .string x.X] 33)
  rw [World.size_alloc] at b2
  have b1' := MBox.kept (x := ⟨⟨#[]⟩, ⟨#[]⟩, ⟨#[]⟩⟩) b1 ((Only.refl [] _).alloc (.cells #[.string x.F, .string x.T, .string x.X] 33)) (by simp)
  have hs4 : (((w.alloc (.cells #[.string ⟨#[]⟩, .string ⟨#[]⟩, .string ⟨#[]⟩] 33)).alloc (.cells #[.string x.F, .string x.T, .string x.X] 33))).heap.size = w.heap.size + 2 := by rw [World.size_alloc, World.size_alloc]
  obtain ⟨w4, hw4⟩ : ∃ w4, ((w.alloc (.cells #[.string ⟨#[]⟩, .string ⟨#[]⟩, .string ⟨#[]⟩] 33)).alloc (.cells #[.string x.F, .string x.T, .string x.X] 33)) = w4 := ⟨_, rfl⟩
  rw [hw4] at o4 b1' b2 hs4
  have h4 := h.only o4 (by simp) (fun _ _ => by simp)
  obtain ⟨v1, w1, hr1, hm1, ho1, hat1⟩ := rappend w4 base (.slice none 0 0) [] (l.take i) (RowM.nil _ _ _) ⟨g, 0, none⟩ i cap (by rw [List.length_take]; omega) (by
    have := rcells h4.own rfl 0 i
    rw [List.drop_zero, Nat.zero_mul] at this
    exact this) (by simp) (by rw [List.length_take]; omega) (Nat.le_trans hbs o4.size)
  rw [List.nil_append] at hm1
  have ho1' : Only [] w4 w1 := ho1
  have h1 := h4.only ho1' (by simp) (fun _ _ => by simp)
  have hv1 : ∀ k, v1.ownBlock = some k → w.heap.size + 2 ≤ k := fun k hk => by
    rcases hat1 with e | e
    · rw [e] at hk; cases hk
    · rw [e] at hk; cases hk; omega
  have hv1n : ∀ k ∈ v1.ownBlock.toList, w.heap.size + 2 ≤ k := fun k hk => hv1 k (by simpa using hk)
  have key : ∀ a : Addr, (i + 1 < l.length → a = ⟨g, (i + 1) * 3, none⟩) → ∃ ad2 n2 c2 w2, (∀ ty, (Builtin.append_ #[29, 29] ty #[v1, .slice (some a) (l.length - (i + 1)) (cap - (i + 1))]).run Tryd.prog w1 = .ok (.slice ad2 n2 c2) w2) ∧ w2.cell? ⟨t, 0, none⟩ = some (.slice (some ⟨g, 0, none⟩) l.length cap) ∧ w2.frozen? ⟨t, 0, none⟩ = false ∧ t < w2.heap.size ∧ DNet (w2.setCell ⟨t, 0, none⟩ (.slice ad2 n2 c2)) base t (.slice ad2 n2 c2) (l.take i ++ l.drop (i + 1)) ∧ Only [t] w (w2.setCell ⟨t, 0, none⟩ (.slice ad2 n2 c2)) ∧ MBox 33 (w2.setCell ⟨t, 0, none⟩ (.slice ad2 n2 c2)) w.heap.size ⟨⟨#[]⟩, ⟨#[]⟩, ⟨#[]⟩⟩ ∧ MBox 33 (w2.setCell ⟨t, 0, none⟩ (.slice ad2 n2 c2)) (w.heap.size + 1) x ∧ ∀ k, (Value.slice ad2 n2 c2).ownBlock = some k → w.heap.size + 2 ≤ k := fun a ha => by
    obtain ⟨v2, w2, hr2, hm2, ho2, hat2⟩ := rappend w1 base v1 (l.take i) (l.drop (i + 1)) hm1 a (l.length - (i + 1)) (cap - (i + 1)) (by rw [List.length_drop]) (rest_at h1.own rfl a ha) (by rw [List.length_take]; omega) (by rw [List.length_drop]; omega) (Nat.le_trans hbs (Nat.le_trans o4.size ho1'.size))
    obtain ⟨ad2, n2, c2, rfl⟩ := RowM.form hm2
    have hv2 : ∀ k, (Value.slice ad2 n2 c2).ownBlock = some k → w.heap.size + 2 ≤ k := fun k hk => by
      rcases hat2 with e | e
      · rw [e] at hk; exact hv1 k hk
      · rw [e] at hk; cases hk; have := ho1'.size; omega
    have how : Only [] w w2 := (only_nil o4 ho1').trans ho2 (fun k hk => Or.inr (by have := hv1n k hk; omega))
    obtain ⟨r1, r2, r3, r4, r5⟩ := DNet.stored h how hm2 (fun k hk => by have := hv2 k hk; omega)
    have hk : ∀ b y, MBox 33 w4 b y → b < w.heap.size + 2 → b ≠ t → MBox 33 (w2.setCell ⟨t, 0, none⟩ (.slice ad2 n2 c2)) b y := fun b y hb hlt hne => ((hb.kept ho1' (by simp)).kept ho2 (fun hm => by have := hv1n b hm; omega)).kept ((Only.refl [t] w2).setCell (Or.inl (by simp)) _) (by simpa using hne)
    have htl' : t < w.heap.size := htl
    exact ⟨ad2, n2, c2, w2, hr2, r1, r2, r3, r4, r5, hk _ _ b1' (by omega) (by omega), hk _ x b2 (by omega) (by omega), hv2⟩
  have HW4 : Hid (((w.alloc (.cells #[.string ⟨#[]⟩, .string ⟨#[]⟩, .string ⟨#[]⟩] 33)).alloc (.cells #[.string x.F, .string x.T, .string x.X] 33)) = w4) := hw4
  have HT : Hid (t < w.heap.size) := htl
  have HC1 : Hid (w1.cell? ⟨t, 0, none⟩ = some (.slice (some ⟨g, 0, none⟩) l.length cap)) := h1.c0
  have HC4 : Hid (w4.cell? ⟨t, 0, none⟩ = some (.slice (some ⟨g, 0, none⟩) l.length cap)) := h4.c0
  have HL14 : Hid (w4.heap.size ≤ w1.heap.size) := ho1'.size
  have HS4 : Hid (w4.heap.size = w.heap.size + 2) := hs4
  obtain ⟨ad1, n1, cap1, rfl⟩ := RowM.form hm1
  obtain ⟨n, hn⟩ : ∃ n, l.length = n := ⟨_, rfl⟩
  rw [hn] at cw key hl hil hnc HC1 HC4
  have d0 : decide ((i : Int) < 0) = false := decide_eq_false (by omega)
  have d1 : decide ((n : Int) ≤ (i : Int)) = false := decide_eq_false (by omega)
  have d1' : decide (n ≤ i) = false := decide_eq_false (by omega)
  have d4 : IntKind.i64.wrap ((i : Int) + 1) = (i : Int) + 1 := by rw [IntKind.wrap_i64]; omega
  have d5 : (i : Int) < n := by omega
  have d6 : (i : Int) ≤ cap := by omega
  have d7 : (i : Int) + 1 ≤ n := by omega
  have d8 : (0 : Int) ≤ (i : Int) + 1 := by omega
  have d9 : ((i : Int) + 1).toNat = i + 1 := by omega
  clear h hx hn o4 b1 b2 b1' hs4 hw4 h4 hm1 ho1 ho1' hat1 h1 hv1 hv1n
  have tail : ∀ (wz : World), MBox 33 wz w.heap.size ⟨⟨#[]⟩, ⟨#[]⟩, ⟨#[]⟩⟩ → ∀ v2, DNet wz base t v2 (l.take i ++ l.drop (i + 1)) → Only [t] w wz → (∀ k, v2.ownBlock = some k → w.heap.size + 2 ≤ k) → MBox 33 (((wz.setCell ⟨w.heap.size, 0, none⟩ (.string x.F)).setCell ⟨w.heap.size, 1, none⟩ (.string x.T)).setCell ⟨w.heap.size, 2, none⟩ (.string x.X)) w.heap.size x ∧ DNet (((wz.setCell ⟨w.heap.size, 0, none⟩ (.string x.F)).setCell ⟨w.heap.size, 1, none⟩ (.string x.T)).setCell ⟨w.heap.size, 2, none⟩ (.string x.X)) base t v2 (l.take i ++ l.drop (i + 1)) ∧ Only [t] w (((wz.setCell ⟨w.heap.size, 0, none⟩ (.string x.F)).setCell ⟨w.heap.size, 1, none⟩ (.string x.T)).setCell ⟨w.heap.size, 2, none⟩ (.string x.X)) := fun wz hb v2 hd ho hv => by
    obtain ⟨h3, o3⟩ := set3 (a0 := .string x.F) (a1 := .string x.T) (a2 := .string x.X) hb
    exact ⟨h3, hd.only o3 (by have := HT.out; simp; omega) (fun k hk => by have := hv k hk; simp; omega), ho.trans o3 (fun k hk => Or.inr (by simp at hk; omega))⟩
  have HTAIL : Hid (∀ (wz : World), MBox 33 wz w.heap.size ⟨⟨#[]⟩, ⟨#[]⟩, ⟨#[]⟩⟩ → ∀ v2, DNet wz base t v2 (l.take i ++ l.drop (i + 1)) → Only [t] w wz → (∀ k, v2.ownBlock = some k → w.heap.size + 2 ≤ k) → MBox 33 (((wz.setCell ⟨w.heap.size, 0, none⟩ (.string x.F)).setCell ⟨w.heap.size, 1, none⟩ (.string x.T)).setCell ⟨w.heap.size, 2, none⟩ (.string x.X)) w.heap.size x ∧ DNet (((wz.setCell ⟨w.heap.size, 0, none⟩ (.string x.F)).setCell ⟨w.heap.size, 1, none⟩ (.string x.T)).setCell ⟨w.heap.size, 2, none⟩ (.string x.X)) base t v2 (l.take i ++ l.drop (i + 1)) ∧ Only [t] w (((wz.setCell ⟨w.heap.size, 0, none⟩ (.string x.F)).setCell ⟨w.heap.size, 1, none⟩ (.string x.T)).setCell ⟨w.heap.size, 2, none⟩ (.string x.X))) := tail
  clear tail
  by_cases hce : cap = i + 1
  · have key' := key ⟨g, 0, none⟩ (fun h => absurd h (by omega))
    obtain rfl : n = cap := by omega
    rw [show n - (i + 1) = 0 by omega] at key'
    have hic : (i : Int) + 1 = (n : Int) := by omega
    have d4n : IntKind.i64.wrap (n : Int) = (n : Int) := by rw [IntKind.wrap_i64]; omega
    have r3n : (i : Int) ≤ n := by omega
    clear d4 d7 d8 d9 hce d6
    obtain ⟨ad2, n2, c2', w2, hr2, r1, r2, r3, r4, r5, r6, r7, r8⟩ := key'
    have HR : Hid (DNet (w2.setCell ⟨t, 0, none⟩ (.slice ad2 n2 c2')) base t (.slice ad2 n2 c2') (l.take i ++ l.drop (i + 1)) ∧ Only [t] w (w2.setCell ⟨t, 0, none⟩ (.slice ad2 n2 c2')) ∧ MBox 33 (w2.setCell ⟨t, 0, none⟩ (.slice ad2 n2 c2')) w.heap.size ⟨⟨#[]⟩, ⟨#[]⟩, ⟨#[]⟩⟩ ∧ MBox 33 (w2.setCell ⟨t, 0, none⟩ (.slice ad2 n2 c2')) (w.heap.size + 1) x ∧ ∀ k, (Value.slice ad2 n2 c2').ownBlock = some k → w.heap.size + 2 ≤ k) := ⟨r4, r5, r6, r7, r8⟩
    clear r4 r5 r6 r7 r8 key
    go_enter Tryd.func10, Tryd.ntmps10
    go_upto_region 4 with fail
    rw [HW4.out]
    clear cw c0 c1 c2
    have cw := HC4.out
    have htl4 := lt_of_cell cw
    go_upto_region 6 with (at_builtin; refine Lib.wpList_append_run _ rfl _ _ _ _ rfl _ _ rfl rfl _ _ (hr1 _) ?_)
    clear cw htl4
    have cw := HC1.out
    have htl4 := lt_of_cell cw
    go_upto_region 7 with (at_builtin; refine Lib.wpList_append_run _ rfl _ _ _ _ rfl _ _ rfl rfl _ _ (hr2 _) ?_)
    obtain ⟨hd, how, hb1, hb2, hvk⟩ := HR.out
    obtain ⟨t1, t2, t3⟩ := HTAIL.out _ hb1 _ hd how hvk
    have HT2 : Hid (DNet ((((w2.setCell ⟨t, 0, none⟩ (.slice ad2 n2 c2')).setCell ⟨w.heap.size, 0, none⟩ (.string x.F)).setCell ⟨w.heap.size, 1, none⟩ (.string x.T)).setCell ⟨w.heap.size, 2, none⟩ (.string x.X)) base t (.slice ad2 n2 c2') (l.take i ++ l.drop (i + 1)) ∧ Only [t] w ((((w2.setCell ⟨t, 0, none⟩ (.slice ad2 n2 c2')).setCell ⟨w.heap.size, 0, none⟩ (.string x.F)).setCell ⟨w.heap.size, 1, none⟩ (.string x.T)).setCell ⟨w.heap.size, 2, none⟩ (.string x.X))) := ⟨t2, t3⟩
    have HT1 : Hid (MBox 33 ((((w2.setCell ⟨t, 0, none⟩ (.slice ad2 n2 c2')).setCell ⟨w.heap.size, 0, none⟩ (.string x.F)).setCell ⟨w.heap.size, 1, none⟩ (.string x.T)).setCell ⟨w.heap.size, 2, none⟩ (.string x.X)) w.heap.size x) := t1
    obtain ⟨k0, k1, k2⟩ := MBox.cells hb2
    obtain ⟨j0, j1, j2⟩ := MBox.cells hb1
    have f0 := frozen_of_row _ w.heap.size 0 _ _ hb1
    have f1 := frozen_of_row _ w.heap.size 1 _ _ hb1
    have f2 := frozen_of_row _ w.heap.size 2 _ _ hb1
    have hl2 := lt_of_cell j0
    have hl3 := lt_of_cell k0
    clear hr1 hr2 r1 r2 r3 hd how hb1 hb2 hvk t1 t2 t3 cw htl4
    generalize w2.setCell ⟨t, 0, none⟩ (.slice ad2 n2 c2') = wz at *
    go_wp2
    obtain ⟨z0, z1, z2⟩ := MBox.cells HT1.out
    refine bodyPost_ret (v := .tuple #[.agg #[.string x.F, .string x.T, .string x.X], .bool true]) (by simp [results, Tryd.results10, go_sem, z0, z1, z2]) rfl ⟨rfl, ⟨_, HT2.out.1⟩, HT2.out.2⟩
  · have key' := key ⟨g, (i + 1) * 3, none⟩ (fun _ => rfl)
    obtain ⟨ad2, n2, c2', w2, hr2, r1, r2, r3, r4, r5, r6, r7, r8⟩ := key'
    have HR : Hid (DNet (w2.setCell ⟨t, 0, none⟩ (.slice ad2 n2 c2')) base t (.slice ad2 n2 c2') (l.take i ++ l.drop (i + 1)) ∧ Only [t] w (w2.setCell ⟨t, 0, none⟩ (.slice ad2 n2 c2')) ∧ MBox 33 (w2.setCell ⟨t, 0, none⟩ (.slice ad2 n2 c2')) w.heap.size ⟨⟨#[]⟩, ⟨#[]⟩, ⟨#[]⟩⟩ ∧ MBox 33 (w2.setCell ⟨t, 0, none⟩ (.slice ad2 n2 c2')) (w.heap.size + 1) x ∧ ∀ k, (Value.slice ad2 n2 c2').ownBlock = some k → w.heap.size + 2 ≤ k) := ⟨r4, r5, r6, r7, r8⟩
    clear r4 r5 r6 r7 r8 key
    go_enter Tryd.func10, Tryd.ntmps10
    go_upto_region 4 with fail
    rw [HW4.out]
    clear cw c0 c1 c2
    have cw := HC4.out
    have htl4 := lt_of_cell cw
    go_upto_region 6 with (at_builtin; refine Lib.wpList_append_run _ rfl _ _ _ _ rfl _ _ rfl rfl _ _ (hr1 _) ?_)
    clear cw htl4
    have cw := HC1.out
    have htl4 := lt_of_cell cw
    go_upto_region 7 with (at_builtin; refine Lib.wpList_append_run _ rfl _ _ _ _ rfl _ _ rfl rfl _ _ (hr2 _) ?_)
    obtain ⟨hd, how, hb1, hb2, hvk⟩ := HR.out
    obtain ⟨t1, t2, t3⟩ := HTAIL.out _ hb1 _ hd how hvk
    have HT2 : Hid (DNet ((((w2.setCell ⟨t, 0, none⟩ (.slice ad2 n2 c2')).setCell ⟨w.heap.size, 0, none⟩ (.string x.F)).setCell ⟨w.heap.size, 1, none⟩ (.string x.T)).setCell ⟨w.heap.size, 2, none⟩ (.string x.X)) base t (.slice ad2 n2 c2') (l.take i ++ l.drop (i + 1)) ∧ Only [t] w ((((w2.setCell ⟨t, 0, none⟩ (.slice ad2 n2 c2')).setCell ⟨w.heap.size, 0, none⟩ (.string x.F)).setCell ⟨w.heap.size, 1, none⟩ (.string x.T)).setCell ⟨w.heap.size, 2, none⟩ (.string x.X))) := ⟨t2, t3⟩
    have HT1 : Hid (MBox 33 ((((w2.setCell ⟨t, 0, none⟩ (.slice ad2 n2 c2')).setCell ⟨w.heap.size, 0, none⟩ (.string x.F)).setCell ⟨w.heap.size, 1, none⟩ (.string x.T)).setCell ⟨w.heap.size, 2, none⟩ (.string x.X)) w.heap.size x) := t1
    obtain ⟨k0, k1, k2⟩ := MBox.cells hb2
    obtain ⟨j0, j1, j2⟩ := MBox.cells hb1
    have f0 := frozen_of_row _ w.heap.size 0 _ _ hb1
    have f1 := frozen_of_row _ w.heap.size 1 _ _ hb1
    have f2 := frozen_of_row _ w.heap.size 2 _ _ hb1
    have hl2 := lt_of_cell j0
    have hl3 := lt_of_cell k0
    clear hr1 hr2 r1 r2 r3 hd how hb1 hb2 hvk t1 t2 t3 cw htl4
    generalize w2.setCell ⟨t, 0, none⟩ (.slice ad2 n2 c2') = wz at *
    go_wp2
    obtain ⟨z0, z1, z2⟩ := MBox.cells HT1.out
    refine bodyPost_ret (v := .tuple #[.agg #[.string x.F, .string x.T, .string x.X], .bool true]) (by simp [results, Tryd.results10, go_sem, z0, z1, z2]) rfl ⟨rfl, ⟨_, HT2.out.1⟩, HT2.out.2⟩
end Go.Proofs.YtkfelijpajdcoaaDoor
