/- LockActs: the document's owners of a node, and places of an owner's. -/
import Derived.Test.YtfnniphemlnanaaDoorLa4
namespace Go.Proofs.YtfnniphemlnanaaDoor
open Go Go.RowKit Go.Deep

theorem take_mem_succ {l : List Pt} {j : Nat} {p : Pt} (h : l[j]? = some p) (q : Pt) : q ∈ l.take (j + 1) ↔ q ∈ l.take j ∨ q = p := by
  obtain ⟨hj, rfl⟩ := List.getElem?_eq_some_iff.1 h
  rw [← List.take_append_getElem hj, List.mem_append, List.mem_singleton]
def IsOwners (l : List Pt) (N G : Int) (os : List Int) : Prop := os.Pairwise (· < ·) ∧ ∀ o, o ∈ os ↔ ∃ p ∈ l, p.N = N ∧ p.G = G ∧ p.O = o
set_option maxRecDepth 100000 in
set_option maxHeartbeats 4000000 in
theorem owners_any (w : World) (base : Nat) (v : Value) (l : List Pt) (N G : Int) (h : Pts w base v l) (hl : l.length ≤ 100) : Calls Tryd.prog 50 #[v, .agg #[.int .i64 N, .int .i64 G]] w fun e w' => ∃ v' os, e = .returned v' ∧ Ints w' w.heap.size v' os ∧ IsOwners l N G os ∧ os.length ≤ l.length ∧ Only [] w w' := by
  obtain ⟨ad, cap, rfl, had, _⟩ := row_form h
  have HA : Hid (l ≠ [] → ∃ g, ad = some ⟨g, 0, none⟩) := had
  obtain ⟨n, hn⟩ : ∃ n, l.length = n := ⟨_, rfl⟩
  have HN : Hid (l.length = n) := hn
  rw [hn] at hl h ⊢
  have H : Hid (Pts w base (.slice ad n cap) l) := h
  have HH : Hid (∀ W, Only [] (w.alloc (.cells #[.int .i64 N, .int .i64 G] 33)) W → W.cell? ⟨w.heap.size, 0, none⟩ = some (.int .i64 N) ∧ W.cell? ⟨w.heap.size, 1, none⟩ = some (.int .i64 G)) := fun W ho => by
    have := two_own (B := w.heap.size) ho rfl
    exact ⟨this.1, this.2.1⟩
  have HO0 : Hid (Only [] w (w.alloc (.cells #[.int .i64 N, .int .i64 G] 33))) := (Only.refl [] w).alloc _
  clear h hn had
  go_enter Tryd.func50, Tryd.ntmps50
  go_wp2
  generalize w.alloc (.cells #[.int .i64 N, .int .i64 G] 33) = w0 at HH HO0 ⊢
  obtain ⟨B, hB⟩ : ∃ B, w.heap.size = B := ⟨_, rfl⟩
  have HBS : Hid (w.heap.size = B) := hB
  rw [hB] at HH ⊢
  clear hB
  go_loopw [5, 6] (fun o i wr => ∃ (j : Nat) (os : List Int), i = .int .i64 j ∧ j ≤ n ∧ Ints wr B o os ∧ IsOwners (l.take j) N G os ∧ os.length ≤ j ∧ Only [] w0 wr) (fun _ i _ => n - (intOf i).toNat)
  case atStart => exact ⟨0, [], rfl, Nat.zero_le _, World.ownsRow_nil _ _ _ _, ⟨List.Pairwise.nil, (fun o => ⟨(fun hh => by cases hh), (fun hh => by obtain ⟨p, hp, _⟩ := hh; cases hp)⟩)⟩, Nat.le_refl _, Only.refl _ _⟩
  case round =>
    obtain ⟨j, os, rfl, hj, hI, hOs, hol, ho⟩ := hrel
    have HO : Hid (Only [] w0 wr) := ho
    have HI : Hid (Ints wr B u5 os) := hI
    have HOs : Hid (IsOwners (l.take j) N G os) := hOs
    clear ho hI hOs
    by_cases hlt : j < n
    · obtain ⟨p, hp⟩ : ∃ p, l[j]? = some p := ⟨_, List.getElem?_eq_getElem (by rw [HN.out]; exact hlt)⟩
      obtain ⟨g, rfl⟩ := HA.out (fun e => by rw [e] at hp; cases hp)
      obtain ⟨c0, c1, c2, c3, c4, c5⟩ := pt_cells (H.out.only (only_nil HO0.out HO.out) (fun _ _ => by simp)) HN.out hp
      have HCL : Hid (∀ W, Only [] wr W → W.cell? ⟨g, j * 6 + 2, none⟩ = some (.int .i64 p.O)) := fun W ho' => (pt_cells (H.out.only (only_nil (only_nil HO0.out HO.out) ho') (fun _ _ => by simp)) HN.out hp).2.2.1
      obtain ⟨x0, x1⟩ := HH.out wr HO.out
      have hxl := lt_of_cell x0
      have hj2 : (j : Int) < n := by omega
      have HP : Hid (l[j]? = some p) := hp
      clear hp
      by_cases hk : p.N = N ∧ p.G = G
      · have HIN : Hid (∀ W, Only [] wr W → Calls Tryd.prog 67 #[u5, .int .i64 p.O] W fun e w' => ∃ v' l', e = .returned v' ∧ Ints w' B v' l' ∧ IsOwners (l.take (j + 1)) N G l' ∧ l'.length ≤ j + 1 ∧ Only [] W w') := fun W ho' => (insert_any W B u5 os p.O (HI.out.only ho' (fun _ _ => by simp)) HOs.out.1 (by omega) (by have := HBS.out; have := HO0.out.size; have := HO.out.size; have := ho'.size; omega)).mono fun e w' hh => by
          obtain ⟨v', l', he, hi⟩ := hh
          refine ⟨v', l', he, hi.own, ⟨hi.srt, fun o => ?_⟩, by have := hi.len; omega, hi.only⟩
          rw [hi.mem, HOs.out.2]
          constructor
          · rintro (e1 | ⟨q, hq, hr⟩)
            · exact ⟨p, (take_mem_succ HP.out p).2 (Or.inr rfl), hk.1, hk.2, e1.symm⟩
            · exact ⟨q, (take_mem_succ HP.out q).2 (Or.inl hq), hr⟩
          · rintro ⟨q, hq, hr⟩
            rcases (take_mem_succ HP.out q).1 hq with hq | hq
            · exact Or.inr ⟨q, hq, hr⟩
            · rw [hq] at hr; exact Or.inl hr.2.2.symm
        obtain ⟨k1, k2⟩ := hk
        rw [k1] at c0
        rw [k2] at c1
        go_wp2
        go_big_quiet (fail)
        have HQ : Hid (Only [] wr (wr.drewN nq)) := (Only.refl [] wr).drewsN nq
        clear c0 c1 c2 c3 c4 c5 x0 x1 hxl
        generalize wr.drewN nq = wq at HQ ⊢
        have c2 := HCL.out wq HQ.out
        go_wp2_with (go_at_call 67; refine (HIN.out _ HQ.out).mono ?_; rintro e w3 ⟨v3, l3, rfl, h3, hs3, hl3, ho3⟩; have H3 : Hid (Ints w3 B v3 l3 ∧ IsOwners (l.take (j + 1)) N G l3 ∧ l3.length ≤ j + 1) := ⟨h3, hs3, hl3⟩; have HO3 : Hid (Only [] w0 w3) := only_nil (only_nil HO.out HQ.out) ho3; clear h3 hs3 hl3 ho3 c2)
        go_roundw
        case rel => exact ⟨j + 1, l3, by go_num, by omega, H3.out.1, H3.out.2.1, H3.out.2.2, HO3.out⟩
        case measure => simp [intOf]; omega
      · have HNO : Hid (IsOwners (l.take (j + 1)) N G os) := ⟨HOs.out.1, fun o => by
          rw [HOs.out.2]
          constructor
          · rintro ⟨q, hq, hr⟩; exact ⟨q, (take_mem_succ HP.out q).2 (Or.inl hq), hr⟩
          · rintro ⟨q, hq, hr⟩
            rcases (take_mem_succ HP.out q).1 hq with hq | hq
            · exact ⟨q, hq, hr⟩
            · rw [hq] at hr; exact absurd ⟨hr.1, hr.2.1⟩ hk⟩
        by_cases k1 : p.N = N
        · have d2 : (p.G == G) = false := beq_eq_false_iff_ne.2 (fun e => hk ⟨k1, e⟩)
          rw [k1] at c0
          clear hk k1
          go_wp2
          go_big_quiet (fail)
          go_wp2
          go_roundw
          case rel => exact ⟨j + 1, os, by go_num, by omega, HI.out.only ((Only.refl [] wr).drewsN _) (fun _ _ => by simp), HNO.out, by omega, HO.out.drewsN _⟩
          case measure => simp [intOf]; omega
        · have d1 : (p.N == N) = false := beq_eq_false_iff_ne.2 k1
          clear hk k1
          go_wp2
          go_big_quiet (fail)
          go_wp2
          go_roundw
          case rel => exact ⟨j + 1, os, by go_num, by omega, HI.out.only ((Only.refl [] wr).drewsN _) (fun _ _ => by simp), HNO.out, by omega, HO.out.drewsN _⟩
          case measure => simp [intOf]; omega
    · obtain rfl : j = n := by omega
      have HE : Hid (l.take j = l) := by show l.take j = l; rw [← HN.out, List.take_length]
      have hj2 : decide ((j : Int) < j) = false := decide_eq_false (by omega)
      go_wp2
      go_ret
      exact ⟨_, os, rfl, (by rw [HBS.out]; exact HI.out), (by have := HOs.out; rw [HE.out] at this; exact this), hol, only_nil HO0.out HO.out⟩
theorem places_step {l : List Pt} {j : Nat} {p : Pt} {N G O : Int} {os m : List Int} (hp : l[j]? = some p) (h : IsPlaces (l.take j) N G O os) (hk : keyP N G O p = true) (hs : m.Pairwise (· < ·)) (hm : ∀ q, q ∈ m ↔ (q = p.F ∨ (q = p.T ∧ 0 ≤ p.T)) ∨ q ∈ os) : IsPlaces (l.take (j + 1)) N G O m := by
  refine ⟨hs, fun q => ?_⟩
  rw [hm, h.2]
  constructor
  · rintro (e | ⟨r, hr, hh⟩)
    · exact ⟨p, (take_mem_succ hp p).2 (Or.inr rfl), hk, e⟩
    · exact ⟨r, (take_mem_succ hp r).2 (Or.inl hr), hh⟩
  · rintro ⟨r, hr, hh⟩
    rcases (take_mem_succ hp r).1 hr with hr | hr
    · exact Or.inr ⟨r, hr, hh⟩
    · rw [hr] at hh; exact Or.inl hh.2
theorem places_skip {l : List Pt} {j : Nat} {p : Pt} {N G O : Int} {os : List Int} (hp : l[j]? = some p) (h : IsPlaces (l.take j) N G O os) (hk : keyP N G O p = false) : IsPlaces (l.take (j + 1)) N G O os := by
  refine ⟨h.1, fun q => ?_⟩
  rw [h.2]
  constructor
  · rintro ⟨r, hr, hh⟩; exact ⟨r, (take_mem_succ hp r).2 (Or.inl hr), hh⟩
  · rintro ⟨r, hr, hh⟩
    rcases (take_mem_succ hp r).1 hr with hr | hr
    · exact ⟨r, hr, hh⟩
    · rw [hr, hk] at hh; cases hh.1
set_option maxRecDepth 100000 in
set_option maxHeartbeats 4000000 in
theorem places_any (w : World) (base : Nat) (v : Value) (l : List Pt) (N G O : Int) (h : Pts w base v l) (hl : l.length ≤ 100) : Calls Tryd.prog 47 #[v, .agg #[.int .i64 N, .int .i64 G], .int .i64 O] w fun e w' => ∃ v' os, e = .returned v' ∧ Ints w' w.heap.size v' os ∧ IsPlaces l N G O os ∧ os.length ≤ 2 * l.length ∧ Only [] w w' := by
  obtain ⟨ad, cap, rfl, had, _⟩ := row_form h
  have HA : Hid (l ≠ [] → ∃ g, ad = some ⟨g, 0, none⟩) := had
  obtain ⟨n, hn⟩ : ∃ n, l.length = n := ⟨_, rfl⟩
  have HN : Hid (l.length = n) := hn
  rw [hn] at hl h ⊢
  have H : Hid (Pts w base (.slice ad n cap) l) := h
  have HH : Hid (∀ W, Only [] (w.alloc (.cells #[.int .i64 N, .int .i64 G] 33)) W → W.cell? ⟨w.heap.size, 0, none⟩ = some (.int .i64 N) ∧ W.cell? ⟨w.heap.size, 1, none⟩ = some (.int .i64 G)) := fun W ho => by
    have := two_own (B := w.heap.size) ho rfl
    exact ⟨this.1, this.2.1⟩
  have HO0 : Hid (Only [] w (w.alloc (.cells #[.int .i64 N, .int .i64 G] 33))) := (Only.refl [] w).alloc _
  clear h hn had
  go_enter Tryd.func47, Tryd.ntmps47
  go_wp2
  generalize w.alloc (.cells #[.int .i64 N, .int .i64 G] 33) = w0 at HH HO0 ⊢
  obtain ⟨B, hB⟩ : ∃ B, w.heap.size = B := ⟨_, rfl⟩
  have HBS : Hid (w.heap.size = B) := hB
  rw [hB] at HH ⊢
  clear hB
  go_loopw [7, 8] (fun o i wr => ∃ (j : Nat) (os : List Int), i = .int .i64 j ∧ j ≤ n ∧ Ints wr B o os ∧ IsPlaces (l.take j) N G O os ∧ os.length ≤ 2 * j ∧ Only [] w0 wr) (fun _ i _ => n - (intOf i).toNat)
  case atStart => exact ⟨0, [], rfl, Nat.zero_le _, World.ownsRow_nil _ _ _ _, ⟨List.Pairwise.nil, (fun o => ⟨(fun hh => by cases hh), (fun hh => by obtain ⟨p, hp, _⟩ := hh; cases hp)⟩)⟩, Nat.le_refl _, Only.refl _ _⟩
  case round =>
    obtain ⟨j, os, rfl, hj, hI, hOs, hol, ho⟩ := hrel
    have HO : Hid (Only [] w0 wr) := ho
    have HI : Hid (Ints wr B u7 os) := hI
    have HOs : Hid (IsPlaces (l.take j) N G O os) := hOs
    clear ho hI hOs
    by_cases hlt : j < n
    · obtain ⟨p, hp⟩ : ∃ p, l[j]? = some p := ⟨_, List.getElem?_eq_getElem (by rw [HN.out]; exact hlt)⟩
      obtain ⟨g, rfl⟩ := HA.out (fun e => by rw [e] at hp; cases hp)
      obtain ⟨c0, c1, c2, c3, c4, c5⟩ := pt_cells (H.out.only (only_nil HO0.out HO.out) (fun _ _ => by simp)) HN.out hp
      have HCL : Hid (∀ W, Only [] wr W → W.cell? ⟨g, j * 6 + 3, none⟩ = some (.int .i64 p.F) ∧ W.cell? ⟨g, j * 6 + 4, none⟩ = some (.int .i64 p.T)) := fun W ho' => by
        have hh := pt_cells (H.out.only (only_nil (only_nil HO0.out HO.out) ho') (fun _ _ => by simp)) HN.out hp
        exact ⟨hh.2.2.2.1, hh.2.2.2.2.1⟩
      obtain ⟨x0, x1⟩ := HH.out wr HO.out
      have hxl := lt_of_cell x0
      have hj2 : (j : Int) < n := by omega
      have HP : Hid (l[j]? = some p) := hp
      clear hp
      by_cases hk : p.N = N ∧ p.G = G ∧ p.O = O
      · have HKP : Hid (keyP N G O p = true) := keyP_iff.2 hk
        have HIN : Hid (∀ W, Only [] wr W → Calls Tryd.prog 67 #[u7, .int .i64 p.F] W fun e w' => ∃ v' l', e = .returned v' ∧ Insd W w' B u7 v' os l' p.F) := fun W ho' => insert_any W B u7 os p.F (HI.out.only ho' (fun _ _ => by simp)) HOs.out.1 (by omega) (by have := HBS.out; have := HO0.out.size; have := HO.out.size; have := ho'.size; omega)
        obtain ⟨k1, k2, k3⟩ := hk
        rw [k1] at c0
        rw [k2] at c1
        rw [k3] at c2
        clear k1 k2 k3
        go_wp2
        go_big_quiet (fail)
        have HQ : Hid (Only [] wr (wr.drewN nq)) := (Only.refl [] wr).drewsN nq
        clear c0 c1 c2 c3 c4 c5 x0 x1 hxl
        generalize wr.drewN nq = wq at HQ ⊢
        obtain ⟨c3, c4⟩ := HCL.out wq HQ.out
        go_upto_region 7 with (go_at_call 67; refine (HIN.out _ HQ.out).mono ?_; rintro e w3 ⟨v3, l3, rfl, h3⟩; have H3 : Hid (Insd wq w3 B u7 v3 os l3 p.F) := h3; have HQ3 : Hid (Only [] wr w3) := only_nil HQ.out h3.only; clear h3 c3 c4)
        obtain ⟨c3, c4⟩ := HCL.out w3 HQ3.out
        have hl3 := H3.out.len
        by_cases hT : 0 ≤ p.T
        · have dT : decide (0 ≤ p.T) = true := decide_eq_true hT
          have HI2 : Hid (Calls Tryd.prog 67 #[v3, .int .i64 p.T] w3 fun e w' => ∃ v' l', e = .returned v' ∧ Insd w3 w' B v3 v' l3 l' p.T) := insert_any w3 B v3 l3 p.T H3.out.own H3.out.srt (by omega) (by have := HBS.out; have := HO0.out.size; have := HO.out.size; have := HQ3.out.size; omega)
          go_wp2_with (go_at_call 67; refine HI2.out.mono ?_; rintro e w4 ⟨v4, l4, rfl, h4⟩; have H4 : Hid (Insd w3 w4 B v3 v4 l3 l4 p.T) := h4; have hl4 := h4.len; clear h4 c3 c4)
          go_roundw
          case rel => exact ⟨j + 1, l4, by go_num, by omega, H4.out.own, places_step HP.out HOs.out HKP.out H4.out.srt (fun q => by
                        rw [H4.out.mem, H3.out.mem]
                        constructor
                        · rintro (e | e | e)
                          · exact Or.inl (Or.inr ⟨e, hT⟩)
                          · exact Or.inl (Or.inl e)
                          · exact Or.inr e
                        · rintro ((e | e) | e)
                          · exact Or.inr (Or.inl e)
                          · exact Or.inl e.1
                          · exact Or.inr (Or.inr e)), by omega, only_nil (only_nil HO.out HQ3.out) H4.out.only⟩
          case measure => simp [intOf]; omega
        · have dT : decide (0 ≤ p.T) = false := decide_eq_false hT
          go_wp2
          go_roundw
          case rel => exact ⟨j + 1, l3, by go_num, by omega, H3.out.own, places_step HP.out HOs.out HKP.out H3.out.srt (fun q => by
                        rw [H3.out.mem]
                        constructor
                        · rintro (e | e)
                          · exact Or.inl (Or.inl e)
                          · exact Or.inr e
                        · rintro ((e | e) | e)
                          · exact Or.inl e
                          · exact absurd e.2 hT
                          · exact Or.inr e), by omega, only_nil HO.out HQ3.out⟩
          case measure => simp [intOf]; omega
      · have HNO : Hid (IsPlaces (l.take (j + 1)) N G O os) := places_skip HP.out HOs.out (by
          cases hkk : keyP N G O p with
          | false => rfl
          | true => exact absurd (keyP_iff.1 hkk) hk)
        by_cases k1 : p.N = N
        · by_cases k2 : p.G = G
          · have d3 : (p.O == O) = false := beq_eq_false_iff_ne.2 (fun e => hk ⟨k1, k2, e⟩)
            rw [k1] at c0
            rw [k2] at c1
            clear hk k1 k2
            go_wp2
            go_big_quiet (fail)
            go_wp2
            go_roundw
            case rel => exact ⟨j + 1, os, by go_num, by omega, HI.out.only ((Only.refl [] wr).drewsN _) (fun _ _ => by simp), HNO.out, by omega, HO.out.drewsN _⟩
            case measure => simp [intOf]; omega
          · have d2 : (p.G == G) = false := beq_eq_false_iff_ne.2 k2
            rw [k1] at c0
            clear hk k1 k2
            go_wp2
            go_big_quiet (fail)
            go_wp2
            go_roundw
            case rel => exact ⟨j + 1, os, by go_num, by omega, HI.out.only ((Only.refl [] wr).drewsN _) (fun _ _ => by simp), HNO.out, by omega, HO.out.drewsN _⟩
            case measure => simp [intOf]; omega
        · have d1 : (p.N == N) = false := beq_eq_false_iff_ne.2 k1
          clear hk k1
          go_wp2
          go_big_quiet (fail)
          go_wp2
          go_roundw
          case rel => exact ⟨j + 1, os, by go_num, by omega, HI.out.only ((Only.refl [] wr).drewsN _) (fun _ _ => by simp), HNO.out, by omega, HO.out.drewsN _⟩
          case measure => simp [intOf]; omega
    · obtain rfl : j = n := by omega
      have HE : Hid (l.take j = l) := by show l.take j = l; rw [← HN.out, List.take_length]
      have hj2 : decide ((j : Int) < j) = false := decide_eq_false (by omega)
      go_wp2
      go_ret
      exact ⟨_, os, rfl, (by rw [HBS.out]; exact HI.out), (by have := HOs.out; rw [HE.out] at this; exact this), hol, only_nil HO0.out HO.out⟩
end Go.Proofs.YtfnniphemlnanaaDoor
