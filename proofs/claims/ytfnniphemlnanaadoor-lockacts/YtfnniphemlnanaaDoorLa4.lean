/- LockActs: the document's rising rows of numbers: insert. -/
import Derived.Test.YtfnniphemlnanaaDoorLa3
namespace Go.Proofs.YtfnniphemlnanaaDoor
open Go Go.RowKit Go.Deep

theorem rowI (l : List Int) : rowOf inC l = l.map (.int .i64 ·) := by
  induction l with
  | nil => rfl
  | cons x l ih => show inC x ++ rowOf inC l = _; rw [ih]; rfl
theorem ints_take {w : World} {base g n cap : Nat} {l : List Int} (h : Ints w base (.slice (some ⟨g, 0, none⟩) n cap) l) (hn : l.length = n) (k : Nat) : ∀ j u, (rowOf inC (l.take k))[j]? = some u → w.cell? ((⟨g, 0, none⟩ : Addr).add j) = some u := by
  intro j u hu
  rw [rowI, List.getElem?_map, List.getElem?_take] at hu
  split at hu
  · cases hx : l[j]? with
    | none => rw [hx] at hu; cases hu
    | some x =>
      rw [hx] at hu
      cases hu
      rw [add_none, Nat.zero_add]
      exact int_cell h hn hx
  · cases hu
theorem ints_drop {w : World} {base g n cap : Nat} {l : List Int} (h : Ints w base (.slice (some ⟨g, 0, none⟩) n cap) l) (hn : l.length = n) (k : Nat) (ad : Addr) (ha : (l.drop k).length = 0 ∨ ad = ⟨g, k, none⟩) : ∀ j u, (rowOf inC (l.drop k))[j]? = some u → w.cell? (ad.add j) = some u := by
  intro j u hu
  rw [rowI, List.getElem?_map, List.getElem?_drop] at hu
  rcases ha with ha | rfl
  · have : l[k + j]? = none := List.getElem?_eq_none (by rw [List.length_drop] at ha; omega)
    rw [this] at hu; cases hu
  · cases hx : l[k + j]? with
    | none => rw [hx] at hu; cases hu
    | some x =>
      rw [hx] at hu
      cases hu
      rw [add_none]
      exact int_cell h hn hx
theorem sorted_ins {l : List Int} {q : Nat} {n : Int} (hs : l.Pairwise (· < ·)) (hq : q ≤ l.length) (hlow : ∀ p y, p < q → l[p]? = some y → y < n) (hhigh : ∀ y, l[q]? = some y → n < y) : (l.take q ++ [n] ++ l.drop q).Pairwise (· < ·) := by
  have hlo : ∀ y ∈ l.take q, y < n := fun y hy => by
    obtain ⟨p, hp⟩ := List.mem_iff_getElem?.1 hy
    rw [List.getElem?_take] at hp
    split at hp
    · exact hlow p y (by assumption) hp
    · cases hp
  have hhi : ∀ y ∈ l.drop q, n < y := fun y hy => by
    obtain ⟨p, hp⟩ := List.mem_iff_getElem?.1 hy
    rw [List.getElem?_drop] at hp
    have hlt := (List.getElem?_eq_some_iff.1 hp).1
    have h0 := hhigh _ (List.getElem?_eq_getElem (by omega))
    rcases Nat.eq_zero_or_pos p with e | e
    · subst e
      rw [Nat.add_zero] at hp
      exact hhigh y hp
    · have := List.pairwise_iff_getElem.1 hs q (q + p) (by omega) hlt (by omega)
      obtain ⟨_, e2⟩ := List.getElem?_eq_some_iff.1 hp
      rw [e2] at this
      omega
  rw [List.append_assoc]
  refine List.pairwise_append.2 ⟨hs.sublist (List.take_sublist _ _), ?_, fun a ha b hb => ?_⟩
  · exact List.pairwise_cons.2 ⟨hhi, hs.sublist (List.drop_sublist _ _)⟩
  · rcases List.mem_cons.1 hb with e | e
    · rw [e]; exact hlo a ha
    · have := hlo a ha; have := hhi b e; omega
/-- What insertion makes. -/
structure Insd (w w' : World) (base : Nat) (v v' : Value) (l l' : List Int) (n : Int) : Prop where
  own : Ints w' base v' l'
  srt : l'.Pairwise (· < ·)
  mem : ∀ q, q ∈ l' ↔ q = n ∨ q ∈ l
  len : l'.length ≤ l.length + 1
  only : Only [] w w'
  blk : v' = v ∨ ∀ k, v'.ownBlock = some k → w.heap.size ≤ k
set_option maxRecDepth 100000 in
set_option maxHeartbeats 4000000 in
theorem insert_any (w : World) (base : Nat) (v : Value) (l : List Int) (n : Int) (h : Ints w base v l) (hs : l.Pairwise (· < ·)) (hl : l.length ≤ 1000) (hb : base ≤ w.heap.size) : Calls Tryd.prog 67 #[v, .int .i64 n] w fun e w' => ∃ v' l', e = .returned v' ∧ Insd w w' base v v' l l' n := by
  obtain ⟨ad, cap, rfl, had, hc1, hc2⟩ := row_form h
  have HA : Hid (l ≠ [] → ∃ g, ad = some ⟨g, 0, none⟩) := had
  obtain ⟨m, hm⟩ : ∃ m, l.length = m := ⟨_, rfl⟩
  have HM : Hid (l.length = m) := hm
  rw [hm] at hl h hc1 ⊢
  unfold maxLen at hc2
  have H : Hid (Ints w base (.slice ad m cap) l) := h
  have HS : Hid (l.Pairwise (· < ·)) := hs
  have HB : Hid (base ≤ w.heap.size) := hb
  clear h hm had hs hb
  obtain ⟨i0, hi0, hz0, hz1, hz2⟩ := inInfo'
  go_enter Tryd.func67, Tryd.ntmps67
  go_upto_block 0 with fail
  go_cut [5] from 7 to 20 (fun k wx => ∃ q : Nat, k = .int .i64 q ∧ q ≤ m ∧ (∀ p y, p < q → l[p]? = some y → y < n) ∧ (∀ y, l[q]? = some y → n ≤ y) ∧ w = wx)
  case first =>
    go_wp2_with fail
    go_loopw [5] (fun k wx => ∃ q : Nat, k = .int .i64 q ∧ q ≤ m ∧ (∀ p y, p < q → l[p]? = some y → y < n) ∧ w = wx) (fun k _ => m - (intOf k).toNat)
    case atStart => exact ⟨0, rfl, Nat.zero_le _, (fun p y hp => by omega), rfl⟩
    case round =>
      obtain ⟨q, rfl, hq, hlow, rfl⟩ := hrel
      have HLOW : Hid (∀ p y, p < q → l[p]? = some y → y < n) := hlow
      clear hlow
      by_cases hqm : q < m
      · obtain ⟨y, hy⟩ : ∃ y, l[q]? = some y := ⟨_, List.getElem?_eq_getElem (by rw [HM.out]; exact hqm)⟩
        obtain ⟨g, rfl⟩ := HA.out (fun e => by rw [e] at hy; cases hy)
        have c0 := int_cell H.out HM.out hy
        have hqi : (q : Int) < m := by omega
        have HY : Hid (l[q]? = some y) := hy
        clear hy
        by_cases hyn : y < n
        · have dy : decide (y < n) = true := decide_eq_true hyn
          go_wp2
          go_roundw
          case rel => exact ⟨q + 1, by go_num, by omega, (fun p z hp hz => by
                        rcases Nat.lt_or_ge p q with h1 | h1
                        · exact HLOW.out p z h1 hz
                        · obtain rfl : p = q := by omega
                          rw [HY.out] at hz
                          cases hz
                          exact hyn), (by first | rfl | trivial)⟩
          case measure => simp [intOf]; omega
        · have dy : decide (y < n) = false := decide_eq_false hyn
          go_wp2
          go_meet
          exact ⟨q, rfl, hq, HLOW.out, (fun z hz => by rw [HY.out] at hz; cases hz; omega), rfl⟩
      · obtain rfl : q = m := by omega
        have hqd : decide ((q : Int) < q) = false := decide_eq_false (by omega)
        go_wp2
        go_meet
        exact ⟨q, rfl, hq, HLOW.out, (fun z hz => by have := (List.getElem?_eq_some_iff.1 hz).1; have := HM.out; omega), rfl⟩
  case rest =>
    obtain ⟨q, rfl, hq, hlow, hhigh, rfl⟩ := hcut
    have HLOW : Hid (∀ p y, p < q → l[p]? = some y → y < n) := hlow
    have HHIGH : Hid (∀ z, l[q]? = some z → n ≤ z) := hhigh
    clear hlow hhigh
    by_cases hin : l[q]? = some n
    · have hqm : q < m := by rw [← HM.out]; exact (List.getElem?_eq_some_iff.1 hin).1
      obtain ⟨g, rfl⟩ := HA.out (fun e => by rw [e] at hin; cases hin)
      have c0 := int_cell H.out HM.out hin
      have hqi : (q : Int) < m := by omega
      have HIN : Hid (n ∈ l) := List.mem_of_getElem? hin
      clear hin
      go_wp2
      go_ret
      exact ⟨_, l, rfl, H.out.only (Only.refl [] _) (fun _ _ => by simp), HS.out, (fun r => ⟨fun hr => Or.inr hr, fun hr => by rcases hr with e | e; rw [e]; exact HIN.out; exact e⟩), Nat.le_succ _, Only.refl _ _, Or.inl rfl⟩
    · have HIN : Hid (∀ z, l[q]? = some z → n < z) := fun z hz => by
        have := HHIGH.out z hz
        by_cases e : z = n
        · rw [e] at hz; exact absurd hz hin
        · omega
      have HSI : Hid ((l.take q ++ [n] ++ l.drop q).Pairwise (· < ·)) := sorted_ins HS.out (by rw [HM.out]; exact hq) HLOW.out HIN.out
      have HMI : Hid (∀ r, r ∈ l.take q ++ [n] ++ l.drop q ↔ r = n ∨ r ∈ l) := fun r => by
        rw [List.append_assoc, List.mem_append, List.mem_append, List.mem_singleton]
        constructor
        · rintro (e | e | e)
          · exact Or.inr (List.mem_of_mem_take e)
          · exact Or.inl e
          · exact Or.inr (List.mem_of_mem_drop e)
        · rintro (e | e)
          · exact Or.inr (Or.inl e)
          · rw [← List.take_append_drop q l, List.mem_append] at e
            rcases e with e | e
            · exact Or.inl e
            · exact Or.inr (Or.inr e)
      have HLN : Hid ((l.take q ++ [n] ++ l.drop q).length = m + 1) := by show _ = _; rw [List.length_append, List.length_append, List.length_take, List.length_drop, List.length_singleton, HM.out]; omega
      rcases row_open H.out with ⟨hv, hl0⟩ | ⟨g, cp, cur, hv, _⟩
      · obtain ⟨rfl, rfl, rfl⟩ : ad = none ∧ m = 0 ∧ cap = 0 := by simpa using hv
        obtain rfl : q = 0 := by omega
        have hd : decide ((0 : Int) < 0) = false := by decide
        have HNW : Hid (∀ (r : Nat) (u : Value), (inC n)[r]? = some u → (w.alloc (.cells #[.int .i64 n] 3)).cell? ((⟨w.heap.size, 0, none⟩ : Addr).add r) = some u) := World.news_of_block (w := w.alloc (.cells #[.int .i64 n] 3)) (heap_alloc_last w _)
        have HB2 : Hid (base ≤ (w.alloc (.cells #[.int .i64 n] 3)).heap.size) := by show base ≤ _; rw [World.size_alloc]; have := HB.out; omega
        clear hv
        go_wp2_with (first
          | (at_builtin; refine wpList_append_own_none rfl (.tmp 34) (.tmp 37) 91 rfl base 3 i0 1 insUnd hi0 (.slice none 0 0) 0 [] rfl (World.ownsRow_nil _ _ _ _) rfl ?_)
          | (at_builtin; refine wpList_append_lies _ rfl (.tmp 39) (.tmp 41) 91 rfl base 3 i0 _ 1 8 insUnd hi0 hz0 hz1 hz2 rfl (by decide) (.slice none 0 0) 0 [] rfl (World.ownsRow_nil _ _ _ _) ⟨w.heap.size, 0, none⟩ 1 1 (inC n) rfl rfl HNW.out (inC_one n) (by decide) (by unfold maxLen; omega) (by omega) HB2.out (w.heap.size + 1) (by simp) ?_; intro gl cl w6 hown6 hgr6 hat6 hlt6; have HOW : Hid (w6.ownsRow base 3 1 (.slice (some ⟨gl, 0, none⟩) (0 + 1) cl) (0 + 1) ([] ++ inC n)) := hown6; have HO6 : Hid (Only [] w w6) := (((Only.refl [] w).alloc _).grown hgr6 (fun k hk => by cases hk)); have HGL : Hid (w.heap.size ≤ gl) := (by show w.heap.size ≤ gl; rcases hat6 with e | e; cases e; omega); clear hown6 hgr6 hat6 hlt6)
          | (at_builtin; refine wpList_append_own_none rfl (.tmp 43) (.tmp 46) 91 rfl base 3 i0 1 insUnd hi0 _ (0 + 1) ([] ++ inC n) rfl HOW.out rfl ?_)
          | go_in)
        go_ret
        refine ⟨_, [n], rfl, HOW.out, List.pairwise_singleton _ _, (fun r => by rw [hl0]; simp), by simp, HO6.out, Or.inr (fun k hk => by obtain rfl : gl = k := Option.some.inj hk; exact HGL.out)⟩
      · obtain ⟨rfl, rfl⟩ : ad = some ⟨g, 0, none⟩ ∧ cap = cp := by
          simp only [Value.slice.injEq] at hv
          exact ⟨hv.1, hv.2.2⟩
        clear hv
        have e2 : (q : Int) ≤ (m : Int) := by omega
        have e4 : (q : Int) ≤ (cap : Int) := by omega
        obtain ⟨ad, had, hadr⟩ : ∃ ad : Addr, (if cap = q then some (⟨g, 0, none⟩ : Addr) else some ⟨g, q, none⟩) = some ad ∧ ((l.drop q).length = 0 ∨ ad = ⟨g, q, none⟩) := by
          by_cases hc : cap = q
          · exact ⟨_, if_pos hc, Or.inl (by rw [List.length_drop, HM.out]; omega)⟩
          · exact ⟨_, if_neg hc, Or.inr rfl⟩
        have HADR : Hid ((l.drop q).length = 0 ∨ ad = ⟨g, q, none⟩) := hadr
        have HL1 : Hid ((rowOf inC (l.take q)).length = q * 1) := by show (rowOf inC (l.take q)).length = q * 1; rw [rowOf_len inC_len, List.length_take, HM.out]; congr 1; omega
        have HL2 : Hid ((rowOf inC (l.drop q)).length = (m - q) * 1) := by show (rowOf inC (l.drop q)).length = (m - q) * 1; rw [rowOf_len inC_len, List.length_drop, HM.out]
        have HF : Hid (∀ y, l[q]? = some y → (y == n) = false) := fun y hy => beq_eq_false_iff_ne.2 (fun e => by have := HIN.out y hy; omega)
        clear hadr
        by_cases hqm : q < m
        · obtain ⟨y, hy⟩ : ∃ y, l[q]? = some y := ⟨_, List.getElem?_eq_getElem (by rw [HM.out]; exact hqm)⟩
          have c0 := int_cell H.out HM.out hy
          have dy := HF.out y hy
          have hqi : (q : Int) < m := by omega
          have hck : ¬ (cap = q) := by omega
          clear hy had
          go_wp2_with (first
            | (at_builtin; refine wpList_append_own_at _ rfl (.tmp 34) (.tmp 37) 91 rfl base 3 i0 _ 1 8 insUnd hi0 hz0 hz1 hz2 rfl (by decide) _ 0 [] rfl (World.ownsRow_nil _ _ _ _) ⟨g, 0, none⟩ q cap (rowOf inC (l.take q)) rfl HL1.out (ints_take H.out HM.out q) (rowOf_one inC_one _) (by unfold maxLen; omega) (by omega) HB.out ?_; intro v1 w6 hown1 hgr1 _ hat1; have HO6 : Hid (Only [] w w6) := (Only.refl [] w).grown hgr1 (fun k hk => by cases hk); have HV1 : Hid (w6.ownsRow base 3 1 v1 q (rowOf inC (l.take q))) := (by have hh := hown1; rw [Nat.zero_add, List.nil_append] at hh; exact hh); have HF1 : Hid (∀ k, v1.ownBlock = some k → w.heap.size ≤ k) := (fun k hk => by rcases hat1 with e | e; rw [e] at hk; cases hk; rw [e] at hk; cases hk; exact Nat.le_refl _); have HNW : Hid (∀ (p : Nat) (u : Value), (inC n)[p]? = some u → (w6.alloc (.cells #[.int .i64 n] 3)).cell? ((⟨w6.heap.size, 0, none⟩ : Addr).add p) = some u) := World.news_of_block (w := w6.alloc (.cells #[.int .i64 n] 3)) (heap_alloc_last w6 _); have HB2 : Hid (base ≤ (w6.alloc (.cells #[.int .i64 n] 3)).heap.size) := (by show base ≤ _; rw [World.size_alloc]; have := HO6.out.size; have := HB.out; omega); clear hown1 hgr1 hat1)
            | (at_builtin; refine wpList_append_own_at _ rfl (.tmp 39) (.tmp 41) 91 rfl base 3 i0 _ 1 8 insUnd hi0 hz0 hz1 hz2 rfl (by decide) v1 q (rowOf inC (l.take q)) rfl (World.ownsRow.alloc HV1.out _) ⟨w6.heap.size, 0, none⟩ 1 1 (inC n) rfl rfl HNW.out (inC_one n) (by unfold maxLen; omega) (by omega) HB2.out ?_; intro v2 w7 hown2 hgr2 _ hat2; have HO7 : Hid (Only [] w w7) := (HO6.out.alloc _).grown hgr2 (fun k hk => Or.inr (HF1.out k hk)); have HV2 : Hid (w7.ownsRow base 3 1 v2 (q + 1) (rowOf inC (l.take q) ++ inC n)) := hown2; have HF2 : Hid (∀ k, v2.ownBlock = some k → w.heap.size ≤ k) := (fun k hk => by rcases hat2 with e | e; rw [e] at hk; exact HF1.out k hk; rw [e] at hk; cases hk; rw [World.size_alloc]; exact Nat.le_trans HO6.out.size (Nat.le_succ _)); clear hown2 hgr2 hat2)
            | (at_builtin; refine wpList_append_own_at _ rfl (.tmp 43) (.tmp 46) 91 rfl base 3 i0 _ 1 8 insUnd hi0 hz0 hz1 hz2 rfl (by decide) v2 (q + 1) (rowOf inC (l.take q) ++ inC n) rfl HV2.out ⟨g, q, none⟩ (m - q) _ (rowOf inC (l.drop q)) rfl HL2.out (ints_drop (H.out.only HO7.out (fun _ _ => by simp)) HM.out q ⟨g, q, none⟩ (Or.inr rfl)) (rowOf_one inC_one _) (by unfold maxLen; omega) (by omega) (Nat.le_trans HB.out HO7.out.size) ?_; intro v3 w8 hown3 hgr3 _ hat3; have HO8 : Hid (Only [] w w8) := HO7.out.grown hgr3 (fun k hk => Or.inr (HF2.out k hk)); have HV3 : Hid (Ints w8 base v3 (l.take q ++ [n] ++ l.drop q)) := (by show Ints _ _ _ _; unfold Ints; rw [HLN.out, rowOf_append, rowOf_append, show m + 1 = q + 1 + (m - q) by omega]; exact hown3); have HF3 : Hid (∀ k, v3.ownBlock = some k → w.heap.size ≤ k) := (fun k hk => by rcases hat3 with e | e; rw [e] at hk; exact HF2.out k hk; rw [e] at hk; cases hk; exact HO7.out.size); clear hown3 hgr3 hat3)
            | go_in)
          go_ret
          exact ⟨_, _, rfl, HV3.out, HSI.out, HMI.out, (by rw [HLN.out, HM.out]; exact Nat.le_refl _), HO8.out, Or.inr HF3.out⟩
        · have hqd : decide ((q : Int) < (m : Int)) = false := decide_eq_false (by omega)
          go_wp2_with (first
            | (at_builtin; refine wpList_append_own_at _ rfl (.tmp 34) (.tmp 37) 91 rfl base 3 i0 _ 1 8 insUnd hi0 hz0 hz1 hz2 rfl (by decide) _ 0 [] rfl (World.ownsRow_nil _ _ _ _) ⟨g, 0, none⟩ q cap (rowOf inC (l.take q)) rfl HL1.out (ints_take H.out HM.out q) (rowOf_one inC_one _) (by unfold maxLen; omega) (by omega) HB.out ?_; intro v1 w6 hown1 hgr1 _ hat1; have HO6 : Hid (Only [] w w6) := (Only.refl [] w).grown hgr1 (fun k hk => by cases hk); have HV1 : Hid (w6.ownsRow base 3 1 v1 q (rowOf inC (l.take q))) := (by have hh := hown1; rw [Nat.zero_add, List.nil_append] at hh; exact hh); have HF1 : Hid (∀ k, v1.ownBlock = some k → w.heap.size ≤ k) := (fun k hk => by rcases hat1 with e | e; rw [e] at hk; cases hk; rw [e] at hk; cases hk; exact Nat.le_refl _); have HNW : Hid (∀ (p : Nat) (u : Value), (inC n)[p]? = some u → (w6.alloc (.cells #[.int .i64 n] 3)).cell? ((⟨w6.heap.size, 0, none⟩ : Addr).add p) = some u) := World.news_of_block (w := w6.alloc (.cells #[.int .i64 n] 3)) (heap_alloc_last w6 _); have HB2 : Hid (base ≤ (w6.alloc (.cells #[.int .i64 n] 3)).heap.size) := (by show base ≤ _; rw [World.size_alloc]; have := HO6.out.size; have := HB.out; omega); clear hown1 hgr1 hat1)
            | (at_builtin; refine wpList_append_own_at _ rfl (.tmp 39) (.tmp 41) 91 rfl base 3 i0 _ 1 8 insUnd hi0 hz0 hz1 hz2 rfl (by decide) v1 q (rowOf inC (l.take q)) rfl (World.ownsRow.alloc HV1.out _) ⟨w6.heap.size, 0, none⟩ 1 1 (inC n) rfl rfl HNW.out (inC_one n) (by unfold maxLen; omega) (by omega) HB2.out ?_; intro v2 w7 hown2 hgr2 _ hat2; have HO7 : Hid (Only [] w w7) := (HO6.out.alloc _).grown hgr2 (fun k hk => Or.inr (HF1.out k hk)); have HV2 : Hid (w7.ownsRow base 3 1 v2 (q + 1) (rowOf inC (l.take q) ++ inC n)) := hown2; have HF2 : Hid (∀ k, v2.ownBlock = some k → w.heap.size ≤ k) := (fun k hk => by rcases hat2 with e | e; rw [e] at hk; exact HF1.out k hk; rw [e] at hk; cases hk; rw [World.size_alloc]; exact Nat.le_trans HO6.out.size (Nat.le_succ _)); clear hown2 hgr2 hat2)
            | (at_builtin; refine wpList_append_own_at _ rfl (.tmp 43) (.tmp 46) 91 rfl base 3 i0 _ 1 8 insUnd hi0 hz0 hz1 hz2 rfl (by decide) v2 (q + 1) (rowOf inC (l.take q) ++ inC n) rfl HV2.out ad (m - q) _ (rowOf inC (l.drop q)) rfl HL2.out (ints_drop (H.out.only HO7.out (fun _ _ => by simp)) HM.out q ad HADR.out) (rowOf_one inC_one _) (by unfold maxLen; omega) (by omega) (Nat.le_trans HB.out HO7.out.size) ?_; intro v3 w8 hown3 hgr3 _ hat3; have HO8 : Hid (Only [] w w8) := HO7.out.grown hgr3 (fun k hk => Or.inr (HF2.out k hk)); have HV3 : Hid (Ints w8 base v3 (l.take q ++ [n] ++ l.drop q)) := (by show Ints _ _ _ _; unfold Ints; rw [HLN.out, rowOf_append, rowOf_append, show m + 1 = q + 1 + (m - q) by omega]; exact hown3); have HF3 : Hid (∀ k, v3.ownBlock = some k → w.heap.size ≤ k) := (fun k hk => by rcases hat3 with e | e; rw [e] at hk; exact HF2.out k hk; rw [e] at hk; cases hk; exact HO7.out.size); clear hown3 hgr3 hat3)
            | go_in)
          go_ret
          exact ⟨_, _, rfl, HV3.out, HSI.out, HMI.out, (by rw [HLN.out, HM.out]; exact Nat.le_refl _), HO8.out, Or.inr HF3.out⟩
end Go.Proofs.YtfnniphemlnanaaDoor
