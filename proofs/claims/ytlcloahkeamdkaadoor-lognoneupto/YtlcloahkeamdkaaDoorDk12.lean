/- A disk: an act of the law's, done: what it leaves. -/
import Derived.Test.YtlcloahkeamdkaaDoorDk7
import Derived.Test.YtlcloahkeamdkaaDoorDk10
import Derived.Laws.AppendOwnNone
namespace Go.Proofs.YtlcloahkeamdkaaDoor
open Go Go.RowKit Go.Deep

/-- An act: what it names. -/
structure Ac where
  K : ByteArray
  N : Int
  S : ByteArray
  ka : Option Addr
  kc : Nat
  B : List Bool
/-- What a disk is. -/
structure DSt where
  pw : Option Nat
  sec : List Sec
  wt : List Wr
def stepD (x : Ac) (s : DSt) : Nat × DSt :=
  if x.K.toList == [119, 114, 105, 116, 101] then
    (if 0 ≤ x.N ∧ x.N < s.sec.length then
      (if 64 < x.S.size then (3, s) else if s.pw = some 0 then (15, s) else (0, ⟨s.pw.map (· - 1), s.sec.set x.N.toNat (padB x.S), s.wt ++ [⟨x.N.toNat, s.sec.getD x.N.toNat zeroS, padB x.S⟩]⟩))
    else (2, s))
  else if x.K.toList == [102, 108, 117, 115, 104] then (if s.pw = some 0 then (15, s) else (0, ⟨s.pw.map (· - 1), s.sec, []⟩))
  else if x.K.toList == [102, 97, 105, 108] then (if x.N < 0 then (2, s) else (0, ⟨some x.N.toNat, s.sec, s.wt⟩))
  else if x.K.toList == [99, 114, 97, 115, 104] then (0, ⟨none, redo (keepB x.B) s.wt (undo s.sec s.wt) s.wt.length, []⟩)
  else (0, s)
def AcKeep (w : World) (x : Ac) : Prop := (x.ka = none ∧ x.B = [] ∧ x.kc = 0) ∨ ∃ ad, x.ka = some ad ∧ ∀ j v, (x.B.map Value.bool)[j]? = some v → w.cell? (ad.add j) = some v
theorem AcKeep.only {w w' : World} {x : Ac} {L : List Nat} (h : AcKeep w x) (ho : Only L w w') (hL : ∀ ad, x.ka = some ad → ad.block ∉ L) : AcKeep w' x := by
  rcases h with h | ⟨ad, e, h⟩
  · exact Or.inl h
  · refine Or.inr ⟨ad, e, fun j v hv => ?_⟩
    have hb : (ad.add j).block = ad.block := by unfold Addr.add; split <;> rfl
    have hc := h j v hv
    exact (ho.cell (p := ad.add j) (lt_of_cell hc) (by rw [hb]; exact hL ad e)).trans hc
def DoR (A : Nat → Addr) (w w' : World) (base t : Nat) (vs vw : Value) (x : Ac) (s : DSt) (e : Ending) : Prop :=
  e = .returned (errN A (stepD x s).1) ∧ ∃ vw', DkAt w' base t (stepD x s).2.pw vs vw' (stepD x s).2.sec (stepD x s).2.wt ∧ Only (dkFoot t vs vw) w w' ∧ (∀ k, vw'.ownBlock = some k → vw.ownBlock = some k ∨ w.heap.size ≤ k)
theorem boolInfo : (Tryd.prog.info? 4).map (fun i => (i.zero, i.size, i.bytes)) = some (some (.bool false), 1, 1) := by kernel_rfl
theorem boolsUnd : Tryd.prog.underlying 45 = some (.slice 4) := by kernel_rfl
/-- The bits of a row of one's own, as Crash takes them. -/
theorem keep_of {W : World} {B0 : Nat} {v : Value} {B : List Bool} {n : Nat} (h : W.ownsRow B0 4 1 v n (B.map Value.bool)) (hn : n = B.length) : ∃ ka kc, v = .slice ka B.length kc ∧ ∀ j, j < B.length → ∃ kb ko, ka = some ⟨kb, ko, none⟩ ∧ kb < W.heap.size ∧ B0 ≤ kb ∧ W.cell? ⟨kb, ko + j, none⟩ = some (.bool (keepB B j)) := by
  subst hn
  rcases h.2 with ⟨rfl, h0⟩ | ⟨g, cap, cur, rfl, hb, hg, _⟩
  · exact ⟨none, 0, by rw [h0], fun j hj => by omega⟩
  · refine ⟨_, cap, rfl, fun j hj => ⟨g, 0, rfl, (Array.getElem?_eq_some_iff.1 hg).1, hb, ?_⟩⟩
    have e : (B.map Value.bool)[j]? = some (.bool (keepB B j)) := by simp [keepB, hj]
    rw [World.ownsRow.cellAt h _ (by omega), Nat.zero_add, e]
section
variable (A : Nat → Addr) {w : World} {base t : Nat} {pw : Option Nat} {vs vw : Value} {sec : List Sec} {wt : List Wr}
theorem write_any (hE : Err3 w A) (h : DkAt w base t pw vs vw sec wt) (n : Int) (s : ByteArray) (hq : ∀ k, pw = some k → k < 9223372036854775808) (hw : wt.length ≤ 100000) (hb0 : base ≤ w.heap.size) :
    Calls Tryd.prog 35 #[.pointer (some ⟨t, 0, none⟩), .int .i64 n, .string s] w fun e w' => WriteR A w w' base t pw vs vw sec wt n s e := by
  by_cases hn : 0 ≤ n ∧ n < sec.length
  · by_cases hs : 64 < s.size
    · exact write_long A hE h n s hn hs
    · by_cases hp : pw = some 0
      · exact write_power A hE h n s hn (by omega) hp
      · obtain ⟨x0, hx0⟩ : ∃ x0, sec[n.toNat]? = some x0 := ⟨sec[n.toNat]'(by omega), List.getElem?_eq_getElem _⟩
        have en : ((n.toNat : Nat) : Int) = n := by omega
        have := write_ok A hE h n.toNat s x0 hx0 (by omega) hp hq hw hb0
        rw [en] at this
        refine this.mono fun e w' q => ?_
        obtain ⟨he, vw', h1, h2, h3⟩ := q
        exact Or.inr (Or.inr (Or.inr ⟨hn, by omega, hp, he, vw', x0, hx0, h1, h2, h3⟩))
  · exact write_bad A hE h n s hn
end
set_option maxRecDepth 100000 in
set_option maxHeartbeats 2000000 in
theorem doAct_ok (A : Nat → Addr) {w : World} {base t : Nat} {vs vw : Value} {s : DSt} (hE : Err3 w A) (h : DkAt w base t s.pw vs vw s.sec s.wt) (x : Ac) (hx : AcKeep w x) (hl : x.B.length ≤ 2000000) (hq : ∀ k, s.pw = some k → k < 9223372036854775808) (hw : s.wt.length ≤ 100000) (hb0 : base ≤ w.heap.size) :
    Calls Tryd.prog 19 #[.pointer (some ⟨t, 0, none⟩), .agg #[.string x.K, .int .i64 x.N, .string x.S, .slice x.ka x.B.length x.kc]] w fun e w' => DoR A w w' base t vs vw x s e := by
  obtain ⟨W, hW⟩ : ∃ W, w.alloc (.cells #[.string x.K, .int .i64 x.N, .string x.S, .slice x.ka x.B.length x.kc] 52) = W := ⟨_, rfl⟩
  have ho : Only [] w W := by rw [← hW]; exact (Only.refl [] w).alloc _
  have hE1 : Err3 W A := hE.below (ho.to_below (Nat.le_refl _) (fun _ h => by cases h)) (Nat.le_refl _)
  have hD := h.keep ho
  have hb1 : base ≤ W.heap.size := Nat.le_trans hb0 ho.size
  have HWR : Hid (Calls Tryd.prog 35 #[.pointer (some ⟨t, 0, none⟩), .int .i64 x.N, .string x.S] W fun e w' => ∃ v, e = .returned v ∧ WriteR A W w' base t s.pw vs vw s.sec s.wt x.N x.S (.returned v)) := (write_any A hE1 hD x.N x.S hq hw hb1).mono fun e w' q => by
    rcases q with ⟨a, rfl, b⟩ | ⟨a, b, rfl, c⟩ | ⟨a, b, c, rfl, d⟩ | ⟨a, b, c, rfl, d⟩
    · exact ⟨_, rfl, Or.inl ⟨a, rfl, b⟩⟩
    · exact ⟨_, rfl, Or.inr (Or.inl ⟨a, b, rfl, c⟩)⟩
    · exact ⟨_, rfl, Or.inr (Or.inr (Or.inl ⟨a, b, c, rfl, d⟩))⟩
    · exact ⟨_, rfl, Or.inr (Or.inr (Or.inr ⟨a, b, c, rfl, d⟩))⟩
  have HFL : Hid (Calls Tryd.prog 36 #[.pointer (some ⟨t, 0, none⟩)] W fun e w' => ∃ v, e = .returned v ∧ FlushR A W w' base t s.pw vs s.sec (.returned v)) := (flush_any A hE1 hD hq).mono fun e w' q => by
    rcases q with ⟨a, rfl, b⟩ | ⟨a, rfl, b⟩
    · exact ⟨_, rfl, Or.inl ⟨a, rfl, b⟩⟩
    · exact ⟨_, rfl, Or.inr ⟨a, rfl, b⟩⟩
  have HFA : Hid (Calls Tryd.prog 17 #[.pointer (some ⟨t, 0, none⟩), .int .i64 x.N] W fun e w' => ∃ v, e = .returned v ∧ FailR A W w' base t vs vw s.sec s.wt x.N (.returned v)) := (fail_any A hE1 hD x.N).mono fun e w' q => by
    rcases q with ⟨a, rfl, b⟩ | ⟨a, rfl, b⟩
    · exact ⟨_, rfl, Or.inl ⟨a, rfl, b⟩⟩
    · exact ⟨_, rfl, Or.inr ⟨a, rfl, b⟩⟩
  have HEND : Hid (∀ w' c s' vw', stepD x s = (c, s') → DkAt w' base t s'.pw vs vw' s'.sec s'.wt → Only (dkFoot t vs vw) W w' → (∀ k, vw'.ownBlock = some k → vw.ownBlock = some k ∨ w.heap.size ≤ k) → DoR A w w' base t vs vw x s (.returned (errN A c))) := fun w' c s' vw' he h1 h2 h3 => by
    refine ⟨by rw [he], vw', by rw [he]; exact h1, (ho.mono (fun _ h => by cases h)).trans h2 (fun k hk => Or.inl hk), h3⟩
  have HS : Hid (∀ w', w' = W → DkAt w' base t s.pw vs vw s.sec s.wt ∧ Only (dkFoot t vs vw) W w') := fun w' e => by
    subst e
    exact ⟨hD, Only.refl _ _⟩
  have hsz : w.heap.size ≤ W.heap.size := ho.size
  have b0 : W.cell? ⟨w.heap.size, 0, none⟩ = some (.string x.K) ∧ W.cell? ⟨w.heap.size, 1, none⟩ = some (.int .i64 x.N) ∧ W.cell? ⟨w.heap.size, 2, none⟩ = some (.string x.S) ∧ W.cell? ⟨w.heap.size, 3, none⟩ = some (.slice x.ka x.B.length x.kc) := by
    have := heap_alloc_last w (.cells #[.string x.K, .int .i64 x.N, .string x.S, .slice x.ka x.B.length x.kc] 52)
    rw [hW] at this
    exact ⟨cell_of_row _ _ 0 _ _ _ this, cell_of_row _ _ 1 _ _ _ this, cell_of_row _ _ 2 _ _ _ this, cell_of_row _ _ 3 _ _ _ this⟩
  obtain ⟨k0, k1, k2, k3⟩ := b0
  have hkl := lt_of_cell k0
  have HD : Hid (DkAt W base t s.pw vs vw s.sec s.wt) := hD
  have HX : Hid (AcKeep W x) := hx.only ho (fun _ _ => by simp)
  have HT : Hid (t < w.heap.size ∧ base ≤ w.heap.size ∧ ∀ k ∈ dkFoot t vs vw, k < w.heap.size) := ⟨h.lt, hb0, fun k hk => by
    obtain ⟨c, ty, f, e⟩ := h.foot_cells hk
    exact (Array.getElem?_eq_some_iff.1 e).1⟩
  clear h hE hE1 hD hx ho hb1
  subst hW
  cases hk1 : (x.K.toList == [119, 114, 105, 116, 101]) with
  | true =>
    go_enter Tryd.func19, Tryd.ntmps19
    go_wp2_with (go_at_call 35; refine HWR.out.mono ?_; rintro e w1 ⟨v, rfl, hr⟩; have HR : Hid (WriteR A _ w1 base t s.pw vs vw s.sec s.wt x.N x.S (.returned v)) := hr; clear hr)
    go_ret
    rcases HR.out with ⟨a, e, b⟩ | ⟨a, b, e, c⟩ | ⟨a, b, c, e, d⟩ | ⟨a, b, c, e, vw', x0, hx0, h1, h2, h3⟩
    · rw [show v = errN A 2 from Ending.returned.inj e]
      exact HEND.out w1 2 s vw (by simp [stepD, hk1, a]) (HS.out w1 b).1 (HS.out w1 b).2 (fun k hk => Or.inl hk)
    · rw [show v = errN A 3 from Ending.returned.inj e]
      exact HEND.out w1 3 s vw (by simp [stepD, hk1, a, b]) (HS.out w1 c).1 (HS.out w1 c).2 (fun k hk => Or.inl hk)
    · rw [show v = errN A 15 from Ending.returned.inj e]
      exact HEND.out w1 15 s vw (by simp [stepD, hk1, a, c, Nat.not_lt.2 b]) (HS.out w1 d).1 (HS.out w1 d).2 (fun k hk => Or.inl hk)
    · rw [show v = errN A 0 from Ending.returned.inj e]
      exact HEND.out w1 0 ⟨s.pw.map (· - 1), s.sec.set x.N.toNat (padB x.S), s.wt ++ [⟨x.N.toNat, x0, padB x.S⟩]⟩ vw' (by simp [stepD, hk1, a, c, Nat.not_lt.2 b]; exact (List.getElem?_eq_some_iff.1 hx0).2) h1 h2 (fun k hk => (h3 k hk).imp id (fun h => Nat.le_trans hsz h))
  | false =>
    cases hk2 : (x.K.toList == [102, 108, 117, 115, 104]) with
    | true =>
      go_enter Tryd.func19, Tryd.ntmps19
      go_wp2_with (go_at_call 36; refine HFL.out.mono ?_; rintro e w1 ⟨v, rfl, hr⟩; have HR : Hid (FlushR A _ w1 base t s.pw vs s.sec (.returned v)) := hr; clear hr)
      go_ret
      rcases HR.out with ⟨a, e, b⟩ | ⟨a, e, h1, h2⟩
      · rw [show v = errN A 15 from Ending.returned.inj e]
        exact HEND.out w1 15 s vw (by simp [stepD, hk1, hk2, a]) (HS.out w1 b).1 (HS.out w1 b).2 (fun k hk => Or.inl hk)
      · rw [show v = errN A 0 from Ending.returned.inj e]
        exact HEND.out w1 0 ⟨s.pw.map (· - 1), s.sec, []⟩ _ (by simp [stepD, hk1, hk2, a]) h1 (h2.mono (fun k hk => Or.inl (mem_foot.2 (Or.inl (by simpa using hk))))) (fun k hk => by cases hk)
    | false =>
      cases hk3 : (x.K.toList == [102, 97, 105, 108]) with
      | true =>
        go_enter Tryd.func19, Tryd.ntmps19
        go_wp2_with (go_at_call 17; refine HFA.out.mono ?_; rintro e w1 ⟨v, rfl, hr⟩; have HR : Hid (FailR A _ w1 base t vs vw s.sec s.wt x.N (.returned v)) := hr; clear hr)
        go_ret
        rcases HR.out with ⟨a, e, b⟩ | ⟨a, e, h1, h2⟩
        · rw [show v = errN A 2 from Ending.returned.inj e]
          exact HEND.out w1 2 s vw (by simp [stepD, hk1, hk2, hk3, a]) (HS.out w1 b).1 (HS.out w1 b).2 (fun k hk => Or.inl hk)
        · rw [show v = errN A 0 from Ending.returned.inj e]
          exact HEND.out w1 0 ⟨some x.N.toNat, s.sec, s.wt⟩ _ (by simp [stepD, hk1, hk2, hk3, Int.not_lt.2 a]) h1 (h2.mono (fun k hk => Or.inl (mem_foot.2 (Or.inl (by simpa using hk))))) (fun k hk => Or.inl hk)
      | false =>
        cases hk4 : (x.K.toList == [99, 114, 97, 115, 104]) with
        | false =>
          go_enter Tryd.func19, Tryd.ntmps19
          go_wp2
          go_ret
          exact HEND.out _ 0 s vw (by simp [stepD, hk1, hk2, hk3, hk4]) (HS.out _ rfl).1 (HS.out _ rfl).2 (fun k hk => Or.inl hk)
        | true =>
          have HCR : Hid (∀ W' v', Only [] (w.alloc (.cells #[.string x.K, .int .i64 x.N, .string x.S, .slice x.ka x.B.length x.kc] 52)) W' → W'.ownsRow w.heap.size 4 1 v' (0 + x.B.length) ([] ++ x.B.map Value.bool) → Calls Tryd.prog 16 #[.pointer (some ⟨t, 0, none⟩), v'] W' fun e w' => (∃ v, e = .returned v) ∧ DoR A w w' base t vs vw x s (.returned .nilIface)) := fun W' v' ho hr => by
            rw [Nat.zero_add, List.nil_append] at hr
            obtain ⟨ka, kc, rfl, hkp⟩ := keep_of hr rfl
            have hd := HD.out.keep ho
            refine (callsIn_wide.1 (crash_in hd ka x.B.length kc (keepB x.B) (fun j hj => ?_) (fun j hj => by simp [keepB, List.getD, List.getElem?_eq_none hj]) (by omega))).mono fun e w' q => ⟨q.1, ?_⟩
            · obtain ⟨kb, ko, e, h1, h2, h3⟩ := hkp j hj
              refine ⟨kb, ko, e, h1, fun hm => ?_, h3⟩
              have := HT.out.2.2 kb hm
              omega
            · exact HEND.out w' 0 ⟨none, redo (keepB x.B) s.wt (undo s.sec s.wt) s.wt.length, []⟩ _ (by simp [stepD, hk1, hk2, hk3, hk4]) q.2.1 ((ho.mono (fun _ h => by cases h)).trans q.2.2 (fun k hk => Or.inl hk)) (fun k hk => by cases hk)
          obtain ⟨i0, hi0, hz⟩ := Option.map_eq_some_iff.1 boolInfo
          simp only [Prod.mk.injEq] at hz
          obtain ⟨hz0, hz1, hz2⟩ := hz
          rcases HX.out with ⟨e1, e2, e3⟩ | ⟨ad, e1, hcl⟩
          · have HC0 := HCR.out _ (.slice none 0 0) (Only.refl _ _) (by rw [e2]; exact World.ownsRow_nil _ _ _ _)
            have HC : Hid (Calls Tryd.prog 16 #[.pointer (some ⟨t, 0, none⟩), .slice none 0 0] (w.alloc (.cells #[.string x.K, .int .i64 x.N, .string x.S, .slice x.ka x.B.length x.kc] 52)) fun e w' => (∃ v, e = .returned v) ∧ DoR A w w' base t vs vw x s (.returned .nilIface)) := HC0
            clear HC0
            have E4 : Hid (Value.slice x.ka x.B.length x.kc = .slice none 0 0) := (by rw [e1, e2, e3]; rfl : Value.slice x.ka x.B.length x.kc = .slice none 0 0)
            clear e1 e2 e3
            go_enter Tryd.func19, Tryd.ntmps19
            go_wp2_with (first
              | (at_builtin; refine wpList_append_own_none rfl (.tmp 29) (.tmp 31) 45 rfl w.heap.size 4 i0 1 boolsUnd hi0 (.slice none 0 0) 0 [] rfl (World.ownsRow_nil _ _ _ _) E4.out ?_)
              | (go_at_call 16; refine HC.out.mono ?_; rintro e w1 ⟨⟨v, rfl⟩, hr⟩; have HR : Hid (DoR A w w1 base t vs vw x s (.returned .nilIface)) := hr; clear hr))
            go_ret
            exact HR.out
          · have E4 : Hid (Value.slice x.ka x.B.length x.kc = .slice (some ad) x.B.length x.kc) := (by rw [e1] : Value.slice x.ka x.B.length x.kc = .slice (some ad) x.B.length x.kc)
            clear e1
            have HCL : Hid (∀ j v, (x.B.map Value.bool)[j]? = some v → (w.alloc (.cells #[.string x.K, .int .i64 x.N, .string x.S, .slice x.ka x.B.length x.kc] 52)).cell? (ad.add j) = some v) := hcl
            clear hcl
            go_enter Tryd.func19, Tryd.ntmps19
            go_wp2_with (first
              | (at_builtin; refine wpList_append_own _ rfl (.tmp 29) (.tmp 31) 45 rfl w.heap.size 4 i0 _ 1 1 boolsUnd hi0 hz0 hz1 hz2 rfl (by decide) (.slice none 0 0) 0 [] rfl (World.ownsRow_nil _ _ _ _) ad x.B.length x.kc (x.B.map Value.bool) E4.out (by simp) HCL.out (fun u hu => by obtain ⟨q, _, rfl⟩ := List.mem_map.1 hu; rfl) (by unfold maxLen; omega) (by omega) (by simp) ?_; intro v6 w6 hown6 hgr6 _; have HC : Hid (Calls Tryd.prog 16 #[.pointer (some ⟨t, 0, none⟩), v6] w6 fun e w' => (∃ v, e = .returned v) ∧ DoR A w w' base t vs vw x s (.returned .nilIface)) := HCR.out w6 v6 ((Only.refl [] _).grown hgr6 (fun k hk => by cases hk)) hown6; clear hown6 hgr6)
              | (go_at_call 16; refine HC.out.mono ?_; rintro e w1 ⟨⟨v, rfl⟩, hr⟩; have HR : Hid (DoR A w w1 base t vs vw x s (.returned .nilIface)) := hr; clear hr))
            go_ret
            exact HR.out
end Go.Proofs.YtlcloahkeamdkaaDoor
