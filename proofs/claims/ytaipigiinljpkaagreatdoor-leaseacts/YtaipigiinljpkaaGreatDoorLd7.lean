/- LeaseActs: SameInts; both tables side by side. -/
import Derived.Test.YtaipigiinljpkaaGreatDoorLd6
import Derived.Test.YtaipigiinljpkaaGreatDoorLs11
namespace Go.Proofs.YtaipigiinljpkaaGreatDoor
open Go Go.RowKit Go.Deep

set_option maxRecDepth 100000 in
set_option maxHeartbeats 2000000 in
theorem sameInts_any (w : World) (b1 b2 : Nat) (v1 v2 : Value) (xs : List Int) (h1 : Nums w b1 v1 xs) (h2 : Nums w b2 v2 xs) (hl : xs.length ≤ 1000) :
    Calls Tryz.prog 15 #[v1, v2] w fun e w' => e = .returned (.bool true) ∧ Only [] w w' := by
  obtain ⟨a1, c1, rfl, k1⟩ := row_ones h1
  obtain ⟨a2, c2, rfl, k2⟩ := row_ones h2
  have K1 : Hid (∀ j s, xs[j]? = some s → ∃ g, a1 = some ⟨g, 0, none⟩ ∧ b1 ≤ g ∧ g < w.heap.size ∧ w.cell? ⟨g, j, none⟩ = some (.int .i64 s)) := k1
  have K2 : Hid (∀ j s, xs[j]? = some s → ∃ g, a2 = some ⟨g, 0, none⟩ ∧ b2 ≤ g ∧ g < w.heap.size ∧ w.cell? ⟨g, j, none⟩ = some (.int .i64 s)) := k2
  obtain ⟨n, hn⟩ : ∃ n, xs.length = n := ⟨_, rfl⟩
  have HN : Hid (xs.length = n) := hn
  rw [hn] at hl ⊢
  clear h1 h2 k1 k2 hn
  go_enter Tryz.func15, Tryz.ntmps15
  go_wp2
  go_loopw [5] (fun i wr => ∃ j : Nat, i = .int .i64 (j : Nat) ∧ j ≤ n ∧ Only [] w wr) (fun i _ => n - (intOf i).toNat)
  case atStart => exact ⟨0, rfl, Nat.zero_le _, Only.refl _ _⟩
  case round =>
    obtain ⟨j, rfl, hj, hO⟩ := hrel
    have HO : Hid (Only [] w wr) := hO
    clear hO
    by_cases hlt : j < n
    · obtain ⟨x, hx⟩ := get_lt HN.out hlt
      obtain ⟨g1, rfl, _, _, q1⟩ := K1.out j x hx
      obtain ⟨g2, rfl, _, _, q2⟩ := K2.out j x hx
      have p1 := (HO.out.cell (p := ⟨g1, j, none⟩) (lt_of_cell q1) (by simp)).trans q1
      have p2 := (HO.out.cell (p := ⟨g2, j, none⟩) (lt_of_cell q2) (by simp)).trans q2
      clear q1 q2 hx
      go_wp2
      go_big_quiet (fail)
      go_wp2
      go_roundw
      case rel => exact ⟨j + 1, by go_num, by omega, HO.out.drewsN _⟩
      case measure => simp [intOf]; omega
    · obtain rfl : j = n := by omega
      have hj2 : decide ((j : Int) < j) = false := decide_eq_false (by omega)
      go_wp2
      go_ret
      exact ⟨rfl, HO.out⟩
/-! ### both tables -/
structure MemV9 (W w : World) (t mb m : Nat) (v : Value) (lp ld now : Nat) (l : List Cli) (L : List Rc) : Prop where
  ls : LsV W w t mb lp l
  rl : RlsAt w W.heap.size m v ld now L
  hm : W.heap.size ≤ m
section
variable {W w w' : World} {t mb m lp ld now lp' ld' now' : Nat} {v v' : Value} {l l' : List Cli} {L L' : List Rc}
theorem MemV9.mt (h : MemV9 W w t mb m v lp ld now l L) : m ≠ t := fun e => by
  have h1 := h.rl.tab
  rw [e, h.ls.ls.tab] at h1
  simp at h1
theorem MemV9.mmb (h : MemV9 W w t mb m v lp ld now l L) : m ≠ mb := fun e => own_ne_block h.ls.ls.own h.rl.tab e.symm
theorem MemV9.vt (h : MemV9 W w t mb m v lp ld now l L) {k : Nat} (hk : v.ownBlock = some k) : k ≠ t ∧ k ≠ mb := by
  obtain ⟨_, _, cur, hc⟩ := own_block h.rl.own hk
  refine ⟨fun e => ?_, fun e => own_ne_block h.ls.ls.own hc e.symm⟩
  rw [e, h.ls.ls.tab] at hc
  simp at hc
theorem MemV9.only (h : MemV9 W w t mb m v lp ld now l L) (ho : Only [] w w') : MemV9 W w' t mb m v lp ld now l L := ⟨h.ls.only ho, h.rl.only ho, h.hm⟩
theorem MemV9.prog (h : MemV9 W w t mb m v lp ld now l L) (hs : LsV W w' t mb lp' l') (ho : Only [t, mb] w w') : MemV9 W w' t mb m v lp' ld now l' L :=
  ⟨hs, h.rl.kept ho (by have := h.mt; have := h.mmb; simp [*]) (fun k hk => by have := h.vt hk; simp [this]), h.hm⟩
theorem MemV9.doc {K : List Nat} (h : MemV9 W w t mb m v lp ld now l L) (hs : RlsAt w' W.heap.size m v' ld' now' L') (ho : Only K w w') (h1 : t ∉ K) (h2 : mb ∉ K) (hb : ∀ k ∈ K, W.heap.size ≤ k) : MemV9 W w' t mb m v' lp ld' now' l L' :=
  ⟨⟨h.ls.ls.kept ho h1 h2, h.ls.below.trans (ho.to_below h.ls.below.size hb), h.ls.ht, h.ls.hm⟩, hs, h.hm⟩
theorem MemV9.docM (h : MemV9 W w t mb m v lp ld now l L) (hs : RlsAt w' W.heap.size m v' ld' now' L') (ho : Only [m] w w') : MemV9 W w' t mb m v' lp ld' now' l L' :=
  h.doc hs ho (by simpa using h.mt.symm) (by simpa using h.mmb.symm) (fun k hk => by rw [List.mem_singleton.1 hk]; exact h.hm)
end
structure Mem9 (W w : World) (t mb m lp ld now : Nat) (l : List Cli) (L : List Rc) : Prop where
  ex : ∃ v, MemV9 W w t mb m v lp ld now l L
section
variable {W w w' : World} {t mb m lp ld now : Nat} {l l' : List Cli} {L : List Rc} {A : Nat → Addr}
theorem Mem9.only (h : Mem9 W w t mb m lp ld now l L) (ho : Only [] w w') : Mem9 W w' t mb m lp ld now l L := by
  obtain ⟨v, h⟩ := h
  exact ⟨v, h.only ho⟩
theorem Mem9.below (h : Mem9 W w t mb m lp ld now l L) : Below W.heap.size W w := by
  obtain ⟨v, h⟩ := h
  exact h.ls.below
/-! ### Register -/
def RRegA (last : Nat) (L : List Rc) (s : ByteArray) (c id : Nat) (last' : Nat) (L' : List Rc) : Prop :=
  (¬ OkN s ∧ c = 4 ∧ id = 0 ∧ last' = last ∧ L' = L) ∨
  (OkN s ∧ s.data.toList ∉ namesD L ∧ 12 ≤ (namesD L).length ∧ c = 9 ∧ id = 0 ∧ last' = last ∧ L' = L) ∨
  (OkN s ∧ (s.data.toList ∈ namesD L ∨ (namesD L).length < 12) ∧ c = 0 ∧ id = last + 1 ∧ last' = last + 1 ∧ L' = regD last L s.data.toList)
theorem Mem9.regP (h : Mem9 W w t mb m lp ld now l L) (hE : Errs W A) (s : ByteArray) (n : Int) (hl : lp ≤ 1000000) :
    Calls Tryz.prog 6 #[.pointer (some ⟨t, 0, none⟩), .string s, .int .i64 n] w fun e w' => ∃ c id r lp' l', e = .returned (.tuple #[.int .i64 (id : Nat), .int .i64 (id : Nat), r]) ∧ RegA A lp l s c id r lp' l' ∧ Mem9 W w' t mb m lp' ld now l' L ∧ Only [t, mb] w w' := by
  obtain ⟨v, h⟩ := h
  refine (h.ls.reg hE s n hl).mono fun e w' hh => ?_
  obtain ⟨c, id, r, lp', l', he, hr, hs, ho⟩ := hh
  exact ⟨c, id, r, lp', l', he, hr, ⟨v, h.prog hs ho⟩, ho⟩
theorem Mem9.regD (h : Mem9 W w t mb m lp ld now l' L) (s : ByteArray) (hl : L.length ≤ 100) (hd : ld ≤ 1000000) :
    Calls Tryz.prog 7 #[.pointer (some ⟨m, 0, none⟩), .string s] w fun e w' => ∃ c id ld' L', e = .returned (.tuple #[.int .i64 (id : Nat), .int .i64 (c : Nat)]) ∧ RRegA ld L s c id ld' L' ∧ Mem9 W w' t mb m lp ld' now l' L' := by
  obtain ⟨v, h⟩ := h
  refine (rreg_any w _ m v ld now L s h.rl hl hd h.ls.size).mono fun e w' hh => ?_
  rcases hh with ⟨h1, he, ho⟩ | ⟨h1, h2, h3, he, ho⟩ | ⟨h1, h2, he, v', hv, ho, _⟩
  · exact ⟨4, 0, ld, L, he, Or.inl ⟨h1, rfl, rfl, rfl, rfl⟩, v, h.only ho⟩
  · exact ⟨9, 0, ld, L, he, Or.inr (Or.inl ⟨h1, h2, h3, rfl, rfl, rfl, rfl⟩), v, h.only ho⟩
  · exact ⟨0, ld + 1, ld + 1, _, he, Or.inr (Or.inr ⟨h1, h2, rfl, rfl, rfl, rfl⟩), v', h.docM hv ho⟩
theorem told_k {k : Nat} (h : k < 15) : Told A (k + 1) (sErr A k) := Or.inr ⟨k, h, rfl, rfl⟩
theorem told_0 : Told A 0 .nilIface := Or.inl ⟨rfl, rfl⟩
theorem pair_reg {last now c c2 id id2 last' last2 : Nat} {l l' : List Cli} {L L' : List Rc} {s : ByteArray} {r : Value} (hp : PairC last now l L) (h : RegA A last l s c id r last' l') (h2 : RRegA last L s c2 id2 last2 L') : c2 = c ∧ id2 = id ∧ last2 = last' ∧ PairC last' now l' L' ∧ Told A c r ∧ last' ≤ last + 1 := by
  have hk := hp.known s.data.toList
  have hc := hp.count
  rcases h with ⟨a1, rfl, rfl, rfl, rfl, rfl⟩ | ⟨a1, a2, a3, rfl, rfl, rfl, rfl, rfl⟩ | ⟨a1, a2, rfl, rfl, rfl, rfl, rfl⟩
  · rcases h2 with ⟨_, rfl, rfl, rfl, rfl⟩ | ⟨b1, _⟩ | ⟨b1, _⟩
    · exact ⟨rfl, rfl, rfl, hp, told_k (by decide), Nat.le_succ _⟩
    · exact (a1 b1).elim
    · exact (a1 b1).elim
  · rcases h2 with ⟨b1, _⟩ | ⟨_, _, _, rfl, rfl, rfl, rfl⟩ | ⟨_, b2, _⟩
    · exact (b1 a1).elim
    · exact ⟨rfl, rfl, rfl, hp, told_k (by decide), Nat.le_succ _⟩
    · exfalso
      rcases b2 with b2 | b2
      · exact hk.1 b2 a2
      · omega
  · rcases h2 with ⟨b1, _⟩ | ⟨_, b2, b3, _⟩ | ⟨_, _, rfl, rfl, rfl, rfl⟩
    · exact (b1 a1).elim
    · exfalso
      rcases a2 with a2 | a2
      · exact b2 (hk.2 a2)
      · omega
    · exact ⟨rfl, rfl, rfl, hp.reg a2, told_0, Nat.le_refl _⟩
/-! ### Confirm -/
def RConfA (now : Nat) (L : List Rc) (id key : Int) (c gone : Nat) (L' : List Rc) : Prop :=
  ((∀ x ∈ L, (x.I : Int) ≠ id) ∧ c = 5 ∧ gone = 0 ∧ L' = L) ∨
  (∃ x ∈ L, (x.I : Int) = id ∧ key ≠ id ∧ c = 3 ∧ gone = 0 ∧ L' = L) ∨
  (∃ x ∈ L, (x.I : Int) = id ∧ key = id ∧ c = 0 ∧ gone = goneD id x.s L ∧ L' = confD now id x.s L)
theorem Mem9.confP (h : Mem9 W w t mb m lp ld now l L) (hE : Errs W A) (id key : Int) :
    Calls Tryz.prog 9 #[.pointer (some ⟨t, 0, none⟩), .int .i64 id, .int .i64 key] w fun e w' => ∃ c gone r l', e = .returned (.tuple #[.int .i64 (gone : Nat), r]) ∧ ConfA A l id key c gone r l' ∧ Mem9 W w' t mb m lp ld now l' L ∧ Only [t, mb] w w' := by
  obtain ⟨v, h⟩ := h
  refine (h.ls.conf hE id key).mono fun e w' hh => ?_
  obtain ⟨c, gone, r, l', he, hr, hs, ho⟩ := hh
  exact ⟨c, gone, r, l', he, hr, ⟨v, h.prog hs ho⟩, ho⟩
theorem Mem9.confD (h : Mem9 W w t mb m lp ld now l' L) (id key : Int) (hl : L.length ≤ 100) :
    Calls Tryz.prog 10 #[.pointer (some ⟨m, 0, none⟩), .int .i64 id, .int .i64 key] w fun e w' => ∃ c gone L', e = .returned (.tuple #[.int .i64 (gone : Nat), .int .i64 (c : Nat)]) ∧ RConfA now L id key c gone L' ∧ Mem9 W w' t mb m lp ld now l' L' := by
  obtain ⟨v, h⟩ := h
  refine (rconf_any w _ m v ld now L id key h.rl hl h.ls.size).mono fun e w' hh => ?_
  rcases hh with ⟨h1, he, ho⟩ | ⟨x, hx, h1, h2, he, ho⟩ | ⟨x, hx, h1, h2, he, v', hv, ho, _⟩
  · exact ⟨5, 0, L, he, Or.inl ⟨h1, rfl, rfl, rfl⟩, v, h.only ho⟩
  · exact ⟨3, 0, L, he, Or.inr (Or.inl ⟨x, hx, h1, h2, rfl, rfl, rfl⟩), v, h.only ho⟩
  · exact ⟨0, _, _, he, Or.inr (Or.inr ⟨x, hx, h1, h2, rfl, rfl, rfl⟩), v', h.docM hv ho⟩
theorem pair_conf {last now c c2 g g2 : Nat} {l l' : List Cli} {L L' : List Rc} {id key : Int} {r : Value} (hp : PairC last now l L) (h : ConfA A l id key c g r l') (h2 : RConfA now L id key c2 g2 L') : c2 = c ∧ g2 = g ∧ PairC last now l' L' ∧ Told A c r := by
  rcases h with ⟨a1, rfl, rfl, rfl, rfl⟩ | ⟨x, hx, a1, a2, rfl, rfl, rfl, rfl⟩ | ⟨x, hx, a1, a2, rfl, rfl, rfl, rfl⟩
  · have hn := hp.none_of a1
    rcases h2 with ⟨_, rfl, rfl, rfl⟩ | ⟨y, hy, b1, _⟩ | ⟨y, hy, b1, _⟩
    · exact ⟨rfl, rfl, hp, told_k (by decide)⟩
    · exact (hn y hy b1).elim
    · exact (hn y hy b1).elim
  · obtain ⟨z, hz, hzi⟩ := hp.there hx a1
    rcases h2 with ⟨b1, _⟩ | ⟨y, hy, b1, _, rfl, rfl, rfl⟩ | ⟨y, hy, b1, b2, _⟩
    · exact (b1 z hz hzi).elim
    · exact ⟨rfl, rfl, hp, told_k (by decide)⟩
    · exact (a2 b2).elim
  · obtain ⟨z, hz, hzi⟩ := hp.there hx a1
    rcases h2 with ⟨b1, _⟩ | ⟨y, hy, b1, b2, _⟩ | ⟨y, hy, b1, _, rfl, rfl, rfl⟩
    · exact (b1 z hz hzi).elim
    · exact (b2 a2).elim
    · have hs := (hp.at_of hx a1 hy b1).1
      rw [hs]
      exact ⟨rfl, hp.gone hx a1, hp.conf hx a1, told_0⟩
/-! ### Renew -/
def RRenA (now : Nat) (L : List Rc) (id : Int) (c : Nat) (L' : List Rc) : Prop :=
  (∃ (k : Nat) (x : Rc), L[k]? = some x ∧ (x.I : Int) = id ∧ x.c = true ∧ c = 0 ∧ L' = L.set k ⟨x.I, now, x.s, x.c⟩) ∨ ((∀ x ∈ L, ¬ ((x.I : Int) = id ∧ x.c = true)) ∧ c = 5 ∧ L' = L)
theorem Mem9.renP (h : Mem9 W w t mb m lp ld now l L) (hE : Errs W A) (id : Int) :
    Calls Tryz.prog 11 #[.pointer (some ⟨t, 0, none⟩), .int .i64 id] w fun e w' => ∃ c r l', e = .returned r ∧ RenA A l id c r l' ∧ Mem9 W w' t mb m lp ld now l' L ∧ Only [t, mb] w w' := by
  obtain ⟨v, h⟩ := h
  refine (h.ls.ren hE id).mono fun e w' hh => ?_
  obtain ⟨c, r, l', he, hr, hs, ho⟩ := hh
  exact ⟨c, r, l', he, hr, ⟨v, h.prog hs ho⟩, ho⟩
theorem Mem9.renD (h : Mem9 W w t mb m lp ld now l' L) (id : Int) (hl : L.length ≤ 100) :
    Calls Tryz.prog 12 #[.pointer (some ⟨m, 0, none⟩), .int .i64 id] w fun e w' => ∃ c L', e = .returned (.int .i64 (c : Nat)) ∧ RRenA now L id c L' ∧ Mem9 W w' t mb m lp ld now l' L' ∧ (∀ k, w.heap[k]? = none ∨ (∃ cs ty fr, w.heap[k]? = some (.cells cs ty fr) ∧ ty ≠ 67) → k < w.heap.size → w'.heap[k]? = w.heap[k]?) := by
  obtain ⟨v, h⟩ := h
  refine (rren_any w _ m v ld now L id h.rl hl).mono fun e w' hh => ?_
  rcases hh with ⟨k, x, h1, h2, h3, he, hv, ho⟩ | ⟨h1, he, ho⟩
  · refine ⟨0, _, he, Or.inl ⟨k, x, h1, h2, h3, rfl, rfl⟩, ⟨v, h.doc hv ho (fun hk => (h.vt (by simpa using hk)).1 rfl) (fun hk => (h.vt (by simpa using hk)).2 rfl) (fun b hb => (own_block h.rl.own (by simpa using hb)).1)⟩, fun b hb hlt => ho.block b hlt (fun hm => ?_)⟩
    obtain ⟨_, _, cur, hc⟩ := own_block h.rl.own (by simpa using hm)
    rcases hb with hb | ⟨cs, ty, fr, hb, hne⟩
    · rw [hb] at hc; cases hc
    · rw [hb] at hc
      simp at hc
      exact hne hc.2.1
  · exact ⟨5, L, he, Or.inr ⟨h1, rfl, rfl⟩, ⟨v, h.only ho⟩, fun b _ hlt => ho.block b hlt (by simp)⟩
theorem pair_ren {last now c c2 : Nat} {l l' : List Cli} {L L' : List Rc} {id : Int} {r : Value} (hp : PairC last now l L) (h : RenA A l id c r l') (h2 : RRenA now L id c2 L') : c2 = c ∧ PairC last now l' L' ∧ Told A c r := by
  rcases h with ⟨x, hx, a1, a2, rfl, rfl, rfl⟩ | ⟨a1, rfl, rfl, rfl⟩
  · rcases h2 with ⟨k, y, b1, b2, b3, rfl, rfl⟩ | ⟨b1, _⟩
    · exact ⟨rfl, hp.ren hx b1 b3 (by omega) (by omega), told_0⟩
    · obtain ⟨z, hz, hzi, hzc, _⟩ := hp.live_of hx a1 a2
      exact (b1 z hz ⟨hzi, hzc⟩).elim
  · rcases h2 with ⟨k, y, b1, b2, b3, rfl, rfl⟩ | ⟨_, rfl, rfl⟩
    · obtain ⟨x, hx, h1, h3, _⟩ := hp.live (List.mem_of_getElem? b1) b2 b3
      exact (a1 x hx ⟨(hasB_iff.1 h3).1, h1⟩).elim
    · exact ⟨rfl, hp, told_k (by decide)⟩
/-! ### Tick -/
def RTickA (now : Nat) (L : List Rc) (n : Int) (c : Nat) (gs : List Int) (now' : Nat) (L' : List Rc) : Prop :=
  ((n < 0 ∨ 1099511627776 < n) ∧ c = 2 ∧ gs = [] ∧ now' = now ∧ L' = L) ∨
  (∃ k : Nat, n = (k : Int) ∧ k ≤ 1099511627776 ∧ c = 0 ∧ gs = idsD (L.filter (lateB (now + k))) ∧ now' = now + k ∧ L' = L.filter (fun x => !lateB (now + k) x))
theorem Mem9.tickP (h : Mem9 W w t mb m lp ld now l L) (hE : Errs W A) (n : Int) :
    Calls Tryz.prog 13 #[.pointer (some ⟨t, 0, none⟩), .int .i64 n] w fun e w' => ∃ c r v gs l', e = .returned (.tuple #[v, r]) ∧ TickA A l n c r gs l' ∧ Nums w' w.heap.size v gs ∧ Mem9 W w' t mb m lp ld now l' L ∧ CInv lp l' ∧ Only [t, mb] w w' := by
  obtain ⟨u, h⟩ := h
  refine (h.ls.tick hE n).mono fun e w' hh => ?_
  obtain ⟨c, r, v, gs, l', he, hr, hn, hs, ho⟩ := hh
  exact ⟨c, r, v, gs, l', he, hr, hn, ⟨u, h.prog hs ho⟩, hs.ls.inv, ho⟩
theorem Mem9.tickD (h : Mem9 W w t mb m lp ld now l' L) (n : Int) (hl : L.length ≤ 100) (hnow : now ≤ 2251799813685248) (hS : ∀ x ∈ L, x.S ≤ now) :
    Calls Tryz.prog 14 #[.pointer (some ⟨m, 0, none⟩), .int .i64 n] w fun e w' => ∃ c v gs now' L', e = .returned (.tuple #[v, .int .i64 (c : Nat)]) ∧ RTickA now L n c gs now' L' ∧ Nums w' w.heap.size v gs ∧ Mem9 W w' t mb m lp ld now' l' L' ∧ Only [m] w w' := by
  obtain ⟨u, h⟩ := h
  by_cases hb : n < 0 ∨ 1099511627776 < n
  · refine (rtick_bad w m n hb).mono fun e w' hh => ?_
    obtain ⟨he, rfl⟩ := hh
    exact ⟨2, _, [], now, L, he, Or.inl ⟨hb, rfl, rfl, rfl, rfl⟩, Nums.nil _ _, ⟨u, h⟩, Only.refl _ _⟩
  · obtain ⟨k, rfl⟩ : ∃ k : Nat, n = (k : Int) := ⟨n.toNat, by omega⟩
    refine (rtick_ok w _ m u ld now k L h.rl hl (by omega) hnow hS h.ls.size).mono fun e w' hh => ?_
    obtain ⟨v, v', he, h1, h2, ho, _⟩ := hh
    exact ⟨0, v, _, _, _, he, Or.inr ⟨k, rfl, by omega, rfl, rfl, rfl, rfl⟩, h1, ⟨v', h.docM h2 ho⟩, ho⟩
theorem pair_tick {last now now' c c2 : Nat} {l l' : List Cli} {L L' : List Rc} {n : Int} {r : Value} {gs gs2 : List Int} (hp : PairC last now l L) (h : TickA A l n c r gs l') (h2 : RTickA now L n c2 gs2 now' L') (hi : CInv last l') : c2 = c ∧ gs2 = gs ∧ PairC last now' l' L' ∧ Told A c r ∧ now' ≤ now + 1099511627776 := by
  rcases h with ⟨a1, rfl, rfl, rfl, rfl⟩ | ⟨k, rfl, a1, rfl, rfl, a2, a3, a4⟩
  · rcases h2 with ⟨_, rfl, rfl, rfl, rfl⟩ | ⟨k, rfl, b1, _⟩
    · exact ⟨rfl, rfl, hp, told_k (by decide), by omega⟩
    · omega
  · rcases h2 with ⟨b1, _⟩ | ⟨k2, he, b1, rfl, rfl, rfl, rfl⟩
    · omega
    · obtain rfl : k = k2 := by omega
      exact ⟨rfl, (hp.gone_list a2 a3).symm, hp.tick hi a4, told_0, by omega⟩
/-! ### Name, List -/
def RNameA (L : List Rc) (id : Int) (c : Nat) (s : ByteArray) : Prop :=
  (∃ x ∈ L, (x.I : Int) = id ∧ x.c = true ∧ c = 0 ∧ s = bs x.s) ∨ ((∀ x ∈ L, ¬ ((x.I : Int) = id ∧ x.c = true)) ∧ c = 5 ∧ s = ⟨#[]⟩)
theorem Mem9.nameP (h : Mem9 W w t mb m lp ld now l L) (hE : Errs W A) (id : Int) :
    Calls Tryz.prog 16 #[.pointer (some ⟨t, 0, none⟩), .int .i64 id] w fun e w' => ∃ c r s, e = .returned (.tuple #[.string s, r]) ∧ NameA A l id c r s ∧ Mem9 W w' t mb m lp ld now l L ∧ Only [] w w' := by
  obtain ⟨v, h⟩ := h
  refine (h.ls.name hE id).mono fun e w' hh => ?_
  obtain ⟨c, r, s, he, hr, hs, ho⟩ := hh
  exact ⟨c, r, s, he, hr, ⟨v, h.only ho⟩, ho⟩
theorem Mem9.nameD (h : Mem9 W w t mb m lp ld now l L) (id : Int) (hl : L.length ≤ 100) :
    Calls Tryz.prog 17 #[.pointer (some ⟨m, 0, none⟩), .int .i64 id] w fun e w' => ∃ c s, e = .returned (.tuple #[.string s, .int .i64 (c : Nat)]) ∧ RNameA L id c s ∧ w = w' := by
  obtain ⟨v, h⟩ := h
  refine (rname_any w _ m v ld now L id h.rl hl).mono fun e w' hh => ?_
  obtain ⟨h1, ho⟩ := hh
  rcases h1 with ⟨x, hx, h1, h2, he⟩ | ⟨h1, he⟩
  · exact ⟨0, _, he, Or.inl ⟨x, hx, h1, h2, rfl, rfl⟩, ho⟩
  · exact ⟨5, _, he, Or.inr ⟨h1, rfl, rfl⟩, ho⟩
theorem pair_name {last now c c2 : Nat} {l : List Cli} {L : List Rc} {id : Int} {r : Value} {s s2 : ByteArray} (hp : PairC last now l L) (h : NameA A l id c r s) (h2 : RNameA L id c2 s2) : c2 = c ∧ s2 = s ∧ Told A c r := by
  rcases h with ⟨x, hx, a1, a2, rfl, rfl, rfl⟩ | ⟨a1, rfl, rfl, rfl⟩
  · rcases h2 with ⟨y, hy, b1, b2, rfl, rfl⟩ | ⟨b1, _⟩
    · refine ⟨rfl, ?_, told_0⟩
      rw [(hp.at_of hx (hasB_iff.2 ⟨a1, Or.inl a2⟩) hy b1).1]
    · obtain ⟨z, hz, hzi, hzc, _⟩ := hp.live_of hx a1 a2
      exact (b1 z hz ⟨hzi, hzc⟩).elim
  · rcases h2 with ⟨y, hy, b1, b2, rfl, rfl⟩ | ⟨_, rfl, rfl⟩
    · obtain ⟨x, hx, h1, h3, _⟩ := hp.live hy b1 b2
      exact (a1 x hx ⟨(hasB_iff.1 h3).1, h1⟩).elim
    · exact ⟨rfl, rfl, told_k (by decide)⟩
theorem Mem9.listP (h : Mem9 W w t mb m lp ld now l L) (hp : PairC lp now l L) :
    Calls Tryz.prog 18 #[.pointer (some ⟨t, 0, none⟩)] w fun e w' => ∃ v, e = .returned v ∧ Nums w' w.heap.size v (idsD (L.filter (·.c))) ∧ Only [] w w' := by
  obtain ⟨v, h⟩ := h
  refine (list_any w t mb lp l h.ls.ls).mono fun e w' hh => ?_
  obtain ⟨u, gs, he, h1, h2, h3, ho⟩ := hh
  rw [hp.list h2 h3] at h1
  exact ⟨u, he, h1, ho⟩
theorem Mem9.listD (h : Mem9 W w t mb m lp ld now l L) (hl : L.length ≤ 100) :
    Calls Tryz.prog 19 #[.pointer (some ⟨m, 0, none⟩)] w fun e w' => ∃ u, e = .returned u ∧ Nums w' w.heap.size u (idsD (L.filter (·.c))) ∧ Only [] w w' := by
  obtain ⟨v, h⟩ := h
  exact rlist_any w _ m v ld now L h.rl hl
end
theorem rising_len {a b : Nat} {xs : List Nat} (h : xs.Pairwise (· < ·)) (hm : ∀ x ∈ xs, a < x ∧ x ≤ b) : xs.length ≤ b - a := by
  induction xs generalizing a with
  | nil => exact Nat.zero_le _
  | cons y ys ih =>
    rw [List.pairwise_cons] at h
    have hy := hm y List.mem_cons_self
    have := ih (a := y) h.2 (fun x hx => ⟨h.1 x hx, (hm x (List.mem_cons_of_mem _ hx)).2⟩)
    rw [List.length_cons]
    omega
theorem PairC.len {last now : Nat} {l : List Cli} {L : List Rc} (h : PairC last now l L) : L.length ≤ last := by
  have := rising_len (a := 0) (b := last) h.srt (fun x hx => by
    obtain ⟨y, hy, rfl⟩ := List.mem_map.1 hx
    have := h.ids hy
    omega)
  rw [List.length_map] at this
  omega
end Go.Proofs.YtaipigiinljpkaaGreatDoor
