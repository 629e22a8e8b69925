/- Shares: a law's table, act by act. -/
import Derived.Test.YtagpahgjbglmaaaDoorSh21
import Derived.Test.YtagpahgjbglmaaaDoorE3
namespace Go.Proofs.YtagpahgjbglmaaaDoor
open Go Go.RowKit Go.Deep

/-- The five errors that a table of opens tells. -/
def Err5 (W : World) (A : Nat → Addr) : Prop := ∀ k, k ∈ [1, 2, 4, 8, 10] → W.cell? ⟨gOf k, 0, none⟩ = some (.iface 117 (.pointer (some (A k))))
theorem Err5.below {W w : World} {A : Nat → Addr} (h : Err5 W A) (hb : Below W.heap.size W w) : Err5 w A := fun k hk => (hb.cell (p := ⟨gOf k, 0, none⟩) (lt_of_cell (h k hk))).trans (h k hk)
theorem Errs.five {W : World} {A : Nat → Addr} (h : Errs W A) : Err5 W A := fun k hk => h.cell k (by simp at hk; omega)
/-- A law's table: all of it lies behind what was there. -/
structure ShW (W w : World) (t : Nat) (l : List Opn) : Prop where
  tab : ∃ v, ShAt w W.heap.size t v l
  good : GoodO l
  below : Below W.heap.size W w
  ht : W.heap.size ≤ t
theorem ShW.only {W w w' : World} {t : Nat} {l : List Opn} (h : ShW W w t l) (ho : Only [] w w') : ShW W w' t l := by
  obtain ⟨v, hv⟩ := h.tab
  exact ⟨⟨v, hv.only ho⟩, h.good, h.below.trans (ho.to_below h.below.size (fun k hk => by cases hk)), h.ht⟩
theorem ShW.step {W w w' : World} {t : Nat} {l l' : List Opn} {v v' : Value} (h : ShW W w t l) (hv : ShAt w W.heap.size t v l) (hg : GoodO l') (hv' : ShAt w' W.heap.size t v' l') (ho : Only (t :: v.ownBlock.toList) w w') : ShW W w' t l' :=
  ⟨⟨v', hv'⟩, hg, h.below.trans (ho.to_below h.below.size (fun k hk => by
    rcases List.mem_cons.1 hk with e | hk
    · rw [e]; exact h.ht
    · exact (World.ownsRow.lt hv.own k (by simpa using hk)).1)), h.ht⟩
theorem ShW.size {W w : World} {t : Nat} {l : List Opn} (h : ShW W w t l) : W.heap.size ≤ w.heap.size := h.below.size
def sErr (A : Nat → Addr) (k : Nat) : Value := .iface 117 (.pointer (some (A k)))
def keyO (N G O : Int) : Opn := ⟨N, G, O, 0, 0⟩
/-- What opening makes of opens, and answers. -/
def OpenR (A : Nat → Addr) (l : List Opn) (N G O a d : Int) (c : Nat) (r : Value) (l' : List Opn) : Prop :=
  ((accB a && denB d) = false ∧ c = 2 ∧ r = sErr A 1 ∧ l' = l) ∨
  ((accB a && denB d) = true ∧ l.any (agB N G O a d) = true ∧ c = 11 ∧ r = sErr A 10 ∧ l' = l) ∨
  (∃ (i : Nat) (x : Opn), (accB a && denB d) = true ∧ l.any (agB N G O a d) = false ∧ l[i]? = some x ∧ sameO x (keyO N G O) ∧ c = 0 ∧ r = .nilIface ∧ l' = l.set i { x with A := sumB x.A a, D := sumB x.D d }) ∨
  ((accB a && denB d) = true ∧ l.any (agB N G O a d) = false ∧ (∀ x ∈ l, ¬ sameO x (keyO N G O)) ∧ 40 ≤ l.length ∧ c = 9 ∧ r = sErr A 8 ∧ l' = l) ∨
  (∃ i : Nat, (accB a && denB d) = true ∧ l.any (agB N G O a d) = false ∧ (∀ x ∈ l, ¬ sameO x (keyO N G O)) ∧ l.length < 40 ∧ SpotO l (keyO N G O) i false ∧ c = 0 ∧ r = .nilIface ∧ l' = insAt l i ⟨N, G, O, a, d⟩)
def DownR (A : Nat → Addr) (l : List Opn) (N G O a d : Int) (c : Nat) (r : Value) (l' : List Opn) : Prop :=
  ((∀ x ∈ l, ¬ sameO x (keyO N G O)) ∧ c = 5 ∧ r = sErr A 4 ∧ l' = l) ∨
  (∃ (i : Nat) (x : Opn), l[i]? = some x ∧ sameO x (keyO N G O) ∧ (accB a && denB d) = false ∧ c = 2 ∧ r = sErr A 1 ∧ l' = l) ∨
  (∃ (i : Nat) (x : Opn), l[i]? = some x ∧ sameO x (keyO N G O) ∧ (accB a && denB d) = true ∧ (withB a x.A && withB d x.D) = false ∧ c = 3 ∧ r = sErr A 2 ∧ l' = l) ∨
  (∃ (i : Nat) (x : Opn), l[i]? = some x ∧ sameO x (keyO N G O) ∧ (accB a && denB d) = true ∧ (withB a x.A && withB d x.D) = true ∧ c = 0 ∧ r = .nilIface ∧ l' = l.set i { x with A := a, D := d })
def CloseR (A : Nat → Addr) (l : List Opn) (N G O : Int) (c : Nat) (r : Value) (l' : List Opn) : Prop :=
  ((∀ x ∈ l, ¬ sameO x (keyO N G O)) ∧ c = 5 ∧ r = sErr A 4 ∧ l' = l) ∨
  (∃ (i : Nat) (x : Opn), l[i]? = some x ∧ sameO x (keyO N G O) ∧ c = 0 ∧ r = .nilIface ∧ l' = l.take i ++ l.drop (i + 1))
def MayR (A : Nat → Addr) (l : List Opn) (N G O a : Int) (c : Nat) (r : Value) : Prop :=
  (accB a = false ∧ c = 2 ∧ r = sErr A 1) ∨
  (accB a = true ∧ (∀ x ∈ l, ¬ sameO x (keyO N G O)) ∧ c = 5 ∧ r = sErr A 4) ∨
  (∃ (i : Nat) (x : Opn), accB a = true ∧ l[i]? = some x ∧ sameO x (keyO N G O) ∧ withB a x.A = false ∧ c = 5 ∧ r = sErr A 4) ∨
  (∃ (i : Nat) (x : Opn), accB a = true ∧ l[i]? = some x ∧ sameO x (keyO N G O) ∧ withB a x.A = true ∧ c = 0 ∧ r = .nilIface)
def AnyR (A : Nat → Addr) (l : List Opn) (N G a : Int) (c : Nat) (r : Value) : Prop :=
  (accB a = false ∧ c = 2 ∧ r = sErr A 1) ∨ (accB a = true ∧ l.any (denyB N G a) = true ∧ c = 11 ∧ r = sErr A 10) ∨ (accB a = true ∧ l.any (denyB N G a) = false ∧ c = 0 ∧ r = .nilIface)
theorem ok_sum {x : Opn} {a d : Int} (h : OkO x) (hb : (accB a && denB d) = true) : OkO { x with A := sumB x.A a, D := sumB x.D d } := by
  obtain ⟨_, _, ha, hd⟩ := acc_of hb
  obtain ⟨s1, s2, s3⟩ := sum_range a (mem4 (by omega) (by omega)) x.A h.memA
  obtain ⟨t1, t2, _⟩ := sum_range d (mem4 hd.1 hd.2) x.D h.memD
  exact ⟨s3 h.1, s2, t1, t2⟩
theorem ok_new {N G O a d : Int} (hb : (accB a && denB d) = true) : OkO ⟨N, G, O, a, d⟩ := by
  obtain ⟨_, _, ha, hd⟩ := acc_of hb
  exact ⟨ha.1, ha.2, hd.1, hd.2⟩
theorem ok_down {x : Opn} {a d : Int} (hb : (accB a && denB d) = true) : OkO { x with A := a, D := d } := ok_new (N := x.N) (G := x.G) (O := x.O) hb
theorem ShW.open {W w : World} {t : Nat} {l : List Opn} {A : Nat → Addr} (h : ShW W w t l) (hE : Err5 W A) (N G O a d : Int) :
    Calls Tryd.prog 6 #[.pointer (some ⟨t, 0, none⟩), .agg #[.int .i64 N, .int .i64 G], .int .i64 O, .int .i64 a, .int .i64 d] w fun e w' => ∃ c r l', e = .returned r ∧ OpenR A l N G O a d c r l' ∧ ShW W w' t l' := by
  obtain ⟨v, hv⟩ := h.tab
  have hEw := hE.below h.below
  obtain ⟨i, f, hsp⟩ := spot_exists l (keyO N G O) h.good.sorted
  cases hb : (accB a && denB d) with
  | false => exact (open_bound w t N G O a d (sErr A 1) (hEw 1 (by decide)) hb).mono fun e w' hh => ⟨2, _, l, hh.1, Or.inl ⟨hb, rfl, rfl, rfl⟩, h.only hh.2⟩
  | true =>
    cases hany : l.any (agB N G O a d) with
    | true => exact (open_held w W.heap.size t v l N G O a d (sErr A 10) hv h.good (hEw 10 (by decide)) hb hany).mono fun e w' hh => ⟨11, _, l, hh.1, Or.inr (Or.inl ⟨hb, hany, rfl, rfl, rfl⟩), h.only hh.2⟩
    | false =>
      cases f with
      | true =>
        obtain ⟨x, hx, hs⟩ := hsp.found.1 rfl
        exact (open_found w W.heap.size t v l N G O a d i x hv h.good hsp hx hb hany).mono fun e w' hh => ⟨0, _, _, hh.1, Or.inr (Or.inr (Or.inl ⟨i, x, hb, hany, hx, hs, rfl, rfl, rfl⟩)), h.step hv (h.good.set hx ⟨rfl, rfl, rfl⟩ (ok_sum (h.good.ok x (List.mem_of_getElem? hx)) hb)) hh.2.1 hh.2.2⟩
      | false =>
        have hno := hsp.none h.good.sorted
        by_cases h40 : 40 ≤ l.length
        · exact (open_full w W.heap.size t v l N G O a d i (sErr A 8) hv h.good hsp (hEw 8 (by decide)) hb hany h40).mono fun e w' hh => ⟨9, _, l, hh.1, Or.inr (Or.inr (Or.inr (Or.inl ⟨hb, hany, hno, h40, rfl, rfl, rfl⟩))), h.only hh.2⟩
        · exact (open_new w W.heap.size t v l N G O a d i hv h.good h.size hsp hb hany (by omega)).mono fun e w' hh => by
            obtain ⟨he, v', h1, h2, _⟩ := hh
            exact ⟨0, _, _, he, Or.inr (Or.inr (Or.inr (Or.inr ⟨i, hb, hany, hno, by omega, hsp, rfl, rfl, rfl⟩))), h.step hv (h.good.ins hsp ⟨rfl, rfl, rfl⟩ (ok_new hb) (by omega)) h1 h2⟩
theorem ShW.down {W w : World} {t : Nat} {l : List Opn} {A : Nat → Addr} (h : ShW W w t l) (hE : Err5 W A) (N G O a d : Int) :
    Calls Tryd.prog 8 #[.pointer (some ⟨t, 0, none⟩), .agg #[.int .i64 N, .int .i64 G], .int .i64 O, .int .i64 a, .int .i64 d] w fun e w' => ∃ c r l', e = .returned r ∧ DownR A l N G O a d c r l' ∧ ShW W w' t l' := by
  obtain ⟨v, hv⟩ := h.tab
  have hEw := hE.below h.below
  obtain ⟨i, f, hsp⟩ := spot_exists l (keyO N G O) h.good.sorted
  cases f with
  | false => exact (down_none w W.heap.size t v l N G O a d i (sErr A 4) hv h.good hsp (hEw 4 (by decide))).mono fun e w' hh => ⟨5, _, l, hh.1, Or.inl ⟨hsp.none h.good.sorted, rfl, rfl, rfl⟩, h.only hh.2⟩
  | true =>
    obtain ⟨x, hx, hs⟩ := hsp.found.1 rfl
    cases hb : (accB a && denB d) with
    | false => exact (down_bound w W.heap.size t v l N G O a d i (sErr A 1) hv h.good hsp (hEw 1 (by decide)) hb).mono fun e w' hh => ⟨2, _, l, hh.1, Or.inr (Or.inl ⟨i, x, hx, hs, hb, rfl, rfl, rfl⟩), h.only hh.2⟩
    | true =>
      cases hw : (withB a x.A && withB d x.D) with
      | false => exact (down_shape w W.heap.size t v l N G O a d i x (sErr A 2) hv h.good hsp hx (hEw 2 (by decide)) hb hw).mono fun e w' hh => ⟨3, _, l, hh.1, Or.inr (Or.inr (Or.inl ⟨i, x, hx, hs, hb, hw, rfl, rfl, rfl⟩)), h.only hh.2⟩
      | true => exact (down_ok w W.heap.size t v l N G O a d i x hv h.good hsp hx hb hw).mono fun e w' hh => ⟨0, _, _, hh.1, Or.inr (Or.inr (Or.inr ⟨i, x, hx, hs, hb, hw, rfl, rfl, rfl⟩)), h.step hv (h.good.set hx ⟨rfl, rfl, rfl⟩ (ok_down hb)) hh.2.1 hh.2.2⟩
theorem ShW.close {W w : World} {t : Nat} {l : List Opn} {A : Nat → Addr} (h : ShW W w t l) (hE : Err5 W A) (N G O : Int) :
    Calls Tryd.prog 10 #[.pointer (some ⟨t, 0, none⟩), .agg #[.int .i64 N, .int .i64 G], .int .i64 O] w fun e w' => ∃ c r l', e = .returned r ∧ CloseR A l N G O c r l' ∧ ShW W w' t l' := by
  obtain ⟨v, hv⟩ := h.tab
  have hEw := hE.below h.below
  obtain ⟨i, f, hsp⟩ := spot_exists l (keyO N G O) h.good.sorted
  cases f with
  | false => exact (close_none w W.heap.size t v l N G O i (sErr A 4) hv h.good hsp (hEw 4 (by decide))).mono fun e w' hh => ⟨5, _, l, hh.1, Or.inl ⟨hsp.none h.good.sorted, rfl, rfl, rfl⟩, h.only hh.2⟩
  | true =>
    obtain ⟨x, hx, hs⟩ := hsp.found.1 rfl
    exact (close_found w W.heap.size t v l N G O i hv h.good hsp).mono fun e w' hh => by
      obtain ⟨he, v', h1, h2, _⟩ := hh
      exact ⟨0, _, _, he, Or.inr ⟨i, x, hx, hs, rfl, rfl, rfl⟩, h.step hv (h.good.sub (erase_sub l i)) h1 h2⟩
theorem ShW.drop {W w : World} {t : Nat} {l : List Opn} (h : ShW W w t l) (O : Int) :
    Calls Tryd.prog 16 #[.pointer (some ⟨t, 0, none⟩), .int .i64 O] w fun e w' => e = .returned (.int .i64 ((l.length : Int) - ((keptO O l).length : Int))) ∧ ShW W w' t (keptO O l) := by
  obtain ⟨v, hv⟩ := h.tab
  exact (drop_any w W.heap.size t v l O hv h.good).mono fun e w' hh => by
    obtain ⟨he, v', h1, h2, _⟩ := hh
    exact ⟨he, h.step hv (h.good.sub (kept_sub O l)) h1 h2⟩
theorem ShW.may {W w : World} {t : Nat} {l : List Opn} {A : Nat → Addr} (h : ShW W w t l) (hE : Err5 W A) (N G O a : Int) :
    Calls Tryd.prog 12 #[.pointer (some ⟨t, 0, none⟩), .agg #[.int .i64 N, .int .i64 G], .int .i64 O, .int .i64 a] w fun e w' => ∃ c r, e = .returned r ∧ MayR A l N G O a c r ∧ Only [] w w' := by
  obtain ⟨v, hv⟩ := h.tab
  have hEw := hE.below h.below
  obtain ⟨i, f, hsp⟩ := spot_exists l (keyO N G O) h.good.sorted
  cases hac : accB a with
  | false => exact (may_bound w t N G O a (sErr A 1) (hEw 1 (by decide)) hac).mono fun e w' hh => ⟨2, _, hh.1, Or.inl ⟨hac, rfl, rfl⟩, hh.2⟩
  | true =>
    cases f with
    | false => exact (may_none w W.heap.size t v l N G O a i (sErr A 4) hv h.good hsp (hEw 4 (by decide)) hac).mono fun e w' hh => ⟨5, _, hh.1, Or.inr (Or.inl ⟨hac, hsp.none h.good.sorted, rfl, rfl⟩), hh.2⟩
    | true =>
      obtain ⟨x, hx, hs⟩ := hsp.found.1 rfl
      refine (may_found w W.heap.size t v l N G O a i x (sErr A 4) hv h.good hsp hx (hEw 4 (by decide)) hac).mono fun e w' hh => ?_
      cases hw : withB a x.A with
      | false => exact ⟨5, _, hh.1.trans (by rw [hw]; rfl), Or.inr (Or.inr (Or.inl ⟨i, x, hac, hx, hs, hw, rfl, rfl⟩)), hh.2⟩
      | true => exact ⟨0, _, hh.1.trans (by rw [hw]; rfl), Or.inr (Or.inr (Or.inr ⟨i, x, hac, hx, hs, hw, rfl, rfl⟩)), hh.2⟩
theorem ShW.anyone {W w : World} {t : Nat} {l : List Opn} {A : Nat → Addr} (h : ShW W w t l) (hE : Err5 W A) (N G a : Int) :
    Calls Tryd.prog 14 #[.pointer (some ⟨t, 0, none⟩), .agg #[.int .i64 N, .int .i64 G], .int .i64 a] w fun e w' => ∃ c r, e = .returned r ∧ AnyR A l N G a c r ∧ Only [] w w' := by
  obtain ⟨v, hv⟩ := h.tab
  have hEw := hE.below h.below
  cases hac : accB a with
  | false => exact (anyone_bound w t N G a (sErr A 1) (hEw 1 (by decide)) hac).mono fun e w' hh => ⟨2, _, hh.1, Or.inl ⟨hac, rfl, rfl⟩, hh.2⟩
  | true =>
    refine (anyone_in w W.heap.size t v l N G a (sErr A 10) hv h.good (hEw 10 (by decide)) hac).mono fun e w' hh => ?_
    cases hw : l.any (denyB N G a) with
    | false => exact ⟨0, _, hh.1.trans (by rw [hw]; rfl), Or.inr (Or.inr ⟨hac, hw, rfl, rfl⟩), hh.2⟩
    | true => exact ⟨11, _, hh.1.trans (by rw [hw]; rfl), Or.inr (Or.inl ⟨hac, hw, rfl, rfl⟩), hh.2⟩
theorem ShW.list {W w : World} {t : Nat} {l : List Opn} (h : ShW W w t l) :
    Calls Tryd.prog 21 #[.pointer (some ⟨t, 0, none⟩)] w fun e w' => ∃ v', e = .returned v' ∧ Opns w' w.heap.size v' l ∧ Only [] w w' := by
  obtain ⟨v, hv⟩ := h.tab
  exact list_any w W.heap.size t v l hv h.good
/-! ### sound -/
theorem OpenR.sound {A : Nat → Addr} {l l' : List Opn} {N G O a d : Int} {c : Nat} {r : Value} (h : OpenR A l N G O a d c r l') (hg : GoodO l) (hs : SoundO l) : SoundO l' := by
  rcases h with ⟨_, _, _, rfl⟩ | ⟨_, _, _, _, rfl⟩ | ⟨i, x, hb, hany, hx, hk, _, _, rfl⟩ | ⟨_, _, _, _, _, _, rfl⟩ | ⟨i, hb, hany, hno, hl, hsp, _, _, rfl⟩
  · exact hs
  · exact hs
  · obtain ⟨_, _, ha, hd⟩ := acc_of hb
    have hxl := List.mem_of_getElem? hx
    have hxo := hg.ok x hxl
    have ma : a ∈ [0, 1, 2, (3 : Int)] := mem4 (by omega) (by omega)
    have md : d ∈ [0, 1, 2, (3 : Int)] := mem4 hd.1 hd.2
    refine hs.set (fun z hz h1 h2 h3 => ?_)
    have h1' : z.N = x.N := h1
    have h2' : z.G = x.G := h2
    have h3' : z.O ≠ x.O := h3
    have hzo := hg.ok z hz
    have n1 := not_against hany hz (h1'.trans hk.1) (h2'.trans hk.2.1) (fun e => h3' (e.trans hk.2.2.symm))
    have s1 := hs x hxl z hz h1'.symm h2'.symm (fun e => h3' e.symm)
    have s2 := hs z hz x hxl h1' h2' h3'
    constructor
    · show meetB (sumB x.A a) z.D = false
      rw [meet_sum a ma x.A hxo.memA z.D hzo.memD, s1, meet_comm a ma z.D hzo.memD, n1.1]
      rfl
    · have m1 := sum_range d md x.D hxo.memD
      show meetB z.A (sumB x.D d) = false
      rw [meet_comm z.A hzo.memA _ (mem4 m1.1 m1.2.1), meet_sum d md x.D hxo.memD z.A hzo.memA, meet_comm x.D hxo.memD z.A hzo.memA, s2, meet_comm d md z.A hzo.memA, n1.2]
      rfl
  · exact hs
  · obtain ⟨_, _, ha, hd⟩ := acc_of hb
    have ma : a ∈ [0, 1, 2, (3 : Int)] := mem4 (by omega) (by omega)
    refine hs.ins (fun z hz h1 h2 h3 => ?_)
    have n1 := not_against hany hz h1 h2 h3
    exact ⟨by show meetB a z.D = false; rw [meet_comm a ma z.D (hg.ok z hz).memD]; exact n1.1, n1.2⟩
theorem DownR.sound {A : Nat → Addr} {l l' : List Opn} {N G O a d : Int} {c : Nat} {r : Value} (h : DownR A l N G O a d c r l') (hg : GoodO l) (hs : SoundO l) : SoundO l' := by
  rcases h with ⟨_, _, _, rfl⟩ | ⟨_, _, _, _, _, _, _, rfl⟩ | ⟨_, _, _, _, _, _, _, _, rfl⟩ | ⟨i, x, hx, hk, hb, hw, _, _, rfl⟩
  · exact hs
  · exact hs
  · exact hs
  · obtain ⟨_, _, ha, hd⟩ := acc_of hb
    rw [Bool.and_eq_true] at hw
    have hxl := List.mem_of_getElem? hx
    have hxo := hg.ok x hxl
    have ma : a ∈ [0, 1, 2, (3 : Int)] := mem4 (by omega) (by omega)
    have md : d ∈ [0, 1, 2, (3 : Int)] := mem4 hd.1 hd.2
    refine hs.set (fun z hz h1 h2 h3 => ?_)
    have h1' : z.N = x.N := h1
    have h2' : z.G = x.G := h2
    have h3' : z.O ≠ x.O := h3
    have hzo := hg.ok z hz
    have s1 := hs x hxl z hz h1'.symm h2'.symm (fun e => h3' e.symm)
    have s2 := hs z hz x hxl h1' h2' h3'
    constructor
    · exact meet_with a ma x.A hxo.memA z.D hzo.memD hw.1 s1
    · show meetB z.A d = false
      rw [meet_comm z.A hzo.memA d md]
      exact meet_with d md x.D hxo.memD z.A hzo.memA hw.2 (by rw [meet_comm x.D hxo.memD z.A hzo.memA]; exact s2)
theorem CloseR.sound {A : Nat → Addr} {l l' : List Opn} {N G O : Int} {c : Nat} {r : Value} (h : CloseR A l N G O c r l') (hs : SoundO l) : SoundO l' := by
  rcases h with ⟨_, _, _, rfl⟩ | ⟨i, x, _, _, _, _, rfl⟩
  · exact hs
  · exact hs.sub (erase_sub l i)
/-- One that is there may do what it has. -/
theorem MayR.there {A : Nat → Addr} {l : List Opn} {x : Opn} {c : Nat} {r : Value} (hg : GoodO l) (hx : x ∈ l) (h : MayR A l x.N x.G x.O x.A c r) : r = .nilIface := by
  have hok := hg.ok x hx
  have hac : accB x.A = true := by unfold accB; simp [hok.1, hok.2.1]
  have hw : ∀ a ∈ [0, 1, 2, (3 : Int)], withB a a = true := by decide +kernel
  rcases h with ⟨hb, _, _⟩ | ⟨_, hno, _, _⟩ | ⟨i, y, _, hy, hk, hw2, _, _⟩ | ⟨_, _, _, _, _, _, _, rfl⟩
  · rw [hac] at hb; cases hb
  · exact absurd (show sameO x (keyO x.N x.G x.O) from ⟨rfl, rfl, rfl⟩) (hno x hx)
  · obtain ⟨q, hq⟩ := List.mem_iff_getElem?.1 hx
    have e : q = i := by
      rcases Nat.lt_trichotomy q i with h1 | h1 | h1
      · have := hg.sorted.get h1 hq hy
        unfold ltO sameO keyO at *
        simp at hk
        omega
      · exact h1
      · have := hg.sorted.get h1 hy hq
        unfold ltO sameO keyO at *
        simp at hk
        omega
    subst e
    rw [hq] at hy
    cases hy
    rw [hw x.A hok.memA] at hw2
    cases hw2
  · rfl
end Go.Proofs.YtagpahgjbglmaaaDoor
