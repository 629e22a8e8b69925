/- Clients: each function of package lease whole, as a relation with the document's numbers of errors. -/
import Derived.Test.YtaipigiinljpkaaGreatDoorLs6
import Derived.Test.YtaipigiinljpkaaGreatDoorLs9
namespace Go.Proofs.YtaipigiinljpkaaGreatDoor
open Go Go.RowKit Go.Deep Go.Maps

def sErr (A : Nat → Addr) (k : Nat) : Value := .iface 155 (.pointer (some (A k)))
/-- A law's table: all of it lies behind what was there. -/
structure LsV (W w : World) (t mb last : Nat) (l : List Cli) : Prop where
  ls : LsAt w t mb last l
  below : Below W.heap.size W w
  ht : W.heap.size ≤ t
  hm : W.heap.size ≤ mb
section
variable {W w w' : World} {t mb last last' : Nat} {l l' : List Cli} {A : Nat → Addr}
theorem LsV.only (h : LsV W w t mb last l) (ho : Only [] w w') : LsV W w' t mb last l := ⟨h.ls.only ho, h.below.trans (ho.to_below h.below.size (fun k hk => by cases hk)), h.ht, h.hm⟩
theorem LsV.size (h : LsV W w t mb last l) : W.heap.size ≤ w.heap.size := h.below.size
theorem LsV.step (h : LsV W w t mb last l) (h' : LsAt w' t mb last' l') (ho : Only [t, mb] w w') : LsV W w' t mb last' l' := ⟨h', h.below.trans (ho.to_below h.below.size (fun k hk => by
  have h1 := h.ht
  have h2 := h.hm
  rcases List.mem_cons.1 hk with e | e
  · omega
  · have := List.mem_singleton.1 e
    omega)), h.ht, h.hm⟩
theorem LsV.new (hb : Below W.heap.size W w) : Calls Tryz.prog 5 #[] w fun e w' => ∃ t mb, e = .returned (.pointer (some ⟨t, 0, none⟩)) ∧ LsV W w' t mb 0 [] ∧ w.heap.size ≤ t ∧ w.heap.size ≤ mb ∧ Only [] w w' := by
  refine (new_any w).mono fun e w' hh => ?_
  obtain ⟨t, mb, he, hl, h1, h2, ho⟩ := hh
  exact ⟨t, mb, he, ⟨hl, hb.trans (ho.to_below hb.size (fun k hk => by cases hk)), Nat.le_trans hb.size h1, Nat.le_trans hb.size h2⟩, h1, h2, ho⟩
theorem LsV.errs (h : LsV W w t mb last l) (hE : Errs W A) : Errs w A := hE.below h.below (Nat.le_refl _)
theorem only_lax {w w' : World} {L : List Nat} (ho : Only [] w w') : Only L w w' := ho.mono (fun _ hk => by cases hk)
theorem only_map {w w' : World} {t mb : Nat} (ho : Only [mb] w w') : Only [t, mb] w w' := ho.mono (fun _ hk => Or.inl (by simp at hk; simp [hk]))
/-! ### Register -/
def RegA (A : Nat → Addr) (last : Nat) (l : List Cli) (s : ByteArray) (c id : Nat) (r : Value) (last' : Nat) (l' : List Cli) : Prop :=
  (¬ OkN s ∧ c = 4 ∧ id = 0 ∧ r = sErr A 3 ∧ last' = last ∧ l' = l) ∨
  (OkN s ∧ findC l s.data.toList = none ∧ 12 ≤ l.length ∧ c = 9 ∧ id = 0 ∧ r = sErr A 8 ∧ last' = last ∧ l' = l) ∨
  (OkN s ∧ (findC l s.data.toList ≠ none ∨ l.length < 12) ∧ c = 0 ∧ id = last + 1 ∧ r = .nilIface ∧ last' = last + 1 ∧ l' = putC l (regC last l s.data.toList))
theorem LsV.reg (h : LsV W w t mb last l) (hE : Errs W A) (s : ByteArray) (n : Int) (hl : last ≤ 1000000) :
    Calls Tryz.prog 6 #[.pointer (some ⟨t, 0, none⟩), .string s, .int .i64 n] w fun e w' => ∃ c id r last' l', e = .returned (.tuple #[.int .i64 (id : Nat), .int .i64 (id : Nat), r]) ∧ RegA A last l s c id r last' l' ∧ LsV W w' t mb last' l' ∧ Only [t, mb] w w' := by
  refine (reg_any w t mb last l s n A (h.errs hE) h.ls hl).mono fun e w' hh => ?_
  rcases hh with ⟨h1, he, ho⟩ | ⟨h1, h2, h3, he, ho⟩ | ⟨h1, h2, he, hl', ho⟩
  · exact ⟨4, 0, _, last, l, he, Or.inl ⟨h1, rfl, rfl, rfl, rfl, rfl⟩, h.only ho, only_lax ho⟩
  · exact ⟨9, 0, _, last, l, he, Or.inr (Or.inl ⟨h1, h2, h3, rfl, rfl, rfl, rfl, rfl⟩), h.only ho, only_lax ho⟩
  · exact ⟨0, last + 1, _, last + 1, _, he, Or.inr (Or.inr ⟨h1, h2, rfl, rfl, rfl, rfl, rfl⟩), h.step hl' ho, ho⟩
/-! ### Confirm -/
def ConfA (A : Nat → Addr) (l : List Cli) (id key : Int) (c gone : Nat) (r : Value) (l' : List Cli) : Prop :=
  ((∀ x ∈ l, hasB x id = false) ∧ c = 5 ∧ gone = 0 ∧ r = sErr A 4 ∧ l' = l) ∨
  (∃ x ∈ l, hasB x id = true ∧ key ≠ id ∧ c = 3 ∧ gone = 0 ∧ r = sErr A 2 ∧ l' = l) ∨
  (∃ x ∈ l, hasB x id = true ∧ key = id ∧ c = 0 ∧ gone = goneC x id ∧ r = .nilIface ∧ l' = putC l (confC x id))
theorem LsV.conf (h : LsV W w t mb last l) (hE : Errs W A) (id key : Int) :
    Calls Tryz.prog 9 #[.pointer (some ⟨t, 0, none⟩), .int .i64 id, .int .i64 key] w fun e w' => ∃ c gone r l', e = .returned (.tuple #[.int .i64 (gone : Nat), r]) ∧ ConfA A l id key c gone r l' ∧ LsV W w' t mb last l' ∧ Only [t, mb] w w' := by
  refine (conf_any w t mb last l id key (A 4) (A 2) h.ls ((h.errs hE).cell 4 (by decide)) ((h.errs hE).cell 2 (by decide))).mono fun e w' hh => ?_
  rcases hh with ⟨h1, he, ho⟩ | ⟨x, hx, h1, h2, he, ho⟩ | ⟨x, hx, h1, h2, he, hl', ho⟩
  · exact ⟨5, 0, _, l, he, Or.inl ⟨h1, rfl, rfl, rfl, rfl⟩, h.only ho, only_lax ho⟩
  · exact ⟨3, 0, _, l, he, Or.inr (Or.inl ⟨x, hx, h1, h2, rfl, rfl, rfl, rfl⟩), h.only ho, only_lax ho⟩
  · exact ⟨0, _, _, _, he, Or.inr (Or.inr ⟨x, hx, h1, h2, rfl, rfl, rfl, rfl⟩), h.step hl' (only_map ho), only_map ho⟩
/-! ### Renew -/
def RenA (A : Nat → Addr) (l : List Cli) (id : Int) (c : Nat) (r : Value) (l' : List Cli) : Prop :=
  (∃ x ∈ l, 0 < id ∧ (x.a : Int) = id ∧ c = 0 ∧ r = .nilIface ∧ l' = putC l (renC x)) ∨ ((∀ x ∈ l, ¬ (0 < id ∧ (x.a : Int) = id)) ∧ c = 5 ∧ r = sErr A 4 ∧ l' = l)
theorem LsV.ren (h : LsV W w t mb last l) (hE : Errs W A) (id : Int) :
    Calls Tryz.prog 11 #[.pointer (some ⟨t, 0, none⟩), .int .i64 id] w fun e w' => ∃ c r l', e = .returned r ∧ RenA A l id c r l' ∧ LsV W w' t mb last l' ∧ Only [t, mb] w w' := by
  refine (renew_any w t mb last l id (A 4) h.ls ((h.errs hE).cell 4 (by decide))).mono fun e w' hh => ?_
  rcases hh with ⟨x, hx, h1, h2, he, hl', ho⟩ | ⟨h1, he, ho⟩
  · exact ⟨0, _, _, he, Or.inl ⟨x, hx, h1, h2, rfl, rfl, rfl⟩, h.step hl' (only_map ho), only_map ho⟩
  · exact ⟨5, _, l, he, Or.inr ⟨h1, rfl, rfl, rfl⟩, h.only ho, only_lax ho⟩
/-! ### Tick -/
def TickA (A : Nat → Addr) (l : List Cli) (n : Int) (c : Nat) (r : Value) (gs : List Int) (l' : List Cli) : Prop :=
  ((n < 0 ∨ 1099511627776 < n) ∧ c = 2 ∧ r = sErr A 1 ∧ gs = [] ∧ l' = l) ∨
  (∃ m : Nat, n = (m : Int) ∧ m ≤ 1099511627776 ∧ c = 0 ∧ r = .nilIface ∧ gs.Pairwise (· < ·) ∧ (∀ x, x ∈ gs ↔ ∃ c ∈ l, overC m c = true ∧ x = (c.a : Int)) ∧ (∀ x, x ∈ l' ↔ ∃ d ∈ l, noneC (tickC m d) = false ∧ x = tickC m d))
theorem LsV.tick (h : LsV W w t mb last l) (hE : Errs W A) (n : Int) :
    Calls Tryz.prog 13 #[.pointer (some ⟨t, 0, none⟩), .int .i64 n] w fun e w' => ∃ c r v gs l', e = .returned (.tuple #[v, r]) ∧ TickA A l n c r gs l' ∧ Nums w' w.heap.size v gs ∧ LsV W w' t mb last l' ∧ Only [t, mb] w w' := by
  by_cases hb : n < 0 ∨ 1099511627776 < n
  · refine (tick_bad w t n (A 1) ((h.errs hE).cell 1 (by decide)) hb).mono fun e w' hh => ?_
    exact ⟨2, _, _, [], l, hh.1, Or.inl ⟨hb, rfl, rfl, rfl, rfl⟩, Nums.nil _ _, h.only hh.2, only_lax hh.2⟩
  · obtain ⟨m, rfl⟩ : ∃ m : Nat, n = (m : Int) := ⟨n.toNat, by omega⟩
    refine (tick_ok w t mb last m l h.ls (by omega)).mono fun e w' hh => ?_
    obtain ⟨v, gs, l', he, h1, h2, h3, h4, h5, ho⟩ := hh
    exact ⟨0, _, v, gs, l', he, Or.inr ⟨m, rfl, by omega, rfl, rfl, h2, h3, h5⟩, h1, h.step h4 (only_map ho), only_map ho⟩
/-! ### Name -/
def NameA (A : Nat → Addr) (l : List Cli) (id : Int) (c : Nat) (r : Value) (s : ByteArray) : Prop :=
  (∃ x ∈ l, 0 < id ∧ (x.a : Int) = id ∧ c = 0 ∧ r = .nilIface ∧ s = bs x.s) ∨ ((∀ x ∈ l, ¬ (0 < id ∧ (x.a : Int) = id)) ∧ c = 5 ∧ r = sErr A 4 ∧ s = ⟨#[]⟩)
theorem LsV.name (h : LsV W w t mb last l) (hE : Errs W A) (id : Int) :
    Calls Tryz.prog 16 #[.pointer (some ⟨t, 0, none⟩), .int .i64 id] w fun e w' => ∃ c r s, e = .returned (.tuple #[.string s, r]) ∧ NameA A l id c r s ∧ LsV W w' t mb last l ∧ Only [] w w' := by
  refine (name_any w t mb last l id _ h.ls ((h.errs hE).cell 4 (by decide))).mono fun e w' hh => ?_
  obtain ⟨h1, ho⟩ := hh
  rcases h1 with ⟨x, hx, h1, h2, he⟩ | ⟨h1, he⟩
  · exact ⟨0, _, _, he, Or.inl ⟨x, hx, h1, h2, rfl, rfl, rfl⟩, h.only ho, ho⟩
  · exact ⟨5, _, _, he, Or.inr ⟨h1, rfl, rfl, rfl⟩, h.only ho, ho⟩
end
/-! ### coded -/
def Told (A : Nat → Addr) (c : Nat) (r : Value) : Prop := (c = 0 ∧ r = .nilIface) ∨ ∃ k, k < 15 ∧ c = k + 1 ∧ r = sErr A k
theorem coded2_any (A : Nat → Addr) (c : Nat) (r : Value) (w : World) (h : Errs w A) (ht : Told A c r) :
    Calls Tryz.prog 8 #[r, .int .i64 (c : Int)] w fun e w' => e = .returned (.bool true) ∧ Below w.heap.size w w' := by
  have H : Hid (Errs w A) := h
  clear h
  rcases ht with ⟨rfl, rfl⟩ | ⟨k, hk, rfl, rfl⟩
  · show Calls Tryz.prog 8 #[.nilIface, .int .i64 0] w _
    go_enter Tryz.func8, Tryz.ntmps8
    go_wp2_with (go_at_call 24; refine (code_nil _).mono ?_; rintro e w2 ⟨rfl, rfl⟩)
    go_ret
    exact ⟨rfl, Below.refl _ _⟩
  · have e : ((k + 1 : Nat) : Int) = (k : Int) + 1 := by omega
    rw [e]
    unfold sErr
    go_enter Tryz.func8, Tryz.ntmps8
    go_wp2_with (go_at_call 24; refine (code_err A k hk _ H.out).mono ?_; rintro e w2 ⟨rfl, hb⟩)
    go_ret
    exact ⟨rfl, hb⟩
/-! ### known: a closed fact -/
theorem okN_a : OkN ⟨#[97]⟩ := ⟨by decide, by decide, by rw [Lib.toList_data]; rfl, by rw [Lib.toList_data]; rfl, by decide⟩
theorem okN_b : OkN ⟨#[98]⟩ := ⟨by decide, by decide, by rw [Lib.toList_data]; rfl, by rw [Lib.toList_data]; rfl, by decide⟩
theorem reg_a {A : Nat → Addr} {last' c id : Nat} {r : Value} {l' : List Cli} (h : RegA A 0 [] ⟨#[97]⟩ c id r last' l') : id = 1 ∧ r = .nilIface ∧ last' = 1 ∧ l' = [⟨[97], 0, 1, 0⟩] := by
  rcases h with ⟨h1, _⟩ | ⟨_, _, h1, _⟩ | ⟨_, _, _, h1, h2, h3, h4⟩
  · exact (h1 okN_a).elim
  · exact absurd h1 (by decide)
  · exact ⟨h1, h2, h3, h4⟩
theorem conf_a {A : Nat → Addr} {c gone : Nat} {r : Value} {l' : List Cli} (h : ConfA A [⟨[97], 0, 1, 0⟩] 1 1 c gone r l') : gone = 0 ∧ r = .nilIface ∧ l' = [⟨[97], 1, 0, 0⟩] := by
  rcases h with ⟨h1, _⟩ | ⟨x, _, _, h1, _⟩ | ⟨x, hx, _, _, _, h2, h3, h4⟩
  · exact absurd (h1 _ (List.mem_singleton.2 rfl)) (by decide)
  · exact (h1 rfl).elim
  · rw [List.mem_singleton.1 hx] at h2 h4
    exact ⟨h2, h3, h4⟩
theorem name_a {A : Nat → Addr} {c : Nat} {r : Value} {s : ByteArray} (h : NameA A [⟨[97], 1, 0, 0⟩] 1 c r s) : r = .nilIface ∧ s = ⟨#[97]⟩ := by
  rcases h with ⟨x, hx, _, _, _, h2, h3⟩ | ⟨h1, _⟩
  · rw [List.mem_singleton.1 hx] at h3
    exact ⟨h2, h3⟩
  · exact (h1 _ (List.mem_singleton.2 rfl) ⟨by decide, by decide⟩).elim
set_option maxRecDepth 100000 in
set_option maxHeartbeats 2000000 in
theorem known_any (A : Nat → Addr) (w : World) (hE : Errs w A) : Calls Tryz.prog 4 #[] w fun e w' => e = .returned (.bool true) ∧ Below w.heap.size w w' := by
  have HE : Hid (Errs w A) := hE
  have hnew := LsV.new (Below.refl w.heap.size w)
  clear hE
  go_enter Tryz.func4, Tryz.ntmps4
  go_wp2_with (first
    | (go_at_call 5; refine hnew.mono ?_; rintro e w1 ⟨t, mb, rfl, h1, _, _, _⟩; have hreg := h1.reg HE.out ⟨#[97]⟩ 7 (by decide); clear hnew h1)
    | (go_at_call 6; refine hreg.mono ?_; rintro e w2 ⟨c, id, r, last', l', rfl, hr, h2, _⟩; obtain ⟨rfl, rfl, rfl, rfl⟩ := reg_a hr; have hconf := h2.conf HE.out 1 1; clear hreg h2 hr)
    | (go_at_call 9; refine hconf.mono ?_; rintro e w3 ⟨c, gone, r, l', rfl, hr, h3, _⟩; obtain ⟨rfl, rfl, rfl⟩ := conf_a hr; have hname := h3.name HE.out 1; clear hconf h3 hr)
    | (go_at_call 16; refine hname.mono ?_; rintro e w4 ⟨c, r, s, rfl, hr, h4, _⟩; obtain ⟨rfl, rfl⟩ := name_a hr; have HB : Hid (Below w.heap.size w w4) := h4.below; clear hname h4 hr))
  go_ret
  exact ⟨rfl, HB.out⟩
end Go.Proofs.YtaipigiinljpkaaGreatDoor
