/- Blocks of a file in a map, by their numbers: plain facts on maps as they read. No program is named here. -/
import Derived.Maps.Ext
import Derived.Maps.OwnSet
import Derived.Lib.SlMapFilter
import Derived.Lib.UnsafeStr
namespace Go.Proofs.YtmfcfkomdflhlaaDoor
open Go Go.RowKit Go.Maps

/-! ### a block's value -/
def bytesFrom : List Value → Option (List UInt8)
  | [] => some []
  | .int .u8 n :: r => if 0 ≤ n ∧ n < 256 then (bytesFrom r).map (UInt8.ofNat n.toNat :: ·) else none
  | _ :: _ => none
theorem bytesFrom_cells : ∀ bs : List UInt8, bytesFrom (Lib.byteCells bs) = some bs
  | [] => rfl
  | b :: r => by
    have ih := bytesFrom_cells r
    unfold Lib.byteCells at ih ⊢
    have hb : (b.toNat : Int) < 256 := by have := b.toNat_lt; omega
    simp [bytesFrom, ih, hb]
theorem bytesFrom_inv : ∀ (l : List Value) (bs : List UInt8), bytesFrom l = some bs → l = Lib.byteCells bs
  | [], bs, h => by simp [bytesFrom] at h; subst h; rfl
  | v :: r, bs, h => by
    unfold bytesFrom at h
    split at h
    · rename_i e; cases e
    · rename_i n r' e
      cases e
      split at h
      · rename_i hc
        cases hr : bytesFrom r with
        | none => rw [hr] at h; cases h
        | some t =>
          rw [hr] at h
          simp at h
          subst h
          have ih := bytesFrom_inv r t hr
          subst ih
          have hn : ((n.toNat : Nat) : Int) = n := by omega
          have h3 : n.toNat % 256 = n.toNat := by omega
          simp [Lib.byteCells, h3, hn]
      · cases h
    · cases h
def blkV (bs : List UInt8) : Value := .agg (Lib.byteCells bs).toArray
/-- How an element of the map reads: as its bytes. -/
def blkElem : Value → Option (DataW Unit × List MemPlace)
  | .agg cs => match bytesFrom cs.toList with
    | some bs => if bs.length = 64 then some (.lit (.string bs), []) else none
    | none => none
  | _ => none
theorem blkElem_mk {bs : List UInt8} (h : bs.length = 64) : blkElem (blkV bs) = some (.lit (.string bs), []) := by
  simp [blkElem, blkV, bytesFrom_cells, h]
theorem blkElem_inv {v : Value} {y : DataW Unit × List MemPlace} (h : blkElem v = some y) : ∃ bs, bs.length = 64 ∧ v = blkV bs ∧ y = (.lit (.string bs), []) := by
  unfold blkElem at h
  split at h
  · rename_i cs
    cases hb : bytesFrom cs.toList with
    | none => rw [hb] at h; cases h
    | some bs =>
      rw [hb] at h
      simp at h
      obtain ⟨h1, rfl⟩ := h
      refine ⟨bs, h1, ?_, rfl⟩
      unfold blkV
      rw [← bytesFrom_inv _ _ hb]
  · cases h

/-! ### which blocks there are, and what they hold -/
def zero64 : List UInt8 := List.replicate 64 0
theorem zero64_len : zero64.length = 64 := by simp [zero64]
def key (k : Nat) : Lit := .int .i64 k
theorem key_inj {j k : Nat} (h : key j = key k) : j = k := by
  unfold key at h
  have := (Lit.int.inj h).2
  omega
theorem key_wf {k : Nat} (h : k < 9223372036854775808) : (Lit.int .i64 (k : Int)).wf = true := by
  simp [Lit.wf, IntKind.min, IntKind.max, IntKind.signed, IntKind.bits]
  omega
theorem key_key (k : Nat) : WideAt.IsKeyLit (key k) := by unfold key; trivial
structure Holds (D : DataW Unit) (f : Nat → Option (List UInt8)) : Prop where
  keys : ∀ kl, has D kl = true → ∃ k, k < 64 ∧ kl = key k
  gone : ∀ k, f k = none → has D (key k) = false
  there : ∀ k bs, f k = some bs → has D (key k) = true ∧ (∀ z, D.atKey (key k) z = .lit (.string bs)) ∧ bs.length = 64
theorem Holds.empty : Holds (.map []) (fun _ => none) := ⟨fun kl h => by simp [has] at h, fun k _ => by simp [has], fun k bs h => by cases h⟩
theorem Holds.lt {D : DataW Unit} {f : Nat → Option (List UInt8)} (h : Holds D f) {k : Nat} {bs : List UInt8} (e : f k = some bs) : k < 64 := by
  obtain ⟨j, hj, ej⟩ := h.keys _ (h.there k bs e).1
  have := key_inj ej
  omega
theorem Holds.isSome {D : DataW Unit} {f : Nat → Option (List UInt8)} (h : Holds D f) (k : Nat) : (f k).isSome = has D (key k) := by
  cases e : f k with
  | none => rw [h.gone k e]; rfl
  | some bs => rw [(h.there k bs e).1]; rfl
/-- What a look at a block gives. -/
theorem Holds.look {D : DataW Unit} {f : Nat → Option (List UInt8)} (h : Holds D f) (k : Nat) : D.atKey (key k) (.lit (.string zero64)) = .lit (.string ((f k).getD zero64)) := by
  cases e : f k with
  | none => exact atKey_of_not_has (h.gone k e) _
  | some bs => exact (h.there k bs e).2.1 _
theorem Holds.len {D : DataW Unit} {f : Nat → Option (List UInt8)} (h : Holds D f) (k : Nat) : ((f k).getD zero64).length = 64 := by
  cases e : f k with
  | none => exact zero64_len
  | some bs => exact (h.there k bs e).2.2
/-- A block is laid. -/
def upd (f : Nat → Option (List UInt8)) (k : Nat) (bs : List UInt8) : Nat → Option (List UInt8) := fun j => if j = k then some bs else f j
theorem Holds.put {D : DataW Unit} {f : Nat → Option (List UInt8)} (h : Holds D f) (hD : IsMap D) {k : Nat} (hk : k < 64) {bs : List UInt8} (hb : bs.length = 64) : Holds (D.put (key k) (.lit (.string bs))) (upd f k bs) := by
  refine ⟨fun kl hh => ?_, fun j hj => ?_, fun j cs hj => ?_⟩
  · by_cases e : kl = key k
    · exact ⟨k, hk, e⟩
    · rw [has_put_other e] at hh
      exact h.keys kl hh
  · unfold upd at hj
    by_cases e : j = k
    · rw [if_pos e] at hj; cases hj
    · rw [if_neg e] at hj
      rw [has_put_other (fun x => e (key_inj x))]
      exact h.gone j hj
  · unfold upd at hj
    by_cases e : j = k
    · rw [if_pos e] at hj
      cases hj
      subst e
      exact ⟨has_put_same hD (key_key j) _, fun z => atKey_put_same hD (key_key j) _ z, hb⟩
    · rw [if_neg e] at hj
      obtain ⟨h1, h2, h3⟩ := h.there j cs hj
      exact ⟨by rw [has_put_other (fun x => e (key_inj x))]; exact h1, fun z => by rw [atKey_put_other (fun x => e (key_inj x))]; exact h2 z, h3⟩
/-- Blocks from n on are struck: what the function says on data. -/
def behindK (n : Nat) : Lit → Bool
  | .int _ k => decide ((n : Int) ≤ k * 64)
  | _ => false
def behind (n : Nat) (kl : Lit) (_ : DataW Unit) : Bool := behindK n kl
def cutF (f : Nat → Option (List UInt8)) (n : Nat) : Nat → Option (List UInt8) := fun j => if n ≤ j * 64 then none else f j
theorem behind_key (n k : Nat) : behindK n (key k) = decide (n ≤ k * 64) := by
  unfold behindK key
  simp only [decide_eq_decide]
  omega
theorem has_cut (pk : Lit → Bool) (es : List (Lit × DataW Unit)) (kl : Lit) : has (.map (es.filter fun p => !pk p.1)) kl = (has (.map es) kl && !pk kl) := by
  simp only [has]
  induction es with
  | nil => rfl
  | cons p r ih =>
    by_cases hp : pk p.1
    · rw [List.filter_cons_of_neg (by simp [hp]), ih, List.any_cons]
      cases hs : p.1.sameKey kl
      · simp
      · have e := WideAt.sameKey_eq hs
        rw [← e, hp]
        simp
    · rw [List.filter_cons_of_pos (by simp [hp]), List.any_cons, List.any_cons, ih]
      cases hs : p.1.sameKey kl
      · simp
      · have e := WideAt.sameKey_eq hs
        rw [← e]
        simp [hp]
theorem Holds.cut {D : DataW Unit} {f : Nat → Option (List UInt8)} (h : Holds D f) (hD : IsMap D) (n : Nat) : Holds (Lib.deleteFuncD (behind n) D) (cutF f n) := by
  obtain ⟨es, rfl⟩ := hD
  have e0 : Lib.deleteFuncD (behind n) (.map es) = .map (es.filter fun p => !behindK n p.1) := rfl
  rw [e0]
  refine ⟨fun kl hh => ?_, fun j hj => ?_, fun j cs hj => ?_⟩
  · rw [has_cut] at hh
    exact h.keys kl (by revert hh; cases has (.map es) kl <;> simp)
  · rw [has_cut, behind_key]
    unfold cutF at hj
    by_cases e : n ≤ j * 64
    · simp [e]
    · rw [if_neg e] at hj
      rw [h.gone j hj]
      rfl
  · unfold cutF at hj
    by_cases e : n ≤ j * 64
    · rw [if_pos e] at hj; cases hj
    · rw [if_neg e] at hj
      obtain ⟨h1, h2, h3⟩ := h.there j cs hj
      refine ⟨by rw [has_cut, behind_key, h1]; simp [e], fun z => ?_, h3⟩
      have hf : (es.filter fun p => !behindK n p.1).find? (fun p => p.1.sameKey (key j)) = es.find? (fun p => p.1.sameKey (key j)) :=
        find_filter_keep (f := fun p : Lit × DataW Unit => p.1.sameKey (key j)) (g := fun p => !behindK n p.1) (fun p hp => by
          have e1 := WideAt.sameKey_eq hp
          show (!behindK n p.1) = true
          rw [e1, behind_key]
          simp [e]) es
      have := h2 z
      simp only [DataW.atKey] at this ⊢
      rw [hf]
      exact this
/-- How many there are. -/
theorem Holds.size {D : DataW Unit} {f : Nat → Option (List UInt8)} (h : Holds D f) (hT : Tidy D) (hK : ∀ es, D = .map es → ∀ p ∈ es, WideAt.IsKeyLit p.1) : Maps.size D = ((List.range 64).filter (fun k => (f k).isSome)).length := by
  obtain ⟨es, rfl, hp⟩ := hT
  have n1 : (es.map Prod.fst).Nodup := by
    unfold List.Nodup
    rw [List.pairwise_map]
    exact hp
  have n2 : (((List.range 64).filter (fun k => (f k).isSome)).map key).Nodup := by
    unfold List.Nodup
    rw [List.pairwise_map]
    exact (List.Pairwise.filter _ (List.nodup_range (n := 64))).imp (fun hne e => hne (key_inj e))
  have hm : (es.map Prod.fst).Perm (((List.range 64).filter (fun k => (f k).isSome)).map key) := by
    rw [List.perm_ext_iff_of_nodup n1 n2]
    intro kl
    constructor
    · intro hk
      obtain ⟨p, hp1, rfl⟩ := List.mem_map.1 hk
      have hh : has (.map es) p.1 = true := List.any_eq_true.2 ⟨p, hp1, WideAt.sameKey_self (hK es rfl p hp1)⟩
      obtain ⟨k, hk64, ek⟩ := h.keys _ hh
      refine List.mem_map.2 ⟨k, List.mem_filter.2 ⟨List.mem_range.2 hk64, ?_⟩, ek.symm⟩
      rw [h.isSome k, ← ek]
      exact hh
    · intro hk
      obtain ⟨k, hk1, rfl⟩ := List.mem_map.1 hk
      have hs := (List.mem_filter.1 hk1).2
      rw [h.isSome k] at hs
      obtain ⟨p, hp1, hp2⟩ := List.any_eq_true.1 hs
      exact List.mem_map.2 ⟨p, hp1, WideAt.sameKey_eq hp2⟩
  have := hm.length_eq
  simpa [Maps.size] using this
end Go.Proofs.YtmfcfkomdflhlaaDoor
