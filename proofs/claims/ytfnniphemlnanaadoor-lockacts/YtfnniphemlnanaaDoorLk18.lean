/- LockFull: plain: so many runs, with gaps. -/
import Derived.Test.YtfnniphemlnanaaDoorLk17
namespace Go.Proofs.YtfnniphemlnanaaDoor
open Go Go.RowKit Go.Deep

def Told (A : Nat → Addr) (c : Nat) (r : Value) : Prop := (c = 0 ∧ r = .nilIface) ∨ ∃ k, k < 15 ∧ c = k + 1 ∧ r = sErr A k
theorem coded2_any (A : Nat → Addr) (c : Nat) (r : Value) (w : World) (h : Errs w A) (ht : Told A c r) :
    Calls Tryd.prog 10 #[r, .int .i64 (c : Int)] w fun e w' => e = .returned (.bool true) ∧ Below w.heap.size w w' := by
  have H : Hid (Errs w A) := h
  clear h
  rcases ht with ⟨rfl, rfl⟩ | ⟨k, hk, rfl, rfl⟩
  · show Calls Tryd.prog 10 #[.nilIface, .int .i64 0] w _
    go_enter Tryd.func10, Tryd.ntmps10
    go_wp2_with (go_at_call 26; refine (code_nil _).mono ?_; rintro e w2 ⟨rfl, rfl⟩)
    go_ret
    exact ⟨rfl, Below.refl _ _⟩
  · have e : ((k + 1 : Nat) : Int) = (k : Int) + 1 := by omega
    rw [e]
    unfold sErr
    go_enter Tryd.func10, Tryd.ntmps10
    go_wp2_with (go_at_call 26; refine (code_err A k hk _ H.out).mono ?_; rintro e w2 ⟨rfl, hb⟩)
    go_ret
    exact ⟨rfl, hb⟩
theorem LockR.told {A : Nat → Addr} {l l' : List Lk} {v res : Lk} {c : Nat} {r : Value} (h : LockR A l v c r res l') : Told A c r := by
  rcases h with ⟨_, rfl, rfl, _⟩ | ⟨_, _, rfl, rfl, _⟩ | ⟨_, _, _, rfl, rfl, _⟩ | ⟨_, _, _, rfl, rfl, _⟩
  · exact Or.inr ⟨1, by decide, rfl, rfl⟩
  · exact Or.inr ⟨10, by decide, rfl, rfl⟩
  · exact Or.inr ⟨8, by decide, rfl, rfl⟩
  · exact Or.inl ⟨rfl, rfl⟩
theorem UnlockR.told {A : Nat → Addr} {l l' : List Lk} {N G O a s : Int} {c : Nat} {r : Value} (h : UnlockR A l N G O a s c r l') : Told A c r := by
  rcases h with ⟨_, rfl, rfl, _⟩ | ⟨_, _, rfl, rfl, _⟩ | ⟨_, _, rfl, rfl, _⟩
  · exact Or.inr ⟨1, by decide, rfl, rfl⟩
  · exact Or.inr ⟨8, by decide, rfl, rfl⟩
  · exact Or.inl ⟨rfl, rfl⟩
theorem TestR.told {A : Nat → Addr} {l : List Lk} {v res : Lk} {c : Nat} {r : Value} (h : TestR A l v c r res) : Told A c r := by
  rcases h with ⟨_, rfl, rfl, _⟩ | ⟨_, _, rfl, rfl⟩ | ⟨_, _, rfl, rfl, _⟩
  · exact Or.inr ⟨1, by decide, rfl, rfl⟩
  · exact Or.inr ⟨10, by decide, rfl, rfl⟩
  · exact Or.inl ⟨rfl, rfl⟩
/-! ### runs of five bytes, with gaps of five -/
def slotK (k : Nat) : Lk := ⟨1, 0, 1, 10 * (k : Int), 5, false⟩
theorem slotK_e (k : Nat) : (slotK k).e = 10 * (k : Int) + 5 := by unfold slotK Lk.e endR; simp
theorem slotK_ok {k : Nat} (h : k ≤ 100) : (slotK k).Ok := by
  refine ⟨?_, ?_, ?_, ?_⟩ <;> unfold slotK <;> simp <;> omega
theorem slotK_rng {k : Nat} (h : k ≤ 100) : rngB (10 * (k : Int)) 5 = true := by
  unfold rngB
  simp only [Bool.and_eq_true, decide_eq_true_eq]
  refine ⟨⟨⟨?_, ?_⟩, ?_⟩, ?_⟩ <;> omega
def FullAt (m : Nat) (l : List Lk) : Prop := l.Perm ((List.range m).map slotK)
theorem FullAt.mem {m : Nat} {l : List Lk} (h : FullAt m l) {x : Lk} (hx : x ∈ l) : ∃ k, k < m ∧ x = slotK k := by
  have := h.mem_iff.1 hx
  obtain ⟨k, hk, rfl⟩ := List.mem_map.1 this
  exact ⟨k, List.mem_range.1 hk, rfl⟩
theorem FullAt.len {m : Nat} {l : List Lk} (h : FullAt m l) : l.length = m := by rw [h.length_eq, List.length_map, List.length_range]
theorem flatMap_self {l : List Lk} {f : Lk → List Lk} (h : ∀ x ∈ l, f x = [x]) : l.flatMap f = l := by
  induction l with
  | nil => rfl
  | cons x l ih => rw [List.flatMap_cons, h x List.mem_cons_self, ih (fun y hy => h y (List.mem_cons_of_mem _ hy))]; rfl
theorem joinL_none {v a : Lk} {l : List Lk} (h : ∀ x ∈ l, goesB v x = false) : joinL v a l = a := by
  induction l generalizing a with
  | nil => rfl
  | cons x l ih =>
    show joinL v (if goesB v x then joinK a x else a) l = a
    rw [h x List.mem_cons_self]
    exact ih (fun y hy => h y (List.mem_cons_of_mem _ hy))
theorem FullAt.no {m i : Nat} {l : List Lk} (h : FullAt m l) : ∀ x ∈ l, agB (slotK i) x = false := fun x hx => by
  obtain ⟨k, _, rfl⟩ := h.mem hx
  cases hg : agB (slotK i) (slotK k) with
  | false => rfl
  | true => exact absurd rfl (ag_iff.1 hg).2.2.1
theorem FullAt.with {m i : Nat} {l : List Lk} (h : FullAt m l) (hm : m ≤ i) (hi : i ≤ 100) : withL (slotK i) l = l ++ [slotK i] := by
  have h1 : withoutL (slotK i).N (slotK i).G (slotK i).O (slotK i).A (slotK i).S l = l := flatMap_self (fun x hx => by
    obtain ⟨k, hk, rfl⟩ := h.mem hx
    unfold cutL
    split
    · exact out_beside (slotK_ok hi) (slotK_ok (by omega)) (Or.inl (by rw [slotK_e]; show _ ≤ 10 * (i : Int); omega))
    · rfl)
  have h2 : ∀ x ∈ l, goesB (slotK i) x = false := fun x hx => by
    obtain ⟨k, hk, rfl⟩ := h.mem hx
    cases hg : goesB (slotK i) (slotK k) with
    | false => rfl
    | true =>
      have := (goes_iff.1 hg).2.2.2
      rw [slotK_e] at this
      have h3 : (slotK i).A = 10 * (i : Int) := rfl
      omega
  unfold withL
  rw [h1, joinL_none h2, List.filter_eq_self.2 (fun x hx => by rw [h2 x hx]; rfl)]
theorem FullAt.next {m : Nat} {l l' : List Lk} (h : FullAt m l) (hp : l'.Perm (l ++ [slotK m])) : FullAt (m + 1) l' := by
  unfold FullAt
  rw [List.range_succ, List.map_append]
  exact hp.trans (h.append_right _)
theorem FullAt.lock {A : Nat → Addr} {i : Nat} {l l' : List Lk} {res : Lk} {c : Nat} {r : Value} (h : FullAt (min i 60) l) (hi : i ≤ 100) (hr : LockR A l ⟨1, 0, 1, 10 * (i : Int), 5, false⟩ c r res l') : c = (if 60 ≤ i then 9 else 0) ∧ FullAt (min (i + 1) 60) l' := by
  have hw : withL ⟨1, 0, 1, 10 * (i : Int), 5, false⟩ l = l ++ [slotK i] := h.with (by omega) hi
  have hn := h.no (i := i)
  have hl := h.len
  rcases hr with ⟨hb, _⟩ | ⟨_, ⟨k, hx, hp, _⟩, _⟩ | ⟨_, _, hb, rfl, _, _, rfl⟩ | ⟨_, _, hb, rfl, _, _, hp, _⟩
  · rw [slotK_rng hi] at hb; cases hb
  · have := hn _ (List.mem_of_getElem? hx)
    have hp' : agB (slotK i) res = true := hp
    rw [this] at hp'
    cases hp'
  · rw [hw, List.length_append, List.length_singleton, hl] at hb
    have h60 : 60 ≤ i := by omega
    exact ⟨(if_pos h60).symm, by rw [show min (i + 1) 60 = min i 60 by omega]; exact h⟩
  · rw [hw, List.length_append, List.length_singleton, hl] at hb
    have h60 : i < 60 := by omega
    refine ⟨(if_neg (by omega)).symm, ?_⟩
    rw [hw] at hp
    rw [show min i 60 = i by omega] at h
    rw [show min (i + 1) 60 = i + 1 by omega]
    exact h.next hp
theorem cut_slot {c k : Nat} (hc : c ≤ 100) (hk : k ≤ 100) : (cutL 1 0 1 (10 * (c : Int) + 2) 1 (slotK k)).length = if k = c then 2 else 1 := by
  have hr : OkR (10 * (c : Int) + 2) 1 := ⟨by omega, by omega, by omega, by omega⟩
  have he : endR (10 * (c : Int) + 2) 1 = 10 * (c : Int) + 3 := by unfold endR; rw [if_neg (by omega)]; omega
  unfold cutL
  rw [show ownB 1 0 1 (slotK k) = true from rfl, if_pos rfl]
  by_cases h : k = c
  · subst h
    rw [if_pos rfl]
    unfold outL
    rw [he, slotK_e, if_pos (show (slotK k).A < 10 * (k : Int) + 2 by show 10 * (k : Int) < _; omega), if_pos (by omega)]
    rfl
  · rw [if_neg h, out_beside hr (slotK_ok hk) (by rw [slotK_e, he]; show _ ∨ _ ≤ 10 * (k : Int); omega)]
    rfl
theorem without_slots (c : Nat) (hc : c ≤ 100) (m : Nat) : m ≤ 100 → (withoutL 1 0 1 (10 * (c : Int) + 2) 1 ((List.range m).map slotK)).length = m + if c < m then 1 else 0 := by
  induction m with
  | zero => intro _; simp [withoutL]
  | succ m ih =>
    intro hm
    rw [List.range_succ, List.map_append]
    unfold withoutL at ih ⊢
    rw [List.flatMap_append, List.length_append, ih (by omega)]
    have := cut_slot hc (k := m) (by omega)
    rw [show (List.map slotK [m]).flatMap (cutL 1 0 1 (10 * (c : Int) + 2) 1) = cutL 1 0 1 (10 * (c : Int) + 2) 1 (slotK m) by simp, this]
    by_cases h1 : c < m
    · rw [if_pos h1, if_neg (by omega), if_pos (by omega)]
    · by_cases h2 : m = c
      · rw [if_neg h1, if_pos h2, if_pos (by omega)]
      · rw [if_neg h1, if_neg h2, if_neg (by omega)]
theorem FullAt.unlock {A : Nat → Addr} {m c0 : Nat} {l l' : List Lk} {c : Nat} {r : Value} (h : FullAt m l) (hm : m ≤ 60) (hc : c0 < m) (hr : UnlockR A l 1 0 1 (10 * (c0 : Int) + 2) 1 c r l') : (m = 60 → c = 9 ∧ l'.length = 60) ∧ (m ≠ 60 → r = .nilIface ∧ l'.length = m + 1) := by
  have hl : (withoutL 1 0 1 (10 * (c0 : Int) + 2) 1 l).length = m + 1 := by
    have hp : (withoutL 1 0 1 (10 * (c0 : Int) + 2) 1 l).Perm (withoutL 1 0 1 (10 * (c0 : Int) + 2) 1 ((List.range m).map slotK)) := List.Perm.flatMap_right _ h
    rw [hp.length_eq, without_slots c0 (by omega) m (by omega), if_pos hc]
  have hg : rngB (10 * (c0 : Int) + 2) 1 = true := by
    unfold rngB
    simp only [Bool.and_eq_true, decide_eq_true_eq]
    refine ⟨⟨⟨?_, ?_⟩, ?_⟩, ?_⟩ <;> omega
  rcases hr with ⟨hb, _⟩ | ⟨_, hb, rfl, rfl, rfl⟩ | ⟨_, hb, rfl, rfl, hp, _⟩
  · rw [hg] at hb; cases hb
  · exact ⟨fun e => ⟨rfl, by rw [h.len, e]⟩, fun e => by omega⟩
  · exact ⟨fun e => by omega, fun _ => ⟨rfl, by rw [hp.length_eq, hl]⟩⟩
end Go.Proofs.YtfnniphemlnanaaDoor
