/- Clients: what Tick makes of them, name by name: plain facts. -/
import Derived.Test.YtaipigiinljpkaaGreatDoorLs1
namespace Go.Proofs.YtaipigiinljpkaaGreatDoor
open Go Go.RowKit Go.Maps

def Mid (n : Nat) (l : List Cli) (pre : List (List UInt8)) (l' : List Cli) : Prop := ∀ x, x ∈ l' ↔ (x ∈ l ∧ x.s ∉ pre) ∨ ∃ d ∈ l, d.s ∈ pre ∧ noneC (tickC n d) = false ∧ x = tickC n d
theorem Mid.start (n : Nat) (l : List Cli) : Mid n l [] l := fun x => by simp
theorem Mid.step {n : Nat} {l l' : List Cli} {pre : List (List UInt8)} {c : Cli} (h : Mid n l pre l') (hn : (l.map (·.s)).Nodup) (hc : c ∈ l) (hp : c.s ∉ pre) : Mid n l (pre ++ [c.s]) (keepC l' (tickC n c)) := fun x => by
  rw [mem_keepC, tickC_s]
  constructor
  · rintro (⟨h1, rfl⟩ | ⟨h1, h2⟩)
    · exact Or.inr ⟨c, hc, by simp, h1, rfl⟩
    · rcases (h x).1 h1 with ⟨h3, h4⟩ | ⟨d, hd, h3, h4⟩
      · exact Or.inl ⟨h3, by simp [h4, h2]⟩
      · exact Or.inr ⟨d, hd, by simp [h3], h4⟩
  · rintro (⟨h1, h2⟩ | ⟨d, hd, h1, h2, rfl⟩)
    · rw [List.mem_append, List.mem_singleton] at h2
      exact Or.inr ⟨(h x).2 (Or.inl ⟨h1, fun e => h2 (Or.inl e)⟩), fun e => h2 (Or.inr e)⟩
    · rw [List.mem_append, List.mem_singleton] at h1
      rcases h1 with h1 | h1
      · exact Or.inr ⟨(h _).2 (Or.inr ⟨d, hd, h1, h2, rfl⟩), by rw [tickC_s]; exact fun e => hp (e ▸ h1)⟩
      · obtain rfl := same_name hn hd hc h1
        exact Or.inl ⟨h2, rfl⟩
theorem Mid.here {n : Nat} {l l' : List Cli} {pre : List (List UInt8)} {c : Cli} (h : Mid n l pre l') (hc : c ∈ l) (hp : c.s ∉ pre) : c ∈ l' := (h c).2 (Or.inl ⟨hc, hp⟩)
theorem Mid.end {n : Nat} {l l' : List Cli} {ss : List (List UInt8)} (h : Mid n l ss l') (hp : ss.Perm (l.map (·.s))) : ∀ x, x ∈ l' ↔ ∃ d ∈ l, noneC (tickC n d) = false ∧ x = tickC n d := fun x => by
  have hm : ∀ d ∈ l, d.s ∈ ss := fun d hd => hp.mem_iff.2 (List.mem_map_of_mem hd)
  rw [h x]
  constructor
  · rintro (⟨h1, h2⟩ | ⟨d, hd, _, h2⟩)
    · exact (h2 (hm x h1)).elim
    · exact ⟨d, hd, h2⟩
  · rintro ⟨d, hd, h2⟩
    exact Or.inr ⟨d, hd, hm d hd, h2⟩
/-! ### numbers of clients, name by name -/
def pickN (p : Cli → Bool) (l : List Cli) (s : List UInt8) : Option Int := match findC l s with
  | some c => if p c then some (c.a : Int) else none
  | none => none
def picks (p : Cli → Bool) (l : List Cli) (ss : List (List UInt8)) : List Int := ss.filterMap (pickN p l)
theorem picks_take {p : Cli → Bool} {l : List Cli} {ss : List (List UInt8)} {j : Nat} {c : Cli} (hn : (l.map (·.s)).Nodup) (hc : c ∈ l) (hj : ss[j]? = some c.s) : picks p l (ss.take (j + 1)) = if p c then picks p l (ss.take j) ++ [(c.a : Int)] else picks p l (ss.take j) := by
  unfold picks
  rw [List.take_add_one, hj, List.filterMap_append]
  show _ ++ [c.s].filterMap (pickN p l) = _
  have : pickN p l c.s = if p c then some (c.a : Int) else none := by unfold pickN; rw [findC_of hn hc]
  rw [List.filterMap_cons, this]
  cases p c <;> simp
theorem picks_len (p : Cli → Bool) (l : List Cli) (ss : List (List UInt8)) : (picks p l ss).length ≤ ss.length := List.length_filterMap_le _ _
theorem mem_picks {p : Cli → Bool} {l : List Cli} {ss : List (List UInt8)} (hn : (l.map (·.s)).Nodup) (hp : ss.Perm (l.map (·.s))) (x : Int) : x ∈ picks p l ss ↔ ∃ c ∈ l, p c = true ∧ x = (c.a : Int) := by
  unfold picks
  rw [List.mem_filterMap]
  constructor
  · rintro ⟨s, hs, h⟩
    obtain ⟨c, hc, rfl⟩ := List.mem_map.1 (hp.mem_iff.1 hs)
    unfold pickN at h
    rw [findC_of hn hc] at h
    cases hpc : p c with
    | true => simp [hpc] at h; exact ⟨c, hc, hpc, h.symm⟩
    | false => simp [hpc] at h
  · rintro ⟨c, hc, hpc, rfl⟩
    refine ⟨c.s, hp.mem_iff.2 (List.mem_map_of_mem hc), ?_⟩
    unfold pickN
    rw [findC_of hn hc]
    simp [hpc]
theorem picks_nodup {last : Nat} {p : Cli → Bool} {l : List Cli} {ss : List (List UInt8)} (h : CInv last l) (hp : ss.Perm (l.map (·.s))) (hpos : ∀ c ∈ l, p c = true → 0 < c.a) : (picks p l ss).Nodup := by
  unfold picks
  have hs : ss.Nodup := hp.nodup_iff.2 h.nod
  refine List.Pairwise.filterMap _ (S := fun a b => a ≠ b) (fun s t hne a ha b hb e => ?_) hs
  unfold pickN at ha hb
  cases h1 : findC l s with
  | none => rw [h1] at ha; cases ha
  | some c =>
    cases h2 : findC l t with
    | none => rw [h2] at hb; cases hb
    | some d =>
      obtain ⟨hc, rfl⟩ := findC_mem h1
      obtain ⟨hd, rfl⟩ := findC_mem h2
      rw [h1] at ha
      rw [h2] at hb
      cases pc : p c with
      | false => simp [pc] at ha
      | true =>
        cases pd : p d with
        | false => simp [pd] at hb
        | true =>
          simp [pc] at ha
          simp [pd] at hb
          have := ((h.one c d hc hd hne).1 (hpos c hc pc)).1
          omega
end Go.Proofs.YtaipigiinljpkaaGreatDoor
