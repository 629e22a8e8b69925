/- A slice that begins anywhere in a row of one's own ('l = l[1:]'): what it holds; an append to it. Of no program. -/
import Derived.Test.YtlmppddgeclddaaDoorO1
import Derived.Test.YtlmppddgeclddaaDoorSl1
namespace Go.Proofs.YtlmppddgeclddaaDoor
open Go Go.RowKit

/-- A part of a row, up to the row's end, is one's own: n elements of k cells. -/
def PartRow (w : World) (base : Nat) (e : TypeId) (k : Nat) (v : Value) (n : Nat) (xs : List Value) : Prop :=
  xs.length = n * k ∧ ((v = .slice none 0 0 ∧ n = 0) ∨ ∃ g off cap cur, v = .slice (some ⟨g, off, none⟩) n cap ∧ base ≤ g ∧ w.heap[g]? = some (.cells cur e (0, 0)) ∧ n ≤ cap ∧ cap ≤ maxLen ∧ cur.size = off + cap * k ∧ (cur.toList.drop off).take (n * k) = xs)
section
variable {w w' : World} {base : Nat} {e : TypeId} {k n : Nat} {v : Value} {xs : List Value}
theorem PartRow.nil (w : World) (base : Nat) (e : TypeId) (k : Nat) : PartRow w base e k (.slice none 0 0) 0 [] := ⟨by simp, Or.inl ⟨rfl, rfl⟩⟩
theorem PartRow.only {L : List Nat} (h : PartRow w base e k v n xs) (ho : Only L w w') (hn : ∀ j, v.ownBlock = some j → j ∉ L) : PartRow w' base e k v n xs := by
  obtain ⟨h1, h2⟩ := h
  refine ⟨h1, ?_⟩
  rcases h2 with h2 | ⟨g, off, cap, cur, hv, hg, hh, r⟩
  · exact Or.inl h2
  · have hlt : g < w.heap.size := (Array.getElem?_eq_some_iff.1 hh).1
    exact Or.inr ⟨g, off, cap, cur, hv, hg, (ho.block g hlt (hn g (by rw [hv]; rfl))).trans hh, r⟩
theorem PartRow.block {b : Nat} (h : PartRow w base e k v n xs) (hb : v.ownBlock = some b) : base ≤ b ∧ b < w.heap.size ∧ ∃ cur, w.heap[b]? = some (.cells cur e (0, 0)) := by
  rcases h.2 with ⟨rfl, _⟩ | ⟨g, off, cap, cur, rfl, h1, h2, h3⟩
  · cases hb
  · cases hb
    exact ⟨h1, (Array.getElem?_eq_some_iff.1 h2).1, cur, h2⟩
/-- Where it lies. -/
theorem PartRow.form (h : PartRow w base e k v n xs) : ∃ ad cap, v = .slice ad n cap ∧ (cap : Int) ≤ 9223372036854775807 ∧ n ≤ cap ∧ ∀ j, j < n * k → ∃ g off, ad = some ⟨g, off, none⟩ ∧ w.cell? ⟨g, off + j, none⟩ = xs[j]? := by
  rcases h.2 with ⟨rfl, rfl⟩ | ⟨g, off, cap, cur, rfl, h1, h2, h3, h4, h5, h6⟩
  · exact ⟨none, 0, rfl, by omega, by omega, fun j hj => by omega⟩
  · refine ⟨_, _, rfl, by unfold maxLen at h4; omega, h3, fun j hj => ⟨g, off, rfl, ?_⟩⟩
    rw [cell_of_row _ _ _ _ _ _ h2, ← h6, List.getElem?_take, if_pos hj, List.getElem?_drop]
    simp
/-- The first element goes. -/
theorem PartRow.tail {g off cap : Nat} (h : PartRow w base e k (.slice (some ⟨g, off, none⟩) (n + 1) cap) (n + 1) xs) : PartRow w base e k (.slice (some ⟨g, off + k, none⟩) n (cap - 1)) n (xs.drop k) := by
  obtain ⟨h0, h2⟩ := h
  refine ⟨by rw [List.length_drop, h0, Nat.add_mul]; omega, ?_⟩
  rcases h2 with ⟨h2, _⟩ | ⟨g', off', cap', cur, hv, hg, hh, h3, h4, h5, h6⟩
  · cases h2
  · simp only [Value.slice.injEq, Option.some.injEq, Addr.mk.injEq, and_true, true_and] at hv
    obtain ⟨⟨rfl, rfl⟩, rfl⟩ := hv
    refine Or.inr ⟨g, off + k, cap - 1, cur, rfl, hg, hh, by omega, by omega, ?_, ?_⟩
    · rw [h5]
      obtain ⟨c, rfl⟩ : ∃ c, cap = c + 1 := ⟨cap - 1, by omega⟩
      rw [Nat.add_mul, Nat.add_sub_cancel]
      omega
    · rw [← h6, List.drop_take, List.drop_drop, Nat.add_mul, Nat.one_mul, Nat.add_sub_cancel]
/-- An append to it. -/
theorem PartRow.append {P : Program} (t : TypeId) (i : TypeInfo) (z : Value) (bytes : Nat) (ht : P.underlying t = some (.slice e)) (hi : P.info? e = some i) (hz : i.zero = some z) (hsize : i.size = k) (hby : i.bytes = bytes) (hzs : z.cells.size = k) (hsz : 0 < k)
    (h : PartRow w base e k v n xs) (a : Addr) (m c : Nat) (news : List Value) (hl : news.length = m * k) (hnews : ∀ j u, news[j]? = some u → w.cell? (a.add j) = some u) (h1 : ∀ u ∈ news, u.oneCell' = true) (hm : 0 < m)
    (h63 : n + m ≤ maxLen) (hbytes : (n + m) * bytes ≤ 140737488355328) (hbase : base ≤ w.heap.size) :
    ∃ g off cap w', (∀ ty, (Builtin.append_ #[t, t] ty #[v, .slice (some a) m c]).run P w = .ok (.slice (some ⟨g, off, none⟩) (n + m) cap) w') ∧ PartRow w' base e k (.slice (some ⟨g, off, none⟩) (n + m) cap) (n + m) (xs ++ news) ∧ Only v.ownBlock.toList w w' := by
  subst hsize
  subst hby
  have hlen : (xs ++ news).length = (n + m) * i.size := by rw [List.length_append, h.1, hl, Nat.add_mul]
  have grown : ∀ (old : Nat), old < n + m →
      PartRow (w.drew.alloc (.cells (xs.toArray ++ news.toArray ++ Builtin.zeroCells z.cells (grownCap w (n + m) old e - (n + m))) e)) base e i.size (.slice (some ⟨w.heap.size, 0, none⟩) (n + m) (grownCap w (n + m) old e)) (n + m) (xs ++ news) ∧
      Only v.ownBlock.toList w (w.drew.alloc (.cells (xs.toArray ++ news.toArray ++ Builtin.zeroCells z.cells (grownCap w (n + m) old e - (n + m))) e)) := by
    intro old ho
    have hge := grownCap_ge w (n + m) old e
    have hcm : grownCap w (n + m) old e ≤ maxLen := grownCap_le_maxLen w (n + m) old e h63
    refine ⟨⟨hlen, .inr ⟨w.heap.size, 0, _, _, rfl, hbase, heap_alloc_new w.drew _, hge, hcm, ?_, ?_⟩⟩, ((Only.refl _ w).drew).alloc _⟩
    · simp only [Array.size_append, List.size_toArray, size_zeroCells, hzs, h.1, hl, ← Nat.add_mul, Nat.zero_add]
      congr 1
      omega
    · simp only [Array.toList_append, List.append_assoc, List.drop_zero]
      rw [← List.append_assoc, ← hlen]
      exact List.take_left
  rcases h.2 with ⟨rfl, rfl⟩ | ⟨g, off, cap, cur, rfl, hbg, hg, hnc, hcm, hcs, htake⟩
  · have hx : xs = [] := List.eq_nil_of_length_eq_zero (by simpa using h.1)
    subst hx
    have hgr := grown 0 (by omega)
    simp only [Nat.zero_add, List.nil_append, Array.empty_append] at hgr ⊢
    exact ⟨_, _, _, _, fun ty => run_append_nil (P := P) w t ty e i z ht hi hz a m c news hl hnews (by omega) (by unfold maxLen at h63; omega) (by have hb := hbytes; simp only [Nat.zero_add] at hb; omega), hgr.1, hgr.2⟩
  · by_cases hroom : n + m ≤ cap
    · have hfit : off + n * i.size + news.length ≤ cur.size := by
        have := Nat.mul_le_mul_right i.size hroom
        rw [Nat.add_mul] at this
        omega
      have hcl : cur.toList.length = off + cap * i.size := by rw [Array.length_toList, hcs]
      have hf := run_firstCells_some (P := P) w i.size m a m c news hl hnews
      have hst := run_storeCells_at P g (off + n * i.size) e news 0 cur w hg (by simpa using hfit) h1
      simp only [Nat.add_zero] at hst
      refine ⟨g, off, cap, w.setRow g (overV cur.toList (off + n * i.size) news).toArray, fun ty => ?_, ⟨hlen, .inr ⟨g, off, cap, _, rfl, hbg, setRow_heap w g cur _ e _ hg, hroom, hcm, ?_, ?_⟩⟩, only_row w g _⟩
      · simp [Builtin.append_, run_underlying ht, sizeOf, typeInfo, hi, Builtin.lenOf, hroom, hf, Addr.add_lit, hst, overV]
      · rw [List.size_toArray, overV_len (by rw [hcl]; omega), hcl]
      · have hl0 : xs.length = n * i.size := h.1
        have e1 : (overV cur.toList (off + n * i.size) news).drop off = (cur.toList.drop off).take (n * i.size) ++ (news ++ cur.toList.drop (off + n * i.size + news.length)) := by
          unfold overV
          rw [List.append_assoc, List.drop_append_of_le_length (by rw [List.length_take]; omega), List.drop_take, Nat.add_sub_cancel_left]
        rw [List.toList_toArray, e1, htake, ← List.append_assoc, ← hlen]
        exact List.take_left
    · have holds : ∀ j u, xs[j]? = some u → w.cell? ((⟨g, off, none⟩ : Addr).add j) = some u := part_of hg off (fun j u hu => by
        rw [← htake, List.getElem?_take] at hu
        split at hu
        · rw [List.getElem?_drop] at hu
          exact hu
        · cases hu)
      exact ⟨_, _, _, _, fun ty => run_append_grow (P := P) w t ty e i z ht hi hz ⟨g, off, none⟩ n cap xs h.1 holds a m c news hl hnews (by omega) (by unfold maxLen at h63; omega) (growslice_fits (by omega) hbytes), (grown cap (by omega)).1, (grown cap (by omega)).2⟩
end
end Go.Proofs.YtlmppddgeclddaaDoor
