/- What the listed sentinels give a walk: each variable's cell, the error behind it, its text; all of them different. Over whatever program. -/
import Derived.Test.YtmfcfkomdflhlaaDoorMem
import Derived.LaidLaws
import Derived.Stop.LaidErr
namespace Go.Proofs.YtmfcfkomdflhlaaDoor
open Go Go.RowKit Go.ChangeShapes

/-- A listed sentinel: its variable's name, its text. -/
def sent (nm : String) (x : String × List UInt8) : String × DataW Unit := (x.1, .iface nm (.ptr (.agg [.lit (.string x.2)])))

theorem sentinels_list {P : Program} {nm : String} {W : World} {ti tp te ts : TypeId} {ms : Array (String × TypeId)} {f : Field}
    (hi : P.underlying ti = some (.interface ms)) (hrow : ∀ u, P.typeName? 3 u = some nm → u = tp)
    (hp : P.underlying tp = some (.pointer te)) (he : P.underlying te = some (.struct #[f])) (hft : f.type = ts) (hfo : f.offset = 0) (hs : P.underlying ts = some .string) (hc : P.cellsOf te = 1) (hcs : P.cellsOf ts = 1) :
    ∀ (L : List (String × List UInt8)) (G : List Nat) (ps : List MemPlace), L.length = G.length → (∀ x ∈ L.zip G, P.globalNamed x.1.1 = some x.2 ∧ (P.globals[x.2]?).map (·.type) = some ti) →
      DataW.LaidVars P W (L.map (sent nm)) ps →
      (∀ b off, MemPlace.cell b off ∈ ps → (∃ c t, W.heap[b]? = some (.cells c t (0, 0))) ∧ ∀ u v, W.cell? ⟨b, off, none⟩ = some (.iface u v) → Value.okWide P W .any 0 u v) →
      ∃ As : List Addr, As.length = L.length ∧ (As.map fun a => MemPlace.cell a.block a.off).Sublist ps ∧ (∀ a ∈ As, a.spot = none ∧ ∃ c t, W.heap[a.block]? = some (.cells c t (0, 0))) ∧
        (∀ x ∈ G.zip As, W.cell? ⟨x.1, 0, none⟩ = some (.iface tp (.pointer (some x.2)))) ∧ ∀ x ∈ L.zip As, ∃ s : ByteArray, W.cell? x.2 = some (.string s) ∧ s.data.toList = x.1.2 := by
  intro L
  induction L with
  | nil => intro G ps hl _ _ _; exact ⟨[], rfl, List.nil_sublist _, fun a h => by simp at h, fun x h => by cases G <;> simp_all, fun x h => by simp at h⟩
  | cons x L ih =>
    intro G ps hl hG hv hrows
    cases G with
    | nil => simp at hl
    | cons g G =>
      obtain ⟨g0, t0, cs0, f0, p0, q0, hg0, ht0, hv0, hd0, hq, rfl⟩ := hv
      have hG0 := hG (x, g) (by simp)
      obtain rfl := Option.some.inj (hG0.1.symm.trans hg0)
      obtain rfl := Option.some.inj (hG0.2.symm.trans ht0)
      obtain ⟨l0⟩ := cs0
      have ok0 : ∀ u v, l0 = [.iface u v] → Value.okWide P W .any 0 u v := fun u v e => by
        subst e
        exact (hrows g 0 (by simp [MemPlace.row])).2 u v (by simpa using World.var?_cell hg0 hv0 0)
      obtain ⟨a0, s0, rfl, hc0, hs0, hz0, rfl⟩ := errorString_of_trod hi hrow hp he hft hfo hs hc hcs hd0 ok0
      obtain ⟨As, h1, h2, h3, h4, h5⟩ := ih G q0 (by simpa using hl) (fun y hy => hG y (by simp [hy])) hq (fun b off hm => hrows b off (List.mem_append_right _ hm))
      refine ⟨a0 :: As, by simp [h1], ?_, ?_, ?_, ?_⟩
      · rw [List.append_assoc]
        refine List.Sublist.trans ?_ (List.sublist_append_right _ _)
        show List.Sublist (MemPlace.cell a0.block a0.off :: As.map _) (MemPlace.cell a0.block (a0.off + 0) :: q0)
        exact h2.cons_cons _
      · intro a ha
        rcases List.mem_cons.1 ha with rfl | ha
        · exact ⟨World.cell?_spot hc0, (hrows a.block a.off (by simp [MemPlace.row])).1⟩
        · exact h3 a ha
      · intro y hy
        rcases List.mem_cons.1 (by simpa using hy) with rfl | hy
        · simpa using World.var?_cell hg0 hv0 0
        · exact h4 y hy
      · intro y hy
        rcases List.mem_cons.1 (by simpa using hy) with rfl | hy
        · exact ⟨s0, hc0, hs0⟩
        · exact h5 y hy
end Go.Proofs.YtmfcfkomdflhlaaDoor
