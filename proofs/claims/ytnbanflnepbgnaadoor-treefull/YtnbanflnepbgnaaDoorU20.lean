/- The tree: the laws' closed fact: a tree has a root. -/
import Derived.Test.YtnbanflnepbgnaaDoorU19
namespace Go.Proofs.YtnbanflnepbgnaaDoor
open Go Go.RowKit Go.Deep Go.Maps

theorem okN_a : OkN ⟨#[97]⟩ := by
  refine ⟨by decide, by decide, by rw [Lib.toList_data]; decide, by rw [Lib.toList_data]; decide, fun x hx => ?_⟩
  have : x = 0 := by have h : x < 1 := hx; omega
  subst this
  rfl
theorem count_root (x : Nod) : countTo (setN (fun _ => none) 0 (some x)) 1 = 1 := by
  rw [countTo_succ, setN_same]
  rfl
theorem first_file (A : Nat → Addr) (W w : World) (tr t : Nat) (p : Row) (b db B pb : Nat) (hT : TreeAt w tr (Tr.fresh t p 3 b db B pb)) (hE : Errs w A) (hN : p.N = 1) (ho : Below W.heap.size W w) (hs : W.heap.size ≤ t ∧ W.heap.size ≤ b ∧ W.heap.size ≤ B ∧ ∀ k, p.a = some k → W.heap.size ≤ k) :
    Calls Tryd.prog 6 #[.pointer (some ⟨tr, 0, none⟩), .agg #[.int .i64 0, .int .i64 0], .string ⟨#[97]⟩, .int .i64 1] w fun e w' => e = .returned (.tuple #[.agg #[.int .i64 1, .int .i64 0], .nilIface]) ∧ Below W.heap.size W w' := by
  have hc := create_file w tr (Tr.fresh t p 3 b db B pb) A 0 1 { newNod b 2 with Z := 0, L := 2 } ⟨B, []⟩ ⟨#[97]⟩ hT hE rfl rfl rfl (And.intro (show (0 : Int) ≤ 0 by omega) (show (0 : Int) ≤ 9000000000000000000 by omega)) okN_a (by decide) rfl (show 0 < 60 by decide) (fun e he => by cases he) (by decide)
    (by
      show countTo (setN (fun _ => none) 0 (some _)) p.N < 3
      rw [hN, count_root]
      decide) rfl (fun j hj => by
      obtain rfl : j = 0 := by omega
      show (setN (fun _ => none) 0 (some _) 0).isSome = true
      rw [setN_same]
      rfl)
  refine hc.mono fun e w' hh => ?_
  obtain ⟨he, p', b', _, _, _, _, ho'⟩ := hh
  refine ⟨he, ho.trans (ho'.to_below ho.size (fun k hk => ?_))⟩
  rcases List.mem_cons.1 hk with e1 | hk
  · rw [e1]; exact hs.2.2.1
  · rcases List.mem_cons.1 hk with e1 | hk
    · rw [e1]; exact hs.2.1
    · rcases List.mem_cons.1 hk with e1 | hk
      · rw [e1]; exact hs.1
      · exact hs.2.2.2 k (by have hk' : k ∈ p.a.toList := hk; simpa using hk')
set_option maxRecDepth 100000 in
set_option maxHeartbeats 2000000 in
theorem rooted_any (A : Nat → Addr) (w : World) (hE : Errs w A) : Calls Tryd.prog 4 #[] w fun e w' => e = .returned (.bool true) ∧ Below w.heap.size w w' := by
  have hnew := tree_new w 3 (by decide) (by decide)
  have HE : Hid (Errs w A) := hE
  clear hE
  go_enter Tryd.func4, Tryd.ntmps4
  go_wp2_with (first
    | (go_at_call 5; go_must (refine hnew.mono ?_); rintro e w1 ⟨tr, t, p, b, db, B, pb, rfl, hT1, ho1, hN1, h1, h2, h3, h4, h5, h6, h7⟩; have HT1 : Hid (TreeAt w1 tr (Tr.fresh t p 3 b db B pb)) := hT1; have HO1 : Hid (Only [] w w1) := ho1; have HN1 : Hid (p.N = 1) := hN1; have HS : Hid (w.heap.size ≤ t ∧ w.heap.size ≤ b ∧ w.heap.size ≤ B ∧ ∀ k, p.a = some k → w.heap.size ≤ k) := ⟨h2, h3, h5, h7⟩; have hnd := nodes_any w1 tr (Tr.fresh t p 3 b db B pb) hT1; rw [show countTo (Tr.fresh t p 3 b db B pb).nd (Tr.fresh t p 3 b db B pb).p.N = 1 from by show countTo (setN (fun _ => none) 0 (some _)) p.N = 1; rw [hN1]; exact count_root _] at hnd; clear hT1 ho1 hN1 h1 h2 h3 h4 h5 h6 h7 hnew)
    | (go_at_call 12; go_must (refine hnd.mono ?_); rintro e w2 ⟨rfl, ho2⟩; have HT2 : Hid (TreeAt w2 tr (Tr.fresh t p 3 b db B pb)) := HT1.out.only ho2; have HO2 : Hid (Only [] w w2) := HO1.out.trans ho2 (fun _ hk => by cases hk); have hrt := root_any w2 (.pointer (some ⟨tr, 0, none⟩)); clear ho2 hnd)
    | (go_at_call 7; go_must (refine hrt.mono ?_); rintro e w3 ⟨rfl, ho3⟩; have HT3 : Hid (TreeAt w3 tr (Tr.fresh t p 3 b db B pb)) := HT2.out.only ho3; have hb3 : Below w.heap.size w w3 := (HO2.out.trans ho3 (fun _ hk => by cases hk)).to_below (Nat.le_refl _) (fun k hk => by cases hk); have hcf := first_file A w w3 tr t p b db B pb HT3.out (HE.out.below hb3 (Nat.le_refl _)) HN1.out hb3 HS.out; clear ho3 hrt hb3)
    | (go_at_call 6; go_must (refine hcf.mono ?_); rintro e w4 ⟨rfl, hb4⟩; have HB4 : Hid (Below w.heap.size w w4) := hb4; clear hb4 hcf)
    | go_in)
  go_ret
  exact ⟨rfl, HB4.out.alloc HB4.out.size _⟩
end Go.Proofs.YtnbanflnepbgnaaDoor
