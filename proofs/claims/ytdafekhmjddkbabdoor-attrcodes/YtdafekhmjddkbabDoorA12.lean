/- Attributes: a handle's two numbers pass, into a text or out of one. -/
import Derived.Test.YtdafekhmjddkbabDoorA11
import Derived.Deep.DeepCutAuto
namespace Go.Proofs.YtdafekhmjddkbabDoor
open Go Go.RowKit Go.Deep

/-- How a handle's two numbers pass into a text. -/
def WrUp (b p q ab : Nat) (E : Value) (v : Nat → Int) (t : ByteArray) (w : World) (r : Value) (w' : World) : Prop :=
  Only [b] w w' ∧ ((okA 4 (v 4) = true ∧ okA 5 (v 5) = true ∧ r = .nilIface ∧ Wr w' b p q ab E v (t ++ bs (be 4 (v 4).toNat) ++ bs (be 4 (v 5).toNat))) ∨ ((okA 4 (v 4) = false ∨ (okA 4 (v 4) = true ∧ okA 5 (v 5) = false)) ∧ r = E))
theorem putUp (b p q ab : Nat) (T : TypeId) (x : Value) (v : Nat → Int) (t : ByteArray) (w : World) (h : Wr w b p q ab (.iface T x) v t) (hv : ∀ i, i < 6 → v i < 9223372036854775808) (ht : t.size ≤ 3800) :
    Calls Tryd.prog 68 #[.agg #[fromV p, fromV q], .pointer (some ⟨ab, 4, none⟩)] w fun e w' => ∃ r, e = .returned r ∧ WrUp b p q ab (.iface T x) v t w r w' := by
  have hB : Below w.heap.size w (w.alloc (.cells #[fromV p, fromV q] 60)).drew := ((Below.refl _ _).alloc (Nat.le_refl _) _).drew
  have hq := short_passes b p q ab T x v t 4 (by decide) _ (h.later hB) (hv 4 (by decide)) (by omega) (by decide)
  have hcp : (w.alloc (.cells #[fromV p, fromV q] 60)).drew.cell? ⟨w.heap.size, 0, none⟩ = some (fromV p) := by simp
  have HB : Hid (Only [b] w (w.alloc (.cells #[fromV p, fromV q] 60)).drew) := Only.of_below hB _
  have hbl : b < w.heap.size := lt_of_cell h.txt
  have hal : ab < w.heap.size := lt_of_cell (h.num 0 (by decide))
  have HN : Hid (b < w.heap.size ∧ ab < w.heap.size) := ⟨hbl, hal⟩
  unfold fromV at hq HB hcp ⊢
  clear hB h hbl hal
  generalize hW : (w.alloc (.cells #[.func (.func 80) #[] #[.pointer (some ⟨p, 0, none⟩)], .func (.func 80) #[] #[.pointer (some ⟨q, 0, none⟩)]] 60)) = W1 at hq HB hcp
  have hW2 : Hid (w.alloc (.cells #[.func (.func 80) #[] #[.pointer (some ⟨p, 0, none⟩)], .func (.func 80) #[] #[.pointer (some ⟨q, 0, none⟩)]] 60) = W1) := hW
  clear hW
  have hcp' : W1.cell? ⟨w.heap.size, 0, none⟩ = some (.func (.func 80) #[] #[.pointer (some ⟨p, 0, none⟩)]) := hcp
  have hsz : Hid (W1.heap.size = w.heap.size + 1) := by
    have e : W1.heap.size = w.heap.size + 1 := by rw [← hW2.out]; simp
    exact e
  go_enter Tryd.func68, Tryd.ntmps68
  go_upto_region 1 with fail
  rw [hW2.out]
  go_cut [5] (fun r wx => WrEnds b p q ab (.iface T x) v t 4 W1.drew r wx)
  case first =>
    go_region_with (go_at_call 80; go_must (refine hq.mono ?_); rintro e w1 ⟨r, rfl, hr⟩)
    all_goals
      go_wp2
      go_meet
      exact hr
  case rest =>
    rcases hcut.2 with ⟨hok, rfl, hS⟩ | ⟨hbad, rfl⟩
    · have HO : Hid (Only [b] W1.drew wc) := hcut.1
      have hcc : wc.cell? ⟨w.heap.size, 0, none⟩ = some (.func (.func 80) #[] #[.pointer (some ⟨p, 0, none⟩)]) := by
        refine (HO.out.cell (p := ⟨w.heap.size, 0, none⟩) ?_ ?_).trans hcp
        · show w.heap.size < W1.heap.size
          rw [hsz.out]; omega
        · have := HN.out
          simp; omega
      have HS : Hid (Wr wc b p q ab (.iface T x) v (t ++ bs (be 4 (v 4).toNat))) := hS
      have hq2 := short_passes b p q ab T x v (t ++ bs (be 4 (v 4).toNat)) 5 (by decide) wc.drew (HS.out.later (Below.refl _ _).drew) (hv 5 (by decide)) (by rw [ByteArray.size_append, bs_size, be_length]; omega) (by decide)
      have HK : Hid (_ = true) := hok
      clear hcut hS hok hq hcp hcp'
      go_wp2
      go_region_with (go_at_call 80; go_must (refine hq2.mono ?_); rintro e w2 ⟨r, rfl, hr⟩)
      all_goals
        go_wp2
        go_ret
        refine ⟨_, rfl, (HB.out.trans (HO.out.drew.trans hr.1 fun _ k => Or.inl k) fun _ k => Or.inl k), ?_⟩
        rcases hr.2 with ⟨hok2, hr2, hS2⟩ | ⟨hbad2, hr2⟩
        · exact Or.inl ⟨HK.out, hok2, hr2, hS2⟩
        · exact Or.inr ⟨Or.inr ⟨HK.out, hbad2⟩, hr2⟩
    · have HO : Hid (Only [b] W1.drew wc) := hcut.1
      have HK : Hid (_ = false) := hbad
      clear hcut hbad hq hcp hcp'
      go_wp2
      go_ret
      exact ⟨_, rfl, HB.out.trans HO.out fun _ k => Or.inl k, Or.inr ⟨Or.inl HK.out, rfl⟩⟩
/-- How a handle's two numbers pass out of a text. -/
def RdUp (b p q ab : Nat) (E : Value) (v : Nat → Int) (t : ByteArray) (w : World) (r : Value) (w' : World) : Prop :=
  Only [b, ab] w w' ∧ ((cutOk t 4 = true ∧ cutOk (cutAt t 4) 4 = true ∧ r = .nilIface ∧ Rd w' b p q ab E (fun j => if j = 5 then (numAt (cutAt t 4) 4 : Int) else if j = 4 then (numAt t 4 : Int) else v j) (cutAt (cutAt t 4) 4)) ∨ ((cutOk t 4 = false ∨ (cutOk t 4 = true ∧ cutOk (cutAt t 4) 4 = false)) ∧ r = E ∧ ∃ f' t', Rd w' b p q ab E f' t'))
theorem getUp (b p q ab : Nat) (T : TypeId) (x : Value) (v : Nat → Int) (t : ByteArray) (w : World) (h : Rd w b p q ab (.iface T x) v t) (ht : t.size ≤ 4000) :
    Calls Tryd.prog 68 #[.agg #[toV p, toV q], .pointer (some ⟨ab, 4, none⟩)] w fun e w' => ∃ r, e = .returned r ∧ RdUp b p q ab (.iface T x) v t w r w' := by
  have hB : Below w.heap.size w (w.alloc (.cells #[toV p, toV q] 60)).drew := ((Below.refl _ _).alloc (Nat.le_refl _) _).drew
  have hq := short_get b p q ab T x v t 4 (by decide) _ (h.later hB) ht (by decide)
  have hcp : (w.alloc (.cells #[toV p, toV q] 60)).drew.cell? ⟨w.heap.size, 0, none⟩ = some (toV p) := by simp
  have HB : Hid (Only [b, ab] w (w.alloc (.cells #[toV p, toV q] 60)).drew) := Only.of_below hB _
  have hbl : b < w.heap.size := lt_of_cell h.txt
  have hal : ab < w.heap.size := lt_of_cell (h.num 0 (by decide))
  have HN : Hid (b < w.heap.size ∧ ab < w.heap.size) := ⟨hbl, hal⟩
  unfold toV at hq HB hcp ⊢
  clear hB h hbl hal
  generalize hW : (w.alloc (.cells #[.func (.func 99) #[] #[.pointer (some ⟨p, 0, none⟩)], .func (.func 99) #[] #[.pointer (some ⟨q, 0, none⟩)]] 60)) = W1 at hq HB hcp
  have hW2 : Hid (w.alloc (.cells #[.func (.func 99) #[] #[.pointer (some ⟨p, 0, none⟩)], .func (.func 99) #[] #[.pointer (some ⟨q, 0, none⟩)]] 60) = W1) := hW
  clear hW
  have hcp' : W1.cell? ⟨w.heap.size, 0, none⟩ = some (.func (.func 99) #[] #[.pointer (some ⟨p, 0, none⟩)]) := hcp
  have hsz : Hid (W1.heap.size = w.heap.size + 1) := by
    have e : W1.heap.size = w.heap.size + 1 := by rw [← hW2.out]; simp
    exact e
  go_enter Tryd.func68, Tryd.ntmps68
  go_upto_region 1 with fail
  rw [hW2.out]
  go_cut [5] (fun r wx => RdEnds b p q ab (.iface T x) v t 4 W1.drew r wx)
  case first =>
    go_region_with (go_at_call 99; go_must (refine hq.mono ?_); rintro e w1 ⟨r, rfl, hr⟩)
    all_goals
      go_wp2
      go_meet
      exact hr
  case rest =>
    rcases hcut.2 with ⟨hok, rfl, hS⟩ | ⟨hbad, rfl, hX⟩
    · have HO : Hid (Only [b, ab] W1.drew wc) := hcut.1
      have hcc : wc.cell? ⟨w.heap.size, 0, none⟩ = some (.func (.func 99) #[] #[.pointer (some ⟨p, 0, none⟩)]) := by
        refine (HO.out.cell (p := ⟨w.heap.size, 0, none⟩) ?_ ?_).trans hcp
        · show w.heap.size < W1.heap.size
          rw [hsz.out]; omega
        · have := HN.out
          simp; omega
      have HS : Hid (Rd wc b p q ab (.iface T x) (fun j => if j = 4 then (numAt t 4 : Int) else v j) (cutAt t 4)) := hS
      have hq2 := short_get b p q ab T x (fun j => if j = 4 then (numAt t 4 : Int) else v j) (cutAt t 4) 5 (by decide) wc.drew (HS.out.later (Below.refl _ _).drew) (by rw [cutAt_size]; omega) (by decide)
      have HK : Hid (_ = true) := hok
      clear hcut hS hok hq hcp hcp'
      go_wp2
      go_region_with (go_at_call 99; go_must (refine hq2.mono ?_); rintro e w2 ⟨r, rfl, hr⟩)
      all_goals
        go_wp2
        go_ret
        refine ⟨_, rfl, (HB.out.trans (HO.out.drew.trans hr.1 fun _ k => Or.inl k) fun _ k => Or.inl k), ?_⟩
        rcases hr.2 with ⟨hok2, hr2, hS2⟩ | ⟨hbad2, hr2, hX⟩
        · exact Or.inl ⟨HK.out, hok2, hr2, hS2⟩
        · exact Or.inr ⟨Or.inr ⟨HK.out, hbad2⟩, hr2, hX⟩
    · have HO : Hid (Only [b, ab] W1.drew wc) := hcut.1
      have HK : Hid (_ = false) := hbad
      clear hcut hbad hq hcp hcp'
      go_wp2
      go_ret
      exact ⟨_, rfl, HB.out.trans HO.out fun _ k => Or.inl k, Or.inr ⟨Or.inl HK.out, rfl, hX⟩⟩
end Go.Proofs.YtdafekhmjddkbabDoor
