/- Data: one block is read: the program's readInBlock by its contract. -/
import Derived.Test.YtohbdpefcmibeacDoorG5
namespace Go.Proofs.YtohbdpefcmibeacDoor
open Go Go.RowKit Go.Deep Go.Maps

theorem RowAt.only {w w' : World} {g : Nat} {t : TypeId} {l : List UInt8} {L : List Nat} (h : RowAt w g t l) (ho : Only L w w') (hn : g ∉ L) : RowAt w' g t l := (ho.block g (lt_of_heap h) hn).trans h
set_option maxHeartbeats 1000000 in
set_option maxRecDepth 100000 in
theorem readIn (w : World) (g : Nat) (m : Option Nat) (f : Nat → Option (List UInt8)) (q go p n cap : Nat) (l : List UInt8) (hc : w.cell? ⟨g, 1, none⟩ = some (.map m)) (hm : MapAt w m f) (hr : RowAt w go 5 l) (hfit : p + n ≤ l.length) (hq : q < 4096) :
    Calls Tryd.prog 24 #[.pointer (some ⟨g, 0, none⟩), .int .i64 q, .slice (some ⟨go, p, none⟩) n cap] w fun e w' => e = .returned (.int .i64 (min (64 - q % 64) n : Nat)) ∧
      RowAt w' go 5 (over l p ((((f (q / 64)).getD zero64).drop (q % 64)).take (min (64 - q % 64) n))) ∧ Only [go] w w' := by
  have hM : Hid (MapAt w m f) := hm
  have hR : Hid (RowAt w go 5 l) := hr
  have hglt : go < w.heap.size := lt_of_heap hr
  have hL : Hid (((f (q / 64)).getD zero64).length = 64) := hm.getLen (q / 64)
  generalize hBk : (f (q / 64)).getD zero64 = Bk at hL ⊢
  have hsl := fun W => slice_blk W w.heap.size (q % 64) (by omega) ((q : Int) % 64) (by omega)
  clear hm hr
  go_enter Tryd.func24, Tryd.ntmps24
  go_wp2_with (first
    | (at_lookup; refine wpList_look rfl _ _ rfl m f hM.out (q / 64) (by omega) _ rfl rfl (by omega) ?_; rw [hBk])
    | (refine wpList_newBlk rfl rfl ?_; intro w1 r1 o1)
    | (refine wpList_storeBlk rfl _ _ rfl w.heap.size zero64 Bk r1 zero64_len hL.out rfl rfl ?_; intro w2 r2 o2
       have o02 : Only [w.heap.size] w w2 := (o1.mono (L' := [w.heap.size]) (by simp)).trans o2 (by simp)
       have hcp := fun ty => run_copy_block (P := Tryd.prog) w2 63 63 ty 5 go p n cap w.heap.size (q % 64) (64 - q % 64) (64 - q % 64) l Bk 5 80 Tryd.underlying63 infoU8 (hR.out.only o02 (by simp; omega)) r2 hfit (by rw [hL.out]; omega)
       generalize hw3 : w2.setRow go _ = w3 at hcp
       have r3 : Hid (RowAt w3 go 5 (over l p ((Bk.drop (q % 64)).take (min (64 - q % 64) n)))) := by subst hw3; exact ((hR.out.only o02 (by simp; omega)).set _ : RowAt _ _ _ _)
       have o3 : Hid (Only [go] w w3) := by
         have : Only [go] w w3 := by subst hw3; exact (o02.mono (L' := [go]) (by simp)).trans (only_row w2 _ _) (by simp)
         exact this
       clear hw3 o02)
    | go_in)
  go_ret
  exact ⟨rfl, r3.out, o3.out⟩
end Go.Proofs.YtohbdpefcmibeacDoor
