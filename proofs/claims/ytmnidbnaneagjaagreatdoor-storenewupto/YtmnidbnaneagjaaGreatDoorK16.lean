import Derived.Test.YtmnidbnaneagjaaGreatDoorK15
import Derived.Deep.CutBlock
namespace Go.Proofs.YtmnidbnaneagjaaGreatDoor
section
open Go Go.RowKit Go.Deep Go.Maps
theorem look_name0 {w:World}{d:DirM}(h:DirAt w d)(s:ByteArray)(hs:s.size≤1000){e:Ent}(he:findE d.l s.data.toList=some e):(Instr.lookup 267 (.map (some d.b)) (.string s) false).run Tryz.prog w = .ok (.agg #[.int .i64 (e.i:Nat),.int .i64 (e.c:Nat)]) w:=by
 obtain ⟨v,ps,hr,hv⟩:=World.ownsMap.lookup h lawS undNames (zeroHand _) (zd:=entV 0 0) (zp:=[]) rfl (WideMaps.keyOf_string_mk Tryz.underlying9 (s:=s) (by unfold maxLen;omega));rw [at_entD,he] at hv;rw [hr,handElem_inv hv];rfl
def HBox (w:World)(B i c:Nat):Prop:=w.heap[B]?=some (.cells #[.int .i64 (i:Nat),.int .i64 (c:Nat)] 94 (0,0))
theorem HBox.cells {w:World}{B i c:Nat}(h:HBox w B i c):w.cell? ⟨B,0,none⟩=some (.int .i64 (i:Nat))∧w.cell? ⟨B,1,none⟩=some (.int .i64 (c:Nat)):=⟨cell_of_row _ _ 0 _ _ _ h,cell_of_row _ _ 1 _ _ _ h⟩
theorem HBox.kept {w w':World}{B i c:Nat}{L:List Nat}(h:HBox w B i c)(ho:Only L w w')(hn:B∉L):HBox w' B i c:=(ho.block B (Array.getElem?_eq_some_iff.1 h).1 hn).trans h
theorem HBox.lt {w:World}{B i c:Nat}(h:HBox w B i c):B < w.heap.size:=(Array.getElem?_eq_some_iff.1 h).1
theorem only_nilT {a b c:World}(h:Only [] a b)(k:Only [] b c):Only [] a c:=h.trans k (fun _ hk=>by cases hk)
end
end Go.Proofs.YtmnidbnaneagjaaGreatDoor
