/- Data: one block is read: the program's readInBlock by its contract. -/
import Derived.Test.YtmfcfkomdflhlaaDoorG5
namespace Go.Proofs.YtmfcfkomdflhlaaDoor
open Go Go.RowKit Go.Deep Go.Maps

theorem RowAt.only {w w' : World} {g : Nat} {t : TypeId} {l : List UInt8} {L : List Nat} (h : RowAt w g t l) (ho : Only L w w') (hn : g ∉ L) : RowAt w' g t l := (ho.block g (lt_of_heap h) hn).trans h
end Go.Proofs.YtmfcfkomdflhlaaDoor
