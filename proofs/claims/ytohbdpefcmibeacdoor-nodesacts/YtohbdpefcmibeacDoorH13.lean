/- NodesActs: her frame of 392 slots, and the pieces of her code, each by its first region; what a round's pieces hand on to one another. -/
import Derived.Test.YtohbdpefcmibeacDoorH12
import Derived.Deep.LoopGhost
namespace Go.Proofs.YtohbdpefcmibeacDoor
open Go Go.RowKit Go.Deep Go.Maps

/-! ### pieces of code -/
def firstRg : Code → Option Nat
  | .region n _ _ => some n
  | .seq x _ => firstRg x
  | .block _ x => firstRg x
  | .loop x => firstRg x
  | .scope x => firstRg x
  | _ => none
/-- The greatest piece that begins with region n. -/
def piece (n : Nat) (c : Code) : Option Code :=
  if firstRg c = some n then some c else
    match c with
    | .seq x y => (piece n x).orElse fun _ => piece n y
    | .cond _ x y => (piece n x).orElse fun _ => piece n y
    | .block _ x => piece n x
    | .loop x => piece n x
    | .scope x => piece n x
    | _ => none
/-- The body of the loop whose body begins with region n. -/
def bodyAt (n : Nat) : Code → Option Code
  | .loop x => if firstRg x = some n then some x else bodyAt n x
  | .seq x y => (bodyAt n x).orElse fun _ => bodyAt n y
  | .cond _ x y => (bodyAt n x).orElse fun _ => bodyAt n y
  | .block _ x => bodyAt n x
  | .scope x => bodyAt n x
  | _ => none

/-! ### frames -/
def tabU (u : Nat → Value) : Nat → Nat → List Value
  | 0, _ => []
  | n + 1, k => u k :: tabU u n (k + 1)
theorem tabU_len (u : Nat → Value) (n k : Nat) : (tabU u n k).length = n := by
  induction n generalizing k with
  | zero => rfl
  | succ n ih => simp [tabU, ih]
theorem tabU_get (u : Nat → Value) (n k i : Nat) (hi : i < n) : (tabU u n k)[i]? = some (u (k + i)) := by
  induction n generalizing k i with
  | zero => omega
  | succ n ih =>
    cases i with
    | zero => rfl
    | succ i =>
      simp only [tabU, List.getElem?_cons_succ]
      rw [ih (k + 1) i (by omega)]
      congr 2
      omega
theorem tabU_of (L : List Value) (n : Nat) (h : L.length = n) : L = tabU (fun k => L.getD k undef) n 0 := by
  apply List.ext_getElem?
  intro i
  rcases Nat.lt_or_ge i n with hi | hi
  · rw [tabU_get _ _ _ _ hi, List.getElem?_eq_getElem (by omega)]
    simp [List.getD, List.getElem?_eq_getElem (show i < L.length by omega)]
  · rw [List.getElem?_eq_none (by omega), List.getElem?_eq_none (by rw [tabU_len]; omega)]
def actU (u : Nat → Value) : Act := { tmps := (tabU u 392 0).toArray, defers := [] }
/-- A frame that is written out is such a one. -/
theorem actU_of (L : List Value) (h : L.length = 392) : ({ tmps := L.toArray, defers := [] } : Act) = actU (fun k => L.getD k undef) := by
  unfold actU
  rw [← tabU_of L 392 h]
set_option maxRecDepth 100000 in
theorem act_open {u : Nat → Value} {v0 v1 v6 v8 v9 v10 v11 v12 v14 : Value} (h0 : u 0 = v0) (h1 : u 1 = v1) (h6 : u 6 = v6) (h8 : u 8 = v8) (h9 : u 9 = v9) (h10 : u 10 = v10) (h11 : u 11 = v11) (h12 : u 12 = v12) (h14 : u 14 = v14) :
    actU u = { tmps := #[v0, v1, u 2, u 3, u 4, u 5, v6, u 7, v8, v9, v10, v11, v12, u 13, v14, u 15, u 16, u 17, u 18, u 19, u 20, u 21, u 22, u 23, u 24, u 25, u 26, u 27, u 28, u 29, u 30, u 31, u 32, u 33, u 34, u 35, u 36, u 37, u 38, u 39, u 40, u 41, u 42, u 43, u 44, u 45, u 46, u 47, u 48, u 49, u 50, u 51, u 52, u 53, u 54, u 55, u 56, u 57, u 58, u 59, u 60, u 61, u 62, u 63, u 64, u 65, u 66, u 67, u 68, u 69, u 70, u 71, u 72, u 73, u 74, u 75, u 76, u 77, u 78, u 79, u 80, u 81, u 82, u 83, u 84, u 85, u 86, u 87, u 88, u 89, u 90, u 91, u 92, u 93, u 94, u 95, u 96, u 97, u 98, u 99, u 100, u 101, u 102, u 103, u 104, u 105, u 106, u 107, u 108, u 109, u 110, u 111, u 112, u 113, u 114, u 115, u 116, u 117, u 118, u 119, u 120, u 121, u 122, u 123, u 124, u 125, u 126, u 127, u 128, u 129, u 130, u 131, u 132, u 133, u 134, u 135, u 136, u 137, u 138, u 139, u 140, u 141, u 142, u 143, u 144, u 145, u 146, u 147, u 148, u 149, u 150, u 151, u 152, u 153, u 154, u 155, u 156, u 157, u 158, u 159, u 160, u 161, u 162, u 163, u 164, u 165, u 166, u 167, u 168, u 169, u 170, u 171, u 172, u 173, u 174, u 175, u 176, u 177, u 178, u 179, u 180, u 181, u 182, u 183, u 184, u 185, u 186, u 187, u 188, u 189, u 190, u 191, u 192, u 193, u 194, u 195, u 196, u 197, u 198, u 199, u 200, u 201, u 202, u 203, u 204, u 205, u 206, u 207, u 208, u 209, u 210, u 211, u 212, u 213, u 214, u 215, u 216, u 217, u 218, u 219, u 220, u 221, u 222, u 223, u 224, u 225, u 226, u 227, u 228, u 229, u 230, u 231, u 232, u 233, u 234, u 235, u 236, u 237, u 238, u 239, u 240, u 241, u 242, u 243, u 244, u 245, u 246, u 247, u 248, u 249, u 250, u 251, u 252, u 253, u 254, u 255, u 256, u 257, u 258, u 259, u 260, u 261, u 262, u 263, u 264, u 265, u 266, u 267, u 268, u 269, u 270, u 271, u 272, u 273, u 274, u 275, u 276, u 277, u 278, u 279, u 280, u 281, u 282, u 283, u 284, u 285, u 286, u 287, u 288, u 289, u 290, u 291, u 292, u 293, u 294, u 295, u 296, u 297, u 298, u 299, u 300, u 301, u 302, u 303, u 304, u 305, u 306, u 307, u 308, u 309, u 310, u 311, u 312, u 313, u 314, u 315, u 316, u 317, u 318, u 319, u 320, u 321, u 322, u 323, u 324, u 325, u 326, u 327, u 328, u 329, u 330, u 331, u 332, u 333, u 334, u 335, u 336, u 337, u 338, u 339, u 340, u 341, u 342, u 343, u 344, u 345, u 346, u 347, u 348, u 349, u 350, u 351, u 352, u 353, u 354, u 355, u 356, u 357, u 358, u 359, u 360, u 361, u 362, u 363, u 364, u 365, u 366, u 367, u 368, u 369, u 370, u 371, u 372, u 373, u 374, u 375, u 376, u 377, u 378, u 379, u 380, u 381, u 382, u 383, u 384, u 385, u 386, u 387, u 388, u 389, u 390, u 391], defers := [] } := by
  subst h0 h1 h6 h8 h9 h10 h11 h12 h14
  rfl

/-! ### what the pieces hand on -/
/-- The slots that stay. -/
structure Fm (most ab ao len cap t T : Nat) (u : Nat → Value) : Prop where
  s0 : u 0 = .int .i64 most
  s1 : u 1 = .slice (some ⟨ab, ao, none⟩) len cap
  s6 : u 6 = .pointer (some ⟨t, 0, none⟩)
  s8 : u 8 = .slice (some ⟨T, 0, none⟩) most most
/-- What is the same in a whole call. -/
structure Env where
  most : Nat
  ab : Nat
  ao : Nat
  len : Nat
  cap : Nat
  t : Nat
  T : Nat
/-- At a round's end, ahead of i++: j acts are behind it, and this one. -/
def OutIn (W : World) (E : Env) (j : Nat) (a : Act) (w : World) : Prop :=
  ∃ (u : Nat → Value) (p : Row) (g tm : Nat → Nat) (nd : Nat → Option Nod) (l : List Spot) (ha : Option Addr) (hc : Nat), a = actU u ∧ Fm E.most E.ab E.ao E.len E.cap E.t E.T u ∧ u 9 = .slice ha l.length hc ∧ u 10 = .int .i64 j ∧
    Agree E.most g tm nd l (j + 1) ∧ Laid5 W w W.heap.size E.t p E.most g nd E.T tm (.slice ha l.length hc) l
/-- Behind the switch. -/
def TailIn (W : World) (E : Env) (j bx : Nat) (x : NActM) (a : Act) (w : World) : Prop :=
  ∃ (u : Nat → Value) (p : Row) (g tm : Nat → Nat) (nd : Nat → Option Nod) (l : List Spot) (ha : Option Addr) (hc : Nat), a = actU u ∧ Fm E.most E.ab E.ao E.len E.cap E.t E.T u ∧ u 9 = .slice ha l.length hc ∧ u 10 = .int .i64 j ∧ u 11 = .pointer (some ⟨bx, 0, none⟩) ∧
    Agree E.most g tm nd l (j + 1) ∧ Rnd W w W.heap.size E.t p E.most g nd E.T tm (.slice ha l.length hc) l bx x
/-- A round's end, its frame written out. -/
theorem OutIn.mk {W w : World} {E : Env} {j : Nat} {p : Row} {g tm : Nat → Nat} {nd : Nat → Option Nod} {l : List Spot} {ha : Option Addr} {hc : Nat} {L : List Value} (hA : Agree E.most g tm nd l (j + 1)) (hL : Laid5 W w W.heap.size E.t p E.most g nd E.T tm (.slice ha l.length hc) l)
    (h : L.length = 392) (h0 : L.getD 0 undef = .int .i64 E.most) (h1 : L.getD 1 undef = .slice (some ⟨E.ab, E.ao, none⟩) E.len E.cap) (h6 : L.getD 6 undef = .pointer (some ⟨E.t, 0, none⟩)) (h8 : L.getD 8 undef = .slice (some ⟨E.T, 0, none⟩) E.most E.most)
    (h9 : L.getD 9 undef = .slice ha l.length hc) (h10 : L.getD 10 undef = .int .i64 j) : OutIn W E j { tmps := L.toArray, defers := [] } w :=
  ⟨_, p, g, tm, nd, l, ha, hc, actU_of L h, ⟨h0, h1, h6, h8⟩, h9, h10, hA, hL⟩
theorem TailIn.mk {W w : World} {E : Env} {j bx : Nat} {x : NActM} {p : Row} {g tm : Nat → Nat} {nd : Nat → Option Nod} {l : List Spot} {ha : Option Addr} {hc : Nat} {L : List Value} (hA : Agree E.most g tm nd l (j + 1)) (hL : Rnd W w W.heap.size E.t p E.most g nd E.T tm (.slice ha l.length hc) l bx x)
    (h : L.length = 392) (h0 : L.getD 0 undef = .int .i64 E.most) (h1 : L.getD 1 undef = .slice (some ⟨E.ab, E.ao, none⟩) E.len E.cap) (h6 : L.getD 6 undef = .pointer (some ⟨E.t, 0, none⟩)) (h8 : L.getD 8 undef = .slice (some ⟨E.T, 0, none⟩) E.most E.most)
    (h9 : L.getD 9 undef = .slice ha l.length hc) (h10 : L.getD 10 undef = .int .i64 j) (h11 : L.getD 11 undef = .pointer (some ⟨bx, 0, none⟩)) : TailIn W E j bx x { tmps := L.toArray, defers := [] } w :=
  ⟨_, p, g, tm, nd, l, ha, hc, actU_of L h, ⟨h0, h1, h6, h8⟩, h9, h10, h11, hA, hL⟩
end Go.Proofs.YtohbdpefcmibeacDoor
