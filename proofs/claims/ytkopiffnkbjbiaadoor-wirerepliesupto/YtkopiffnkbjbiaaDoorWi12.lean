/- Compounds on the wire: what is read is what was written, and the other way: plain. -/
import Derived.Test.YtkopiffnkbjbiaaDoorWi7
namespace Go.Proofs.YtkopiffnkbjbiaaDoor
open Go Go.RowKit Go.Deep

abbrev Dt8 (t : ByteArray) : List UInt8 := t.data.toList
def catW : List Step → List UInt8
  | [] => []
  | some x :: L => Dt8 x ++ catW L
  | none :: L => catW L
def allS (L : List Step) : Bool := L.all Option.isSome
theorem catW_app (L M : List Step) : catW (L ++ M) = catW L ++ catW M := by
  induction L with
  | nil => rfl
  | cons x L ih => cases x <;> simp [catW, ih]
theorem allS_app (L M : List Step) : allS (L ++ M) = (allS L && allS M) := by simp [allS]
theorem catW_one (x : ByteArray) : catW [some x] = Dt8 x := by simp [catW]
theorem runW_some {s t : ByteArray} {L : List Step} (h : runW (s, 0) L = (t, 0)) : allS L = true ∧ Dt8 t = Dt8 s ++ catW L := by
  induction L generalizing s with
  | nil => cases h; simp [allS, catW]
  | cons x L ih =>
    cases x with
    | none =>
      have h' : runW (s, 2) L = (t, 0) := h
      rw [runW_stuck s 1 L] at h'
      cases h'
    | some x =>
      have h' : runW (if s.size + x.size ≤ 4000 then (s ++ x, 0) else (s, 9)) L = (t, 0) := h
      by_cases hf : s.size + x.size ≤ 4000
      · rw [if_pos hf] at h'
        obtain ⟨h1, h2⟩ := ih h'
        refine ⟨by simpa [allS] using h1, ?_⟩
        rw [h2]
        simp [catW, List.append_assoc]
      · rw [if_neg hf, runW_stuck s 8 L] at h'
        cases h'
theorem runW_all {s : ByteArray} {L : List Step} (h : allS L = true) (hl : s.size + (catW L).length ≤ 4000) : ∃ t, runW (s, 0) L = (t, 0) ∧ Dt8 t = Dt8 s ++ catW L := by
  induction L generalizing s with
  | nil => exact ⟨s, rfl, by simp [catW]⟩
  | cons x L ih =>
    cases x with
    | none => simp [allS] at h
    | some x =>
      have hx : (Dt8 x).length = x.size := rfl
      have hl' : s.size + x.size + (catW L).length ≤ 4000 := by simp [catW] at hl; omega
      obtain ⟨t, h1, h2⟩ := ih (s := s ++ x) (by simpa [allS] using h) (by rw [ByteArray.size_append]; omega)
      refine ⟨t, ?_, by rw [h2]; simp [catW, List.append_assoc]⟩
      show runW (if s.size + x.size ≤ 4000 then (s ++ x, 0) else (s, 9)) L = (t, 0)
      rw [if_pos (by omega)]
      exact h1
theorem runW_len {s t : ByteArray} {L : List Step} (hs : s.size ≤ 4000) (h : runW (s, 0) L = (t, 0)) : t.size ≤ 4000 := by
  induction L generalizing s with
  | nil => cases h; exact hs
  | cons x L ih =>
    cases x with
    | none =>
      have h' : runW (s, 2) L = (t, 0) := h
      rw [runW_stuck s 1 L] at h'
      cases h'
    | some x =>
      have h' : runW (if s.size + x.size ≤ 4000 then (s ++ x, 0) else (s, 9)) L = (t, 0) := h
      by_cases hf : s.size + x.size ≤ 4000
      · rw [if_pos hf] at h'
        exact ih (by rw [ByteArray.size_append]; exact hf) h'
      · rw [if_neg hf, runW_stuck s 8 L] at h'
        cases h'

/-! ### a number's bytes, back -/
theorem be_add (k n m : Nat) : be k (n + m * 256 ^ k) = be k n := by
  induction k generalizing m with
  | zero => rfl
  | succ k ih =>
    have e : n + m * 256 ^ (k + 1) = n + (m * 256) * 256 ^ k := by rw [Nat.pow_succ, Nat.mul_assoc, Nat.mul_comm 256]
    show UInt8.ofNat ((n + m * 256 ^ (k + 1)) / 256 ^ k) :: be k (n + m * 256 ^ (k + 1)) = _
    rw [e, ih (m * 256)]
    have hp : 0 < 256 ^ k := Nat.pow_pos (by decide)
    rw [Nat.add_mul_div_right _ _ hp]
    show _ = UInt8.ofNat (n / 256 ^ k) :: be k n
    congr 1
    apply UInt8.toNat_inj.1
    rw [UInt8.toNat_ofNat', UInt8.toNat_ofNat']
    omega
theorem be_num (l : List UInt8) : be l.length (num l) = l := by
  induction l with
  | nil => rfl
  | cons b l ih =>
    have hlt := num_lt l
    rw [num_cons, List.length_cons]
    show UInt8.ofNat ((b.toNat * 256 ^ l.length + num l) / 256 ^ l.length) :: be l.length (b.toNat * 256 ^ l.length + num l) = _
    rw [Nat.add_comm, be_add, ih, Nat.add_mul_div_right _ _ (Nat.pow_pos (by decide)), Nat.div_eq_of_lt hlt, Nat.zero_add]
    congr 1
    exact UInt8.ofNat_toNat
theorem head_num (t : ByteArray) (k : Nat) (h : k ≤ t.size) : Dt8 t = be k (numAt t k) ++ Dt8 (cutAt t k) := by
  have hl : ((Dt8 t).take k).length = k := by rw [List.length_take]; exact Nat.min_eq_left h
  have := be_num ((Dt8 t).take k)
  rw [hl] at this
  show _ = be k (num ((Dt8 t).take k)) ++ _
  rw [this]
  show _ = _ ++ (cutAt t k).data.toList
  rw [cutAt_data, List.take_append_drop]
theorem cut_three (D : List UInt8) (n f : Nat) : D.drop 4 = (D.drop 4).take n ++ ((D.drop (4 + n)).take f ++ D.drop (4 + n + f)) := by
  have e1 : D.drop (4 + n + f) = (D.drop (4 + n)).drop f := by rw [List.drop_drop]
  have e2 : D.drop (4 + n) = (D.drop 4).drop n := by rw [List.drop_drop]
  rw [e1, List.take_append_drop, e2, List.take_append_drop]
theorem ext_three (t : ByteArray) (a n : Nat) : Dt8 (t.extract a (a + n)) = ((Dt8 t).drop a).take n := by
  show (t.extract a (a + n)).data.toList = _
  rw [Lib.extract_data, show a + n - a = n by omega]
theorem data_eq {a b : ByteArray} (h : Dt8 a = Dt8 b) : a = b := data_inj h
theorem Dt8_bs (l : List UInt8) : Dt8 (bs l) = l := bs_data l

/-! ### from a text to what it says -/
def InvA {α : Type} (p : Par α) (W : α → List Step) (ok : α → Prop) : Prop := ∀ t a t', p t = some (a, t') → ok a ∧ allS (W a) = true ∧ Dt8 t = catW (W a) ++ Dt8 t'
/-- And back. -/
def InvB {α : Type} (p : Par α) (W : α → List Step) (ok : α → Prop) : Prop := ∀ t a rest, ok a → allS (W a) = true → t.size ≤ 4000 → Dt8 t = catW (W a) ++ rest → ∃ t', p t = some (a, t') ∧ Dt8 t' = rest ∧ t'.size ≤ 4000
theorem bindP_inv {α β : Type} {p : Par α} {f : α → Par β} {t t' : ByteArray} {b : β} (h : bindP p f t = some (b, t')) : ∃ a t1, p t = some (a, t1) ∧ f a t1 = some (b, t') := by
  unfold bindP at h
  split at h
  · cases h
  · exact ⟨_, _, by assumption, h⟩
def intW (n : Nat) : List Step := [some (bs (be 4 n))]
def longW (n : Nat) : List Step := [some (bs (be 8 n))]
def flagW (b : Bool) : List Step := [some (bs (be 4 b.toNat))]
def textW (s : ByteArray) : List Step := [some (itemS s)]
theorem invA_int : InvA pInt intW (fun n => n ≤ 4294967295) := by
  intro t a t' h
  unfold pInt at h
  split at h
  · rename_i h4
    cases h
    have := numAt_lt t 4
    exact ⟨by omega, rfl, by rw [intW, catW_one, Dt8_bs]; exact head_num t 4 h4⟩
  · cases h
theorem invA_long : InvA pLong longW (fun n => n ≤ 9223372036854775807) := by
  intro t a t' h
  unfold pLong at h
  split at h
  · rename_i h4
    cases h
    exact ⟨h4.2, rfl, by rw [longW, catW_one, Dt8_bs]; exact head_num t 8 h4.1⟩
  · cases h
theorem invA_flag : InvA pFlag flagW (fun _ => True) := by
  intro t a t' h
  unfold pFlag at h
  split at h
  · rename_i h4
    cases h
    refine ⟨trivial, rfl, ?_⟩
    rw [flagW, catW_one, Dt8_bs]
    have e : (((numAt t 4 : Nat) : Int) == 1).toNat = numAt t 4 := by
      rcases (show numAt t 4 = 0 ∨ numAt t 4 = 1 by omega) with e | e <;> rw [e] <;> rfl
    rw [e]
    exact head_num t 4 h4.1
  · cases h
theorem sgn_pos (n : Nat) : sgn (n : Int) = [some (bs (be 4 0)), some (bs (be 8 n))] := by
  unfold sgn
  rw [if_neg (by omega), if_neg (by omega), Int.toNat_natCast]
theorem sgn_neg (n : Nat) (h0 : n ≠ 0) (h : n ≤ 9223372036854775807) : sgn (-(n : Int)) = [some (bs (be 4 1)), some (bs (be 8 n))] := by
  unfold sgn
  rw [if_neg (by omega), if_pos (by omega), Int.neg_neg, Int.toNat_natCast]
theorem invA_number : InvA pNumber sgn I64 := by
  intro t a t' h
  obtain ⟨f, t1, h1, h⟩ := bindP_inv h
  obtain ⟨n, t2, h2, h⟩ := bindP_inv h
  obtain ⟨_, _, e1⟩ := invA_flag _ _ _ h1
  obtain ⟨hn, _, e2⟩ := invA_long _ _ _ h2
  rw [flagW, catW_one, Dt8_bs] at e1
  rw [longW, catW_one, Dt8_bs] at e2
  cases f
  · simp at h
    obtain ⟨rfl, rfl⟩ := h
    refine ⟨⟨by omega, by omega⟩, by rw [sgn_pos]; rfl, ?_⟩
    rw [sgn_pos, e1, e2]
    simp [catW, Dt8_bs]
  · by_cases h0 : n = 0
    · simp [h0] at h
    · simp [h0] at h
      obtain ⟨rfl, rfl⟩ := h
      refine ⟨⟨by omega, by omega⟩, by rw [sgn_neg n h0 hn]; rfl, ?_⟩
      rw [sgn_neg n h0 hn, e1, e2]
      simp [catW, Dt8_bs]
theorem zeros_be {s : ByteArray} (h : zerosB s = true) : Dt8 s = be s.size 0 := by
  rw [be_zero]
  unfold zerosB at h
  rw [List.eq_replicate_iff]
  refine ⟨rfl, fun b hb => ?_⟩
  have := List.all_eq_true.1 h b hb
  simpa using this
theorem invA_text : InvA pBytes textW (fun _ => True) := by
  intro t a t' h
  unfold pBytes at h
  split at h
  · rename_i hi
    cases h
    obtain ⟨h4, hm, hs, hz⟩ := (itemB_iff t).1 hi
    refine ⟨trivial, rfl, ?_⟩
    rw [textW, catW_one]
    have hsz : (t.extract 4 (4 + numAt t 4)).size = numAt t 4 := by rw [ByteArray.size_extract]; omega
    have hsf : (t.extract (4 + numAt t 4) (4 + numAt t 4 + fillN (numAt t 4))).size = fillN (numAt t 4) := by rw [ByteArray.size_extract]; omega
    have ez := zeros_be hz
    rw [hsf] at ez
    have e0 := head_num t 4 h4
    have e3 : Dt8 (itemS (t.extract 4 (4 + numAt t 4))) = be 4 (numAt t 4) ++ (Dt8 (t.extract 4 (4 + numAt t 4)) ++ be (fillN (numAt t 4)) 0) := by
      have := itemS_data (t.extract 4 (4 + numAt t 4))
      rw [hsz] at this
      exact this
    have e4 : ∀ k, Dt8 (cutAt t k) = (Dt8 t).drop k := fun k => cutAt_data t k
    rw [e3, ← ez, ext_three, ext_three, e4]
    rw [e4] at e0
    rw [List.append_assoc, List.append_assoc, ← cut_three]
    exact e0
  · cases h
theorem invA_two : InvA pTwo (fun p => sgn p.1 ++ sgn p.2) (fun p => I64 p.1 ∧ I64 p.2) := by
  intro t a t' h
  obtain ⟨x, t1, h1, h⟩ := bindP_inv h
  obtain ⟨y, t2, h2, h⟩ := bindP_inv h
  cases h
  obtain ⟨a1, b1, c1⟩ := invA_number _ _ _ h1
  obtain ⟨a2, b2, c2⟩ := invA_number _ _ _ h2
  exact ⟨⟨a1, a2⟩, by simp [allS_app, b1, b2], by simp [catW_app, c1, c2]⟩
theorem invA_entry : InvA pEntry enW EnV.ok := by
  intro t a t' h
  obtain ⟨x, t1, h1, h⟩ := bindP_inv h
  obtain ⟨y, t2, h2, h⟩ := bindP_inv h
  cases h
  obtain ⟨a1, b1, c1⟩ := invA_text _ _ _ h1
  obtain ⟨a2, b2, c2⟩ := invA_two _ _ _ h2
  unfold textW at b1 c1
  refine ⟨a2, ?_, ?_⟩
  · show allS ([some (itemS x)] ++ (sgn y.1 ++ sgn y.2)) = true
    rw [allS_app, b1, b2]; rfl
  · show _ = catW ([some (itemS x)] ++ (sgn y.1 ++ sgn y.2)) ++ _
    rw [catW_app, c1, c2, List.append_assoc]
theorem invA_op : InvA pOp opW OpV.ok := by
  intro t a t' h
  obtain ⟨K, t1, h1, h⟩ := bindP_inv h
  obtain ⟨N, t2, h2, h⟩ := bindP_inv h
  obtain ⟨T, t3, h3, h⟩ := bindP_inv h
  obtain ⟨x1, t4, h4, h⟩ := bindP_inv h
  obtain ⟨x2, t5, h5, h⟩ := bindP_inv h
  obtain ⟨x3, t6, h6, h⟩ := bindP_inv h
  obtain ⟨x4, t7, h7, h⟩ := bindP_inv h
  obtain ⟨p, t8, h8, h⟩ := bindP_inv h
  cases h
  obtain ⟨_, b1, c1⟩ := invA_text _ _ _ h1
  obtain ⟨_, b2, c2⟩ := invA_text _ _ _ h2
  obtain ⟨_, b3, c3⟩ := invA_text _ _ _ h3
  obtain ⟨a4, b4, c4⟩ := invA_number _ _ _ h4
  obtain ⟨a5, b5, c5⟩ := invA_number _ _ _ h5
  obtain ⟨a6, b6, c6⟩ := invA_number _ _ _ h6
  obtain ⟨a7, b7, c7⟩ := invA_number _ _ _ h7
  obtain ⟨a8, b8, c8⟩ := invA_two _ _ _ h8
  unfold textW at b1 c1 b2 c2 b3 c3
  refine ⟨⟨a4, a5, a6, a7, a8.1, a8.2⟩, ?_, ?_⟩
  · show allS ([some (itemS K)] ++ ([some (itemS N)] ++ ([some (itemS T)] ++ (sgn x1 ++ (sgn x2 ++ (sgn x3 ++ (sgn x4 ++ (sgn p.1 ++ sgn p.2)))))))) = true
    simp only [allS_app, Bool.and_eq_true] at b8 ⊢
    exact ⟨b1, b2, b3, b4, b5, b6, b7, b8⟩
  · show _ = catW ([some (itemS K)] ++ ([some (itemS N)] ++ ([some (itemS T)] ++ (sgn x1 ++ (sgn x2 ++ (sgn x3 ++ (sgn x4 ++ (sgn p.1 ++ sgn p.2)))))))) ++ _
    simp only [catW_app, List.append_assoc] at c8 ⊢
    rw [c1, c2, c3, c4, c5, c6, c7, c8]
theorem invA_times {α : Type} {p : Par α} {W : α → List Step} {ok : α → Prop} (hp : InvA p W ok) (n : Nat) (t : ByteArray) (l : List α) (t' : ByteArray) (h : pTimes p n t = some (l, t')) : l.length = n ∧ (∀ a ∈ l, ok a) ∧ allS (listW W l) = true ∧ Dt8 t = catW (listW W l) ++ Dt8 t' := by
  induction n generalizing t l with
  | zero => cases h; exact ⟨rfl, (fun a ha => by cases ha), rfl, rfl⟩
  | succ n ih =>
    obtain ⟨a, t1, h1, h⟩ := bindP_inv h
    obtain ⟨m, t2, h2, h⟩ := bindP_inv h
    cases h
    obtain ⟨i1, i2, i3, i4⟩ := ih _ _ h2
    obtain ⟨a1, b1, c1⟩ := hp _ _ _ h1
    refine ⟨by rw [List.length_cons, i1], fun x hx => ?_, ?_, ?_⟩
    · rcases List.mem_cons.1 hx with rfl | hx
      · exact a1
      · exact i2 x hx
    · show allS (W a ++ listW W m) = true
      rw [allS_app, b1, i3]; rfl
    · show _ = catW (W a ++ listW W m) ++ _
      rw [catW_app, c1, i4, List.append_assoc]
theorem invA_list {α : Type} {p : Par α} {W : α → List Step} {ok : α → Prop} (hp : InvA p W ok) : InvA (pList p) (listsW W) (fun l => l.length ≤ 4294967295 ∧ ∀ a ∈ l, ok a) := by
  intro t l t' h
  obtain ⟨n, t1, h1, h⟩ := bindP_inv h
  obtain ⟨a1, b1, c1⟩ := invA_int _ _ _ h1
  obtain ⟨i1, i2, i3, i4⟩ := invA_times hp n t1 l t' h
  subst i1
  unfold intW at b1 c1
  refine ⟨⟨a1, i2⟩, ?_, ?_⟩
  · show allS ([some (bs (be 4 l.length))] ++ listW W l) = true
    rw [allS_app, b1, i3]; rfl
  · show _ = catW ([some (bs (be 4 l.length))] ++ listW W l) ++ _
    rw [catW_app, c1, i4, List.append_assoc]
theorem invA_reply : InvA pReply rpW RpV.ok := by
  intro t a t' h
  obtain ⟨x1, t1, h1, h⟩ := bindP_inv h
  obtain ⟨x2, t2, h2, h⟩ := bindP_inv h
  obtain ⟨x3, t3, h3, h⟩ := bindP_inv h
  obtain ⟨x4, t4, h4, h⟩ := bindP_inv h
  obtain ⟨x5, t5, h5, h⟩ := bindP_inv h
  obtain ⟨x6, t6, h6, h⟩ := bindP_inv h
  obtain ⟨x7, t7, h7, h⟩ := bindP_inv h
  cases h
  obtain ⟨a1, b1, c1⟩ := invA_number _ _ _ h1
  obtain ⟨_, b2, c2⟩ := invA_text _ _ _ h2
  obtain ⟨a3, b3, c3⟩ := invA_two _ _ _ h3
  obtain ⟨a4, b4, c4⟩ := invA_two _ _ _ h4
  obtain ⟨a5, b5, c5⟩ := invA_list invA_entry _ _ _ h5
  obtain ⟨a6, b6, c6⟩ := invA_number _ _ _ h6
  obtain ⟨_, b7, c7⟩ := invA_flag _ _ _ h7
  unfold textW at b2 c2
  unfold flagW at b7 c7
  refine ⟨⟨a1, a3.1, a3.2, a4.1, a4.2, a6, a5.1, a5.2⟩, ?_, ?_⟩
  · show allS (sgn x1 ++ ([some (itemS x2)] ++ ((sgn x3.1 ++ sgn x3.2) ++ ((sgn x4.1 ++ sgn x4.2) ++ (listsW enW x5 ++ (sgn x6 ++ [some (bs (be 4 x7.toNat))])))))) = true
    simp only [allS_app, Bool.and_eq_true] at b3 b4 ⊢
    exact ⟨b1, b2, b3, b4, b5, b6, b7⟩
  · show _ = catW (sgn x1 ++ ([some (itemS x2)] ++ ((sgn x3.1 ++ sgn x3.2) ++ ((sgn x4.1 ++ sgn x4.2) ++ (listsW enW x5 ++ (sgn x6 ++ [some (bs (be 4 x7.toNat))])))))) ++ _
    simp only [catW_app, List.append_assoc] at c3 c4 ⊢
    rw [c1, c2, c3, c4, c5, c6, c7]
end Go.Proofs.YtkopiffnkbjbiaaDoor
