/- DataActs: the walk. -/
import Derived.Test.YthofinllkdajhabDoorG16
import Derived.BigQuiet
import Derived.Deep.QuietTactic
namespace Go.Proofs.YthofinllkdajhabDoor
open Go Go.RowKit Go.Deep Go.Maps

/-- What the law looks at behind each act. -/
theorem Two.sizes {W w : World} {base g gb : Nat} {m : Option Nat} {S : ByteArray} {H : List Bool} {v : Value} (h : Two W w base g m S H gb v S H) :
    (∀ n, Calls Tryd.prog 27 #[.pointer (some ⟨g, 0, none⟩)] (w.drewN n) fun e w' => e = .returned (.int .i64 (S.size : Nat)) ∧ w' = w.drewN n) ∧
    (∀ n, Calls Tryd.prog 28 #[.pointer (some ⟨g, 0, none⟩)] (w.drewN n) fun e w' => e = .returned (.int .i64 ((H.filter (!·)).length : Nat)) ∧ w' = w.drewN n) ∧
    (∀ n, Calls Tryd.prog 29 #[.pointer (some ⟨gb, 0, none⟩)] (w.drewN n) fun e w' => e = .returned (.int .i64 ((H.filter (!·)).length : Nat)) ∧ w' = w.drewN n) ∧
    w.cell? ⟨gb, 0, none⟩ = some (.string S) ∧ S.size ≤ 4096 ∧ (H.filter (!·)).length ≤ 64 := by
  obtain ⟨f, hs, _⟩ := h.d.holds
  have hl := hs.lenH
  have ho : ∀ n, Only [] w (w.drewN n) := fun n => ⟨rfl, rfl, rfl, Nat.le_refl _, fun _ _ _ => rfl⟩
  refine ⟨fun n => ?_, fun n => ?_, fun n => ?_, h.b.text, hs.le, Nat.le_trans (List.length_filter_le _ _) hl⟩
  · exact (dsize _ g S H m (h.only (ho n)).d).mono fun e w' ⟨he, hw⟩ => ⟨he, hw.symm⟩
  · exact (dblocks _ g S H m (h.only (ho n)).d).mono fun e w' ⟨he, hw⟩ => ⟨he, hw.symm⟩
  · exact (blocks_any _ base gb S H v (h.only (ho n)).b (by omega)).mono fun e w' ⟨he, hw⟩ => ⟨he, hw.symm⟩
theorem Two.drewN {W w : World} {base g gb : Nat} {m : Option Nat} {S T : ByteArray} {H K : List Bool} {v : Value} (h : Two W w base g m S H gb v T K) (n : Nat) : Two W (w.drewN n) base g m S H gb v T K := h.only ⟨rfl, rfl, rfl, Nat.le_refl _, fun _ _ _ => rfl⟩
theorem Two.drew {W w : World} {base g gb : Nat} {m : Option Nat} {S T : ByteArray} {H K : List Bool} {v : Value} (h : Two W w base g m S H gb v T K) : Two W w.drew base g m S H gb v T K := h.only ((Only.refl _ _).drew)
theorem bound_cell {W w : World} {A : Nat → Addr} (hE : Errs W A) (hb : Below W.heap.size W w) : w.cell? ⟨0, 0, none⟩ = some (.iface 189 (.pointer (some (A 1)))) := (hE.below hb (Nat.le_refl _)).cell 1 (by decide)
/-- A write, to both. -/
theorem act_write {W wa : World} {base g gb : Nat} {m : Option Nat} {S : ByteArray} {H : List Bool} {v : Value} {A : Nat → Addr} (hT : Two W wa base g m S H gb v S H) (hE : Errs W A) (a : Int) (s : ByteArray) (hs : s.size ≤ 5000) (ha : a < 9223372036854775808) (ha2 : -9223372036854775808 ≤ a) :
    ∃ (R : Value) (rc : Int) (S' : ByteArray) (H' : List Bool),
      (Calls Tryd.prog 20 #[.pointer (some ⟨g, 0, none⟩), .int .i64 a, .string s] wa fun e w' => e = .returned R ∧ ∃ m', Two W w' base g m' S' H' gb v S H ∧ Only (footD g m) wa w') ∧
      (∀ w2 m2, Two W w2 base g m2 S' H' gb v S H → Calls Tryd.prog 21 #[.pointer (some ⟨gb, 0, none⟩), .int .i64 a, .string s] w2 fun e w' => e = .returned (.int .i64 rc) ∧ ∃ v', Two W w' base g m2 S' H' gb v' S' H' ∧ Only (footB gb v) w2 w') ∧
      (∀ w3, Errs w3 A → Calls Tryd.prog 15 #[R, .int .i64 rc] w3 fun e w' => e = .returned (.bool true) ∧ Below w3.heap.size w3 w') := by
  obtain ⟨f, hsm, _⟩ := hT.d.holds
  refine ⟨if a < 0 ∨ 4096 < a + (s.size : Int) then .iface 189 (.pointer (some (A 1))) else .nilIface, if a < 0 ∨ 4096 < a + (s.size : Int) then 2 else 0,
    if a < 0 ∨ 4096 < a + (s.size : Int) then S else writeT S a.toNat s, if a < 0 ∨ 4096 < a + (s.size : Int) then H else writeU H a.toNat s, ?_, ?_, fun w3 h3 => coded_if A _ w3 h3⟩
  · refine (dwrite_any wa g S s H m a _ hT.d (bound_cell hE hT.below) hs ha ha2).mono ?_
    rintro e w' ⟨he, m', hd, ho, hf⟩
    refine ⟨he, m', hT.stepD ?_ ho hf, ho⟩
    split <;> split at hd <;> first | exact hd | contradiction
  · intro w2 m2 h2
    refine (rwrite_any w2 base gb S s H v a h2.b hsm.le hsm.lenH h2.base_le ha).mono ?_
    rintro e w' ⟨he, v', hb, ho, hf⟩
    refine ⟨he, v', h2.stepB ?_ ho hf, ho⟩
    split <;> split at hb <;> first | exact hb | contradiction
/-- Another size, for both. -/
theorem act_resize {W wa : World} {base g gb : Nat} {m : Option Nat} {S : ByteArray} {H : List Bool} {v : Value} {A : Nat → Addr} (hT : Two W wa base g m S H gb v S H) (hE : Errs W A) (n : Int) :
    ∃ (R : Value) (rc : Int) (S' : ByteArray) (H' : List Bool),
      (Calls Tryd.prog 24 #[.pointer (some ⟨g, 0, none⟩), .int .i64 n] wa fun e w' => e = .returned R ∧ Two W w' base g m S' H' gb v S H ∧ Only (footD g m) wa w') ∧
      (∀ w2, Two W w2 base g m S' H' gb v S H → Calls Tryd.prog 25 #[.pointer (some ⟨gb, 0, none⟩), .int .i64 n] w2 fun e w' => e = .returned (.int .i64 rc) ∧ Two W w' base g m S' H' gb v S' H' ∧ Only (footB gb v) w2 w') ∧
      (∀ w3, Errs w3 A → Calls Tryd.prog 15 #[R, .int .i64 rc] w3 fun e w' => e = .returned (.bool true) ∧ Below w3.heap.size w3 w') := by
  obtain ⟨f, hsm, _⟩ := hT.d.holds
  refine ⟨if n < 0 ∨ 4096 < n then .iface 189 (.pointer (some (A 1))) else .nilIface, if n < 0 ∨ 4096 < n then 2 else 0,
    if n < 0 ∨ 4096 < n then S else resizeS S n.toNat, if n < 0 ∨ 4096 < n then H else resizeH S H n.toNat, ?_, ?_, fun w3 h3 => coded_if A _ w3 h3⟩
  · refine (dresize_any wa g S H m n _ hT.d (bound_cell hE hT.below)).mono ?_
    rintro e w' ⟨he, hd, ho⟩
    refine ⟨he, hT.stepD ?_ ho (fun k hk => Or.inl (by simp [footD, hk])), ho⟩
    split <;> split at hd <;> first | exact hd | contradiction
  · intro w2 h2
    refine (rresize_any w2 base gb S H v n h2.b hsm.le hsm.lenH).mono ?_
    rintro e w' ⟨he, hb, ho⟩
    refine ⟨he, h2.stepB ?_ ho (fun k hk => Or.inl (by simp [footB, hk])), ho⟩
    split <;> split at hb <;> first | exact hb | contradiction

/-- Bytes are read, of both. -/
theorem act_read {W wa : World} {base g gb : Nat} {m : Option Nat} {S : ByteArray} {H : List Bool} {v : Value} {A : Nat → Addr} (hT : Two W wa base g m S H gb v S H) (hE : Errs W A) (a n : Int) (ha : a < 9223372036854775808) (hn : n < 9223372036854775808) :
    ∃ (R : Value) (rc : Int) (t : ByteArray) (fl : Bool),
      (Calls Tryd.prog 22 #[.pointer (some ⟨g, 0, none⟩), .int .i64 a, .int .i64 n] wa fun e w' => e = .returned (.tuple #[.string t, .bool fl, R]) ∧ Two W w' base g m S H gb v S H ∧ Only [] wa w') ∧
      (∀ w2, Two W w2 base g m S H gb v S H → Calls Tryd.prog 23 #[.pointer (some ⟨gb, 0, none⟩), .int .i64 a, .int .i64 n] w2 fun e w' => e = .returned (.tuple #[.string t, .bool fl, .int .i64 rc]) ∧ w2 = w') ∧
      (∀ w3, Errs w3 A → Calls Tryd.prog 15 #[R, .int .i64 rc] w3 fun e w' => e = .returned (.bool true) ∧ Below w3.heap.size w3 w') := by
  obtain ⟨f, hsm, _⟩ := hT.d.holds
  have hrc : (readB S a n).2.2 = if a < 0 ∨ n < 0 then 2 else 0 := by
    unfold readB
    by_cases h : a < 0 ∨ n < 0
    · rw [if_pos h, if_pos h]
    · rw [if_neg h, if_neg h]
      split
      · rfl
      · split <;> rfl
  refine ⟨if a < 0 ∨ n < 0 then .iface 189 (.pointer (some (A 1))) else .nilIface, if a < 0 ∨ n < 0 then 2 else 0, (readB S a n).1, (readB S a n).2.1, ?_, ?_, fun w3 h3 => coded_if A _ w3 h3⟩
  · exact (dread_any wa g S H m a n _ hT.d (bound_cell hE hT.below) ha hn).mono fun e w' ⟨he, ho⟩ => ⟨he, hT.only ho, ho⟩
  · intro w2 h2
    rw [← hrc]
    exact read_any w2 gb S a n h2.b.text hsm.le ha hn
/-- A copy goes on; the other one goes its own way. -/
theorem Two.copied {W wa w4 w5 w6 : World} {base g gb gc : Nat} {m m5 mc : Option Nat} {S S6 : ByteArray} {H H6 : List Bool} {v : Value} (hT : Two W wa base g m S H gb v S H) (hc : DataAt w4 gc S H mc) (h4 : Only [] wa w4) (hgc : wa.heap.size ≤ gc) (hmc : ∀ k, mc = some k → wa.heap.size ≤ k)
    (h5 : Only (footD g m) w4 w5) (hf5 : ∀ k, m5 = some k → k ∈ footD g m ∨ w4.heap.size ≤ k) (h6 : Only (footD g m5) w5 w6) (_ : DataAt w6 g S6 H6 m5) : Two W w6 base gc mc S H gb v S H := by
  have hnew : ∀ k ∈ footD gc mc, wa.heap.size ≤ k := fun k hk => by
    rcases List.mem_cons.1 hk with rfl | hk
    · exact hgc
    · exact hmc k (by simpa using hk)
  have hm5 : ∀ k ∈ footD g m5, k ∈ footD g m ∨ w4.heap.size ≤ k := fun k hk => by
    rcases List.mem_cons.1 hk with rfl | hk
    · exact Or.inl (List.mem_cons_self ..)
    · exact hf5 k (by simpa using hk)
  have hlt := hT.d.foot_lt
  have d5 : DataAt w5 gc S H mc := hc.kept h5 (fun k hk hm => by have := hlt k hm; have := hnew k hk; omega)
  have d6 : DataAt w6 gc S H mc := d5.kept h6 (fun k hk hm => by
    have h1 := hnew k hk
    have h2 := hc.foot_lt k hk
    rcases hm5 k hm with h3 | h3
    · have := hlt k h3; omega
    · omega)
  have o6 : Only (footD g m) wa w6 := ((h4.mono (L' := footD g m) (by simp)).trans h5 (fun i hi => Or.inl hi)).trans h6 (fun i hi => (hm5 i hi).imp id (fun h => Nat.le_trans h4.size h))
  exact hT.swap (m' := m) d6 o6 (fun k hk => Or.inl hk) hgc hmc

set_option maxRecDepth 100000 in
theorem acts_many (a : Option Addr) (len cap : Nat) (w : World) (h : 40 < len) :
    Calls Tryd.prog 8 #[.slice a len cap] w fun e w' => e = .returned (.bool true) ∧ Below w.heap.size w w' := by
  go_enter Tryd.func8, Tryd.ntmps8
  go_wp2_with (go_at_call 19; refine (one_any _).mono ?_; rintro e w1 ⟨rfl, hb1⟩)
  go_ret
  exact ⟨rfl, hb1⟩
set_option maxRecDepth 100000 in
set_option maxHeartbeats 4000000 in
theorem acts_walk (ab ao len cap : Nat) (P : Nat → ActM) (A : Nat → Addr) (w : World) (hp : ActsAt w ab ao len P) (hlen : len ≤ 40) (hN : ∀ i, i < len → ActFits (P i)) (hE : Errs w A) :
    Calls Tryd.prog 8 #[.slice (some ⟨ab, ao, none⟩) len cap] w fun e w' => e = .returned (.bool true) ∧ Below w.heap.size w w' := by
  have HE : Hid (Errs w A) := hE
  have HP : Hid (ActsAt w ab ao len P) := hp
  have HN : Hid (∀ i, i < len → ActFits (P i)) := hN
  clear hE hp hN
  go_enter Tryd.func8, Tryd.ntmps8
  go_wp2_with (go_at_call 19; refine (one_any _).mono ?_; rintro e w1 ⟨rfl, hb1⟩)
  have HT0 := Two.start hb1
  obtain ⟨base, hbase⟩ : ∃ b, w1.heap.size + 2 = b := ⟨_, rfl⟩
  obtain ⟨gb, hgb⟩ : ∃ b, w1.heap.size + 1 = b := ⟨_, rfl⟩
  rw [hbase, hgb] at HT0
  rw [hgb]
  generalize (w1.alloc (.cells #[.int .i64 0, .map none] 49)).alloc (.cells #[.string ⟨#[]⟩, .slice none 0 0] 53) = w2 at HT0 ⊢
  generalize w1.heap.size = g1 at HT0 ⊢
  clear hb1 hbase hgb
  go_loopw [4, 6] (fun d i wr => ∃ (j g : Nat) (m : Option Nat) (S : ByteArray) (H : List Bool) (v : Value), j ≤ len ∧ i = .int .i64 j ∧ d = .pointer (some ⟨g, 0, none⟩) ∧ Two w wr base g m S H gb v S H) (fun _ i _ => len - (intOf i).toNat)
  case atStart => exact ⟨0, _, _, _, _, _, Nat.zero_le _, rfl, rfl, HT0⟩
  case round =>
    obtain ⟨j, g, m, S, H, v, hj, rfl, rfl, hT⟩ := hrel
    have HT : Hid (Two w wr base g m S H gb v S H) := hT
    clear HT0
    by_cases hlt : j < len
    · obtain ⟨c0, c1, c2, c3⟩ := HP.out j hlt
      have g0 : wr.cell? ⟨ab, ao + j * 4, none⟩ = some (.string (P j).K) := (hT.below.cell (p := ⟨ab, ao + j * 4, none⟩) (lt_of_cell c0)).trans c0
      have g1 : wr.cell? ⟨ab, ao + j * 4 + 1, none⟩ = some (.int .i64 (P j).At) := (hT.below.cell (p := ⟨ab, ao + j * 4 + 1, none⟩) (lt_of_cell c1)).trans c1
      have g2 : wr.cell? ⟨ab, ao + j * 4 + 2, none⟩ = some (.int .i64 (P j).N) := (hT.below.cell (p := ⟨ab, ao + j * 4 + 2, none⟩) (lt_of_cell c2)).trans c2
      have g3 : wr.cell? ⟨ab, ao + j * 4 + 3, none⟩ = some (.string (P j).S) := (hT.below.cell (p := ⟨ab, ao + j * 4 + 3, none⟩) (lt_of_cell c3)).trans c3
      have HF : Hid (ActFits (P j)) := HN.out j hlt
      clear hT c0 c1 c2 c3
      have HTa : Hid (Two w (wr.alloc (.cells #[.string (P j).K, .int .i64 (P j).At, .int .i64 (P j).N, .string (P j).S] 55)) base g m S H gb v S H) := HT.out.only ((Only.refl _ _).alloc _)
      have hfD : Hid (∀ k ∈ footD g m, k < wr.heap.size) := HT.out.d.foot_lt
      have hfB : Hid (∀ k ∈ footB gb v, k < wr.heap.size) := HT.out.b.foot_lt
      have a1 : (wr.alloc (.cells #[.string (P j).K, .int .i64 (P j).At, .int .i64 (P j).N, .string (P j).S] 55)).cell? ⟨wr.heap.size, 1, none⟩ = some (.int .i64 (P j).At) := cell_of_row _ _ 1 _ _ _ (heap_alloc_last wr _)
      have a2 : (wr.alloc (.cells #[.string (P j).K, .int .i64 (P j).At, .int .i64 (P j).N, .string (P j).S] 55)).cell? ⟨wr.heap.size, 2, none⟩ = some (.int .i64 (P j).N) := cell_of_row _ _ 2 _ _ _ (heap_alloc_last wr _)
      have a3 : (wr.alloc (.cells #[.string (P j).K, .int .i64 (P j).At, .int .i64 (P j).N, .string (P j).S] 55)).cell? ⟨wr.heap.size, 3, none⟩ = some (.string (P j).S) := cell_of_row _ _ 3 _ _ _ (heap_alloc_last wr _)
      have A1 : Hid _ := a1
      have A2 : Hid _ := a2
      have A3 : Hid _ := a3
      clear a1 a2 a3
      go_wp2_with fail
      · go_ret
        exact ⟨rfl, HTa.out.below⟩
      · -- write
        clear g0 g1 g2 g3
        generalize wr.alloc (.cells #[.string (P j).K, .int .i64 (P j).At, .int .i64 (P j).N, .string (P j).S] 55) = wa at HTa A1 A2 A3 ⊢
        have haB : wr.heap.size < wa.heap.size := lt_of_cell A1.out
        generalize wr.heap.size = aB at hfD hfB A1 A2 A3 haB ⊢
        obtain ⟨f1, f2, f3, f4⟩ := HF.out
        have hsz : (P j).S.size ≤ 5000 := by omega
        obtain ⟨R, rc, S', H', C1, C2, C3⟩ := act_write HTa.out.drew HE.out (P j).At (P j).S hsz f1 f2
        have c1 := A1.out
        have c3 := A3.out
        have HO : Hid (Only [] wa wa.drew) := (Only.refl _ _).drew
        generalize (P j).At = pa at C1 C2 c1 ⊢
        generalize (P j).S = ps at C1 C2 c3 ⊢
        have hS0 : wa.drew.cell? ⟨aB, 1, none⟩ = some (.int .i64 pa) ∧ wa.drew.cell? ⟨aB, 3, none⟩ = some (.string ps) := ⟨c1, c3⟩
        have haD : Hid (aB ∉ footD g m) := fun h => by have := hfD.out aB h; omega
        have haV : Hid (aB ∉ footB gb v) := fun h => by have := hfB.out aB h; omega
        have HS0 : Hid (wa.drew.cell? ⟨aB, 1, none⟩ = some (.int .i64 pa) ∧ wa.drew.cell? ⟨aB, 3, none⟩ = some (.string ps)) := hS0
        clear hsz f1 f2 f3 f4 hS0 c1 c3 HO HTa
        go_region_held3 (fun W => W.cell? ⟨aB, 1, none⟩ = some (.int .i64 pa) ∧ W.cell? ⟨aB, 3, none⟩ = some (.string ps)) (first | exact HS0.out | exact hS2.out | exact hS3.out | exact hS4.out)
          (first
            | (go_at_call 20; refine C1.mono ?_; rintro e w4 ⟨rfl, m4, hT4, ho4⟩; have hS2 : Hid (w4.cell? ⟨aB, 1, none⟩ = some (.int .i64 pa) ∧ w4.cell? ⟨aB, 3, none⟩ = some (.string ps)) := ⟨(ho4.cell (p := ⟨aB, 1, none⟩) haB haD.out).trans HS0.out.1, (ho4.cell (p := ⟨aB, 3, none⟩) haB haD.out).trans HS0.out.2⟩; have HT4 : Hid (Two w w4 base g m4 S' H' gb v S H) := hT4; have haB4 : aB < w4.heap.size := lt_of_cell hS2.out.1; clear hT4 C1)
            | (go_at_call 21; refine (C2 _ _ HT4.out).mono ?_; rintro e w5 ⟨rfl, v5, hT5, ho5⟩; have hS3 : Hid (w5.cell? ⟨aB, 1, none⟩ = some (.int .i64 pa) ∧ w5.cell? ⟨aB, 3, none⟩ = some (.string ps)) := ⟨(ho5.cell (p := ⟨aB, 1, none⟩) haB4 haV.out).trans hS2.out.1, (ho5.cell (p := ⟨aB, 3, none⟩) haB4 haV.out).trans hS2.out.2⟩; have HT5 : Hid (Two w w5 base g m4 S' H' gb v5 S' H') := hT5; clear hT5 C2)
            | (go_at_call 15; refine (C3 _ (HE.out.below HT5.out.below (Nat.le_refl _))).mono ?_; rintro e w6 ⟨rfl, hb6⟩; have hS4 : Hid (w6.cell? ⟨aB, 1, none⟩ = some (.int .i64 pa) ∧ w6.cell? ⟨aB, 3, none⟩ = some (.string ps)) := ⟨(hb6.cell (p := ⟨aB, 1, none⟩) (lt_of_cell hS3.out.1)).trans hS3.out.1, (hb6.cell (p := ⟨aB, 3, none⟩) (lt_of_cell hS3.out.2)).trans hS3.out.2⟩; have HT6 : Hid (Two w w6 base g m4 S' H' gb v5 S' H') := HT5.out.only (Only.of_below hb6 []); clear C3))
        obtain ⟨t1, t2, t3, cb, hs4, hl4⟩ := HT6.out.sizes
        generalize (H'.filter (!·)).length = Nb at t2 t3 hl4
        clear HS0 hS2 hS3 hS4 HT4 HT5 hb6 ho4 ho5 A1 A2 A3
        go_wp2
        go_quiet (first
          | (go_at_call 27; refine Calls.quiet_of_same (t1 _))
          | (go_at_call 28; refine Calls.quiet_of_same (t2 _))
          | (go_at_call 29; refine Calls.quiet_of_same (t3 _)))
        go_wp2
        go_roundw
        case rel => exact ⟨j + 1, _, _, _, _, _, by omega, by go_num, rfl, HT6.out.drewN nq⟩
        case measure => simp [intOf]; omega
      · -- read
        clear g0 g1 g2 g3
        generalize wr.alloc (.cells #[.string (P j).K, .int .i64 (P j).At, .int .i64 (P j).N, .string (P j).S] 55) = wa at HTa A1 A2 A3 ⊢
        have haB : wr.heap.size < wa.heap.size := lt_of_cell A1.out
        generalize wr.heap.size = aB at hfD hfB A1 A2 A3 haB ⊢
        obtain ⟨f1, f2, f3, f4⟩ := HF.out
        obtain ⟨R, rc, t, fl, C1, C2, C3⟩ := act_read HTa.out HE.out (P j).At (P j).N f1 f3
        have c1 := A1.out
        have c2 := A2.out
        refine C1.mono ?_
        rintro e w4 ⟨rfl, hT4, ho4⟩
        have d1 : w4.cell? ⟨aB, 1, none⟩ = some (.int .i64 (P j).At) := (ho4.cell (p := ⟨aB, 1, none⟩) haB (by simp)).trans c1
        have d2 : w4.cell? ⟨aB, 2, none⟩ = some (.int .i64 (P j).N) := (ho4.cell (p := ⟨aB, 2, none⟩) haB (by simp)).trans c2
        have HT4 : Hid (Two w w4 base g m S H gb v S H) := hT4
        clear f1 f2 f3 f4 c1 c2 hT4 ho4 C1 HTa
        go_wp2_with (first
          | (go_at_call 23; go_must (refine (C2 _ HT4.out).mono ?_); rintro e w5 ⟨rfl, rfl⟩)
          | (go_at_call 15; go_must (refine (C3 _ (HE.out.below HT4.out.below (Nat.le_refl _))).mono ?_); rintro e w6 ⟨rfl, hb6⟩; have HT6 : Hid (Two w w6 base g m S H gb v S H) := HT4.out.only (Only.of_below hb6 []); obtain ⟨t1, t2, t3, cb, hs4, hl4⟩ := HT6.out.sizes; generalize (H.filter (!·)).length = Nb at t2 t3 hl4)
          | go_in)
        go_quiet (first
          | (go_at_call 27; refine Calls.quiet_of_same (t1 _))
          | (go_at_call 28; refine Calls.quiet_of_same (t2 _))
          | (go_at_call 29; refine Calls.quiet_of_same (t3 _)))
        go_wp2
        go_roundw
        case rel => exact ⟨j + 1, _, _, _, _, _, by omega, by go_num, rfl, HT6.out.drewN nq⟩
        case measure => simp [intOf]; omega
      · -- resize
        clear g0 g1 g2 g3
        generalize wr.alloc (.cells #[.string (P j).K, .int .i64 (P j).At, .int .i64 (P j).N, .string (P j).S] 55) = wa at HTa A1 A2 A3 ⊢
        have haB : wr.heap.size < wa.heap.size := lt_of_cell A1.out
        generalize wr.heap.size = aB at hfD hfB A1 A2 A3 haB ⊢
        obtain ⟨f1, f2, f3, f4⟩ := HF.out
        obtain ⟨R, rc, S', H', C1, C2, C3⟩ := act_resize HTa.out.drew HE.out (P j).N
        have c2 := A2.out
        generalize (P j).N = pn at C1 C2 c2 ⊢
        have haD : Hid (aB ∉ footD g m) := fun h => by have := hfD.out aB h; omega
        have haV : Hid (aB ∉ footB gb v) := fun h => by have := hfB.out aB h; omega
        have HS0 : Hid (wa.drew.cell? ⟨aB, 2, none⟩ = some (.int .i64 pn)) := c2
        clear f1 f2 f3 f4 c2 HTa
        go_region_held3 (fun W => W.cell? ⟨aB, 2, none⟩ = some (.int .i64 pn)) (first | exact HS0.out | exact hS2.out | exact hS3.out | exact hS4.out)
          (first
            | (go_at_call 24; refine C1.mono ?_; rintro e w4 ⟨rfl, hT4, ho4⟩; have hS2 : Hid (w4.cell? ⟨aB, 2, none⟩ = some (.int .i64 pn)) := (ho4.cell (p := ⟨aB, 2, none⟩) haB haD.out).trans HS0.out; have HT4 : Hid (Two w w4 base g m S' H' gb v S H) := hT4; have haB4 : aB < w4.heap.size := lt_of_cell hS2.out; clear hT4 C1)
            | (go_at_call 25; refine (C2 _ HT4.out).mono ?_; rintro e w5 ⟨rfl, hT5, ho5⟩; have hS3 : Hid (w5.cell? ⟨aB, 2, none⟩ = some (.int .i64 pn)) := (ho5.cell (p := ⟨aB, 2, none⟩) haB4 haV.out).trans hS2.out; have HT5 : Hid (Two w w5 base g m S' H' gb v S' H') := hT5; clear hT5 C2)
            | (go_at_call 15; refine (C3 _ (HE.out.below HT5.out.below (Nat.le_refl _))).mono ?_; rintro e w6 ⟨rfl, hb6⟩; have hS4 : Hid (w6.cell? ⟨aB, 2, none⟩ = some (.int .i64 pn)) := (hb6.cell (p := ⟨aB, 2, none⟩) (lt_of_cell hS3.out)).trans hS3.out; have HT6 : Hid (Two w w6 base g m S' H' gb v S' H') := HT5.out.only (Only.of_below hb6 []); clear C3))
        obtain ⟨t1, t2, t3, cb, hs4, hl4⟩ := HT6.out.sizes
        generalize (H'.filter (!·)).length = Nb at t2 t3 hl4
        clear HS0 hS2 hS3 hS4 HT4 HT5 hb6 ho4 ho5 A1 A2 A3
        go_wp2
        go_quiet (first
          | (go_at_call 27; refine Calls.quiet_of_same (t1 _))
          | (go_at_call 28; refine Calls.quiet_of_same (t2 _))
          | (go_at_call 29; refine Calls.quiet_of_same (t3 _)))
        go_wp2
        go_roundw
        case rel => exact ⟨j + 1, _, _, _, _, _, by omega, by go_num, rfl, HT6.out.drewN nq⟩
        case measure => simp [intOf]; omega
      · -- any other: a copy
        clear g0 g1 g2 g3
        generalize wr.alloc (.cells #[.string (P j).K, .int .i64 (P j).At, .int .i64 (P j).N, .string (P j).S] 55) = wa at HTa A1 A2 A3 ⊢
        have haB : wr.heap.size < wa.heap.size := lt_of_cell A1.out
        generalize wr.heap.size = aB at hfD hfB A1 A2 A3 haB ⊢
        obtain ⟨f1, f2, f3, f4⟩ := HF.out
        have hcp := dcopy wa g S H m HTa.out.d
        have hlt := HTa.out.d
        refine hcp.mono ?_
        rintro e w4 ⟨gc, mc, rfl, hdc, hoc, hgc, hmc⟩
        have hd4 : DataAt w4 g S H m := HTa.out.d.kept hoc (fun _ _ => by simp)
        have hw4 := dwrite_walk w4 g S ⟨#[103, 111, 110, 101]⟩ H m 0 hd4 (by decide) (by decide)
        have HDC : Hid (DataAt w4 gc S H mc) := hdc
        have HOC : Hid (Only [] wa w4) := hoc
        have HGC : Hid (wa.heap.size ≤ gc ∧ ∀ k, mc = some k → wa.heap.size ≤ k) := ⟨hgc, hmc⟩
        clear hcp hlt hdc hoc hgc hmc hd4 f1 f2 f3 f4 A1 A2 A3
        go_wp2_with (first
          | (go_at_call 20; go_must (refine hw4.mono ?_); rintro e w5 ⟨rfl, m5, hd5, ho5, hf5⟩; have hr5 := dresize w5 g _ _ m5 1 hd5 (by decide); have HO5 : Hid (Only (footD g m) w4 w5) := ho5; have HF5 : Hid (∀ k, m5 = some k → k ∈ footD g m ∨ w4.heap.size ≤ k) := hf5; clear hd5 ho5 hf5 hw4)
          | (go_at_call 24; go_must (refine hr5.mono ?_); rintro e w6 ⟨rfl, hd6, ho6⟩; have HT6 : Hid (Two w w6 base gc mc S H gb v S H) := HTa.out.copied HDC.out HOC.out HGC.out.1 HGC.out.2 HO5.out HF5.out ho6 hd6; clear hd6 ho6 hr5; obtain ⟨t1, t2, t3, cb, hs4, hl4⟩ := HT6.out.sizes; generalize (H.filter (!·)).length = Nb at t2 t3 hl4)
          | go_in)
        go_quiet (first
          | (go_at_call 27; refine Calls.quiet_of_same (t1 _))
          | (go_at_call 28; refine Calls.quiet_of_same (t2 _))
          | (go_at_call 29; refine Calls.quiet_of_same (t3 _)))
        go_wp2
        go_roundw
        case rel => exact ⟨j + 1, _, _, _, _, _, by omega, by go_num, rfl, HT6.out.drewN nq⟩
        case measure => simp [intOf]; omega
    · obtain rfl : j = len := by omega
      obtain ⟨f, hsm, _⟩ := HT.out.d.holds
      have hle := hsm.le
      have cb := HT.out.b.text
      have hr : Calls Tryd.prog 22 #[.pointer (some ⟨g, 0, none⟩), .int .i64 0, .int .i64 4096] wr fun e w' => e = .returned (.tuple #[.string S, .bool true, .nilIface]) ∧ Only [] wr w' :=
        dread_whole wr g S H m 4096 HT.out.d (by decide) hle
      clear hsm hT
      go_wp2_with (go_at_call 22; go_must (refine hr.mono ?_); rintro e w5 ⟨rfl, ho5⟩; have HT5 : Hid (Two w w5 base g m S H gb v S H) := HT.out.only ho5; have cb5 := HT5.out.b.text)
      go_ret
      exact ⟨rfl, HT5.out.below⟩
set_option maxRecDepth 100000 in
set_option maxHeartbeats 1000000 in
theorem acts_none (a : Option Addr) (cap : Nat) (w : World) :
    Calls Tryd.prog 8 #[.slice a 0 cap] w fun e w' => e = .returned (.bool true) ∧ Below w.heap.size w w' := by
  go_enter Tryd.func8, Tryd.ntmps8
  go_wp2_with (go_at_call 19; refine (one_any _).mono ?_; rintro e w1 ⟨rfl, hb1⟩)
  have HT := Two.start hb1
  obtain ⟨base, hbase⟩ : ∃ b, w1.heap.size + 2 = b := ⟨_, rfl⟩
  obtain ⟨gb, hgb⟩ : ∃ b, w1.heap.size + 1 = b := ⟨_, rfl⟩
  rw [hbase, hgb] at HT
  rw [hgb]
  generalize (w1.alloc (.cells #[.int .i64 0, .map none] 49)).alloc (.cells #[.string ⟨#[]⟩, .slice none 0 0] 53) = w2 at HT ⊢
  generalize w1.heap.size = g1 at HT ⊢
  clear hb1 hbase hgb
  refine wp_loop_rounds 1 ?_
  rw [rounds_succ]
  have cb := HT.b.text
  have hr := dread_whole w2 g1 ⟨#[]⟩ [] none 4096 HT.d (by decide) (Nat.zero_le _)
  have HT2 : Hid (Two w w2 base g1 none ⟨#[]⟩ [] gb (.slice none 0 0) ⟨#[]⟩ []) := HT
  clear HT
  go_wp2_with (go_at_call 22; go_must (refine hr.mono ?_); rintro e w5 ⟨rfl, ho5⟩; have HT5 : Hid (Two w w5 base g1 none ⟨#[]⟩ [] gb (.slice none 0 0) ⟨#[]⟩ []) := HT2.out.only ho5; have cb5 := HT5.out.b.text)
  go_ret
  exact ⟨rfl, HT5.out.below⟩
theorem acts_all (a : Option Addr) (len cap : Nat) (A : Nat → Addr) (w : World) (hp : IsActs w a len) (hE : Errs w A) :
    Calls Tryd.prog 8 #[.slice a len cap] w fun e w' => e = .returned (.bool true) ∧ Below w.heap.size w w' := by
  rcases Nat.lt_or_ge 40 len with h | h
  · exact acts_many a len cap w h
  rcases hp with rfl | ⟨ab, ao, P, rfl, hP, hN⟩
  · exact acts_none a cap w
  · exact acts_walk ab ao len cap P A w hP h hN hE
end Go.Proofs.YthofinllkdajhabDoor
