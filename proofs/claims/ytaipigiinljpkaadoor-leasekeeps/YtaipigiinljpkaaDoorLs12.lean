/- LeaseKeeps: who renews in time stays, who does not goes: the walk. -/
import Derived.Test.YtaipigiinljpkaaDoorLs11
import Derived.ProofKit
import Derived.Deep.Strs
import Derived.Deep.Slices
import Derived.OpenShut
import Derived.Lib.SmallJoins
namespace Go.Proofs.YtaipigiinljpkaaDoor
open Go Go.RowKit Go.Deep Go.Maps

def cA (g : Nat) : Cli := ⟨[97], 1, 0, g⟩
def cB (g : Nat) : Cli := ⟨[98], 2, 0, g⟩
/-- One client that renews; another one whose lease is so old, or that is gone. -/
def KS (m age : Nat) (gone : Bool) (l : List Cli) : Prop := ∀ x, x ∈ l ↔ x = cA m ∨ (gone = false ∧ x = cB age)
theorem reg_b {A : Nat → Addr} {last' c id : Nat} {r : Value} {l' : List Cli} (h : RegA A 1 [⟨[97], 0, 1, 0⟩] ⟨#[98]⟩ c id r last' l') : id = 2 ∧ r = .nilIface ∧ last' = 2 ∧ l' = [⟨[97], 0, 1, 0⟩, ⟨[98], 0, 2, 0⟩] := by
  rcases h with ⟨h1, _⟩ | ⟨_, _, h1, _⟩ | ⟨_, _, _, h1, h2, h3, h4⟩
  · exact (h1 okN_b).elim
  · exact absurd h1 (by decide)
  · exact ⟨h1, h2, h3, h4⟩
theorem mem_two {x a b : Cli} (h : x ∈ [a, b]) : x = a ∨ x = b := by simpa using h
theorem conf_1 {A : Nat → Addr} {c gone : Nat} {r : Value} {l' : List Cli} (h : ConfA A [⟨[97], 0, 1, 0⟩, ⟨[98], 0, 2, 0⟩] 1 1 c gone r l') : r = .nilIface ∧ l' = [⟨[97], 1, 0, 0⟩, ⟨[98], 0, 2, 0⟩] := by
  rcases h with ⟨h1, _⟩ | ⟨x, _, _, h1, _⟩ | ⟨x, hx, hh, _, _, h2, h3, h4⟩
  · exact absurd (h1 _ List.mem_cons_self) (by decide)
  · exact (h1 rfl).elim
  · rcases mem_two hx with e | e
    · rw [e] at h4
      exact ⟨h3, h4⟩
    · rw [e] at hh
      exact absurd hh (by decide)
theorem conf_2 {A : Nat → Addr} {c gone : Nat} {r : Value} {l' : List Cli} (h : ConfA A [⟨[97], 1, 0, 0⟩, ⟨[98], 0, 2, 0⟩] 2 2 c gone r l') : r = .nilIface ∧ KS 0 0 false l' := by
  rcases h with ⟨h1, _⟩ | ⟨x, _, _, h1, _⟩ | ⟨x, hx, hh, _, _, h2, h3, h4⟩
  · exact absurd (h1 _ (List.mem_cons_of_mem _ List.mem_cons_self)) (by decide)
  · exact (h1 rfl).elim
  · rcases mem_two hx with e | e
    · rw [e] at hh
      exact absurd hh (by decide)
    · rw [e] at h4
      have e4 : l' = [cA 0, cB 0] := h4
      refine ⟨h3, fun y => ?_⟩
      rw [e4]
      simp
theorem over_A {m g : Nat} : overC m (cA g) = decide (60 ≤ g + m) := rfl
theorem over_B {m g : Nat} : overC m (cB g) = decide (60 ≤ g + m) := rfl
theorem KS.tick {A : Nat → Addr} {age m c : Nat} {gone : Bool} {l l' : List Cli} {r : Value} {gs : List Int} (h : KS 0 age gone l) (hm : m < 60) (ht : TickA A l (m : Int) c r gs l') : r = .nilIface ∧ KS m (age + m) (gone || decide (60 ≤ age + m)) l' ∧ gs = if gone = false ∧ 60 ≤ age + m then [2] else [] := by
  rcases ht with ⟨hb, _⟩ | ⟨m', he, _, _, hr, hp, hg, hl⟩
  · omega
  · obtain rfl : m = m' := by omega
    have oA : overC m (cA 0) = false := by rw [over_A]; exact decide_eq_false (by omega)
    have tA : tickC m (cA 0) = cA m := by
      unfold tickC
      rw [oA]
      show (⟨[97], 1, 0, 0 + m⟩ : Cli) = cA m
      rw [Nat.zero_add]
      rfl
    have nA : noneC (cA m) = false := rfl
    refine ⟨hr, fun x => ?_, ?_⟩
    · rw [hl x]
      constructor
      · rintro ⟨d, hd, h1, rfl⟩
        rcases (h d).1 hd with rfl | ⟨hgo, rfl⟩
        · exact Or.inl tA
        · by_cases ho : 60 ≤ age + m
          · have oB : overC m (cB age) = true := by rw [over_B]; exact decide_eq_true ho
            have tB : tickC m (cB age) = ⟨[98], 0, 0, 0⟩ := by unfold tickC; rw [oB]; rfl
            rw [tB] at h1
            cases h1
          · have oB : overC m (cB age) = false := by rw [over_B]; exact decide_eq_false ho
            have tB : tickC m (cB age) = cB (age + m) := by unfold tickC; rw [oB]; rfl
            exact Or.inr ⟨by rw [hgo, decide_eq_false ho]; rfl, tB⟩
      · rintro (rfl | ⟨h1, rfl⟩)
        · exact ⟨cA 0, (h _).2 (Or.inl rfl), by rw [tA]; rfl, tA.symm⟩
        · cases gone with
          | true => cases h1
          | false =>
            have ho : ¬ 60 ≤ age + m := of_decide_eq_false h1
            have oB : overC m (cB age) = false := by rw [over_B]; exact decide_eq_false ho
            have tB : tickC m (cB age) = cB (age + m) := by unfold tickC; rw [oB]; rfl
            exact ⟨cB age, (h _).2 (Or.inr ⟨rfl, rfl⟩), by rw [tB]; rfl, tB.symm⟩
    · have hmem : ∀ x, x ∈ gs ↔ (gone = false ∧ 60 ≤ age + m) ∧ x = 2 := fun x => by
        rw [hg x]
        constructor
        · rintro ⟨d, hd, h1, rfl⟩
          rcases (h d).1 hd with rfl | ⟨hgo, rfl⟩
          · rw [oA] at h1; cases h1
          · rw [over_B] at h1
            exact ⟨⟨hgo, of_decide_eq_true h1⟩, rfl⟩
        · rintro ⟨⟨hgo, ho⟩, rfl⟩
          exact ⟨cB age, (h _).2 (Or.inr ⟨hgo, rfl⟩), by rw [over_B]; exact decide_eq_true ho, rfl⟩
      split
      · rename_i hc
        cases gs with
        | nil => exact absurd ((hmem 2).2 ⟨hc, rfl⟩) (by simp)
        | cons y r =>
          rw [List.pairwise_cons] at hp
          have hy := ((hmem y).1 List.mem_cons_self).2
          cases r with
          | nil => rw [hy]
          | cons z r =>
            have h1 := hp.1 z List.mem_cons_self
            have h2 := ((hmem z).1 (List.mem_cons_of_mem _ List.mem_cons_self)).2
            omega
      · rename_i hc
        cases gs with
        | nil => rfl
        | cons y r => exact absurd ((hmem y).1 List.mem_cons_self).1 hc
theorem KS.renA {A : Nat → Addr} {age m c : Nat} {gone : Bool} {l l' : List Cli} {r : Value} (h : KS m age gone l) (hr : RenA A l 1 c r l') : r = .nilIface ∧ KS 0 age gone l' := by
  rcases hr with ⟨x, hx, _, h1, _, h2, rfl⟩ | ⟨hn, _⟩
  · have e : x = cA m := by
      rcases (h x).1 hx with e | ⟨_, rfl⟩
      · exact e
      · exact absurd h1 (show ¬ ((2 : Int) = 1) by decide)
    subst e
    refine ⟨h2, fun y => ?_⟩
    rw [mem_putC]
    show y = cA 0 ∨ (y ∈ l ∧ y.s ≠ [97]) ↔ _
    rw [h y]
    constructor
    · rintro (e | ⟨e | e, hs⟩)
      · exact Or.inl e
      · rw [e] at hs; exact (hs rfl).elim
      · exact Or.inr e
    · rintro (e | ⟨e1, e2⟩)
      · exact Or.inl e
      · exact Or.inr ⟨Or.inr ⟨e1, e2⟩, by rw [e2]; exact show ([98] : List UInt8) ≠ [97] by decide⟩
  · exact (hn (cA m) ((h _).2 (Or.inl rfl)) ⟨by decide, rfl⟩).elim
theorem KS.renB {A : Nat → Addr} {age c : Nat} {l l' : List Cli} {r : Value} (h : KS 0 age false l) (hr : RenA A l 2 c r l') : r = .nilIface ∧ KS 0 0 false l' := by
  rcases hr with ⟨x, hx, _, h1, _, h2, rfl⟩ | ⟨hn, _⟩
  · have e : x = cB age := by
      rcases (h x).1 hx with rfl | ⟨_, e⟩
      · exact absurd h1 (by decide)
      · exact e
    subst e
    refine ⟨h2, fun y => ?_⟩
    rw [mem_putC]
    show y = cB 0 ∨ (y ∈ l ∧ y.s ≠ [98]) ↔ _
    rw [h y]
    constructor
    · rintro (e | ⟨e | ⟨_, e⟩, hs⟩)
      · exact Or.inr ⟨rfl, e⟩
      · exact Or.inl e
      · rw [e] at hs; exact (hs rfl).elim
    · rintro (e | ⟨_, e2⟩)
      · exact Or.inr ⟨Or.inl e, by rw [e]; exact show ([97] : List UInt8) ≠ [98] by decide⟩
      · exact Or.inl e2
  · exact (hn (cB age) ((h _).2 (Or.inr ⟨rfl, rfl⟩)) ⟨by decide, rfl⟩).elim
theorem KS.gone {A : Nat → Addr} {age c : Nat} {l l' : List Cli} {r : Value} (h : KS 0 age true l) (hr : RenA A l 2 c r l') : r = sErr A 4 ∧ l' = l := by
  rcases hr with ⟨x, hx, _, h1, _⟩ | ⟨_, _, h2, h3⟩
  · rcases (h x).1 hx with rfl | ⟨e, _⟩
    · exact absurd h1 (by decide)
    · cases e
  · exact ⟨h2, h3⟩
def IntsIn (w : World) (a : Option Addr) (len : Nat) (P : Nat → Int) : Prop := ∀ j, j < len → ∃ ab ao, a = some ⟨ab, ao, none⟩ ∧ w.cell? ⟨ab, ao + j, none⟩ = some (.int .i64 (P j))
theorem one_num {w : World} {base : Nat} {v : Value} {x : Int} (h : Nums w base v [x]) : ∃ g cap, v = .slice (some ⟨g, 0, none⟩) 1 cap ∧ base ≤ g ∧ w.cell? ⟨g, 0, none⟩ = some (.int .i64 x) := by
  obtain ⟨ad, cap, rfl, hc⟩ := row_ones (ss := [x]) (f := Value.int .i64) h
  obtain ⟨g, rfl, h0, _, h1⟩ := hc 0 x rfl
  exact ⟨g, cap, rfl, h0, h1⟩
theorem no_num {w : World} {base : Nat} {v : Value} (h : Nums w base v []) : ∃ ad cap, v = .slice ad 0 cap := by
  obtain ⟨ad, cap, rfl, _⟩ := row_ones (ss := ([] : List Int)) (f := Value.int .i64) h
  exact ⟨ad, cap, rfl⟩
set_option maxRecDepth 100000 in
set_option maxHeartbeats 8000000 in
theorem keeps_in (a : Option Addr) (len cap : Nat) (stop : Int) (P : Nat → Int) (A : Nat → Addr) (w : World) (hp : IntsIn w a len P) (hE : Errs w A) (hlen : len ≤ 60) (hstop : 0 ≤ stop) :
    Calls Tryd.prog 3 #[.slice a (len : Nat) cap, .int .i64 stop] w fun e w' => e = .returned (.bool true) ∧ Below w.heap.size w w' := by
  have hkn := known_any A w hE
  have HE : Hid (Errs w A) := hE
  have HP : Hid (IntsIn w a len P) := hp
  have hd1 : decide (60 < (len : Int)) = false := decide_eq_false (by omega)
  have hd2 : decide (stop < 0) = false := decide_eq_false (by omega)
  clear hE hp
  go_enter Tryd.func3, Tryd.ntmps3
  go_wp2_with (first
    | (go_at_call 4; refine hkn.mono ?_; rintro e w1 ⟨rfl, hb1⟩; have hnew := LsV.new hb1; clear hkn hb1)
    | (go_at_call 5; refine hnew.mono ?_; rintro e w1 ⟨t, mb, rfl, h1, _, _, _⟩; have hreg := h1.reg HE.out ⟨#[97]⟩ 1 (by decide); clear hnew h1)
    | (go_at_call 6; have _tok := hreg; refine hreg.mono ?_; rintro e w2 ⟨c, id, r, last', l', rfl, hr, h2, _⟩; obtain ⟨rfl, rfl, rfl, rfl⟩ := reg_a hr; have hregb := h2.reg HE.out ⟨#[98]⟩ 1 (by decide); clear hreg _tok h2 hr)
    | (go_at_call 6; refine hregb.mono ?_; rintro e w3 ⟨c, id, r, last', l', rfl, hr, h3, _⟩; obtain ⟨rfl, rfl, rfl, rfl⟩ := reg_b hr; have hconf := h3.conf HE.out 1 1; clear hregb h3 hr)
    | (go_at_call 7; have _tok := hconf; refine hconf.mono ?_; rintro e w4 ⟨c, gone, r, l', rfl, hr, h4, _⟩; obtain ⟨rfl, rfl⟩ := conf_1 hr; have hconfb := h4.conf HE.out 2 2; clear hconf _tok h4 hr)
    | (go_at_call 7; refine hconfb.mono ?_; rintro e w5 ⟨c, gone5, r, l5, rfl, hr, h5, _⟩; obtain ⟨rfl, hks⟩ := conf_2 hr; have HL5 : Hid (LsV w w5 t mb 2 l5) := h5; have HK5 : Hid (KS 0 0 false l5) := hks; clear hconfb h5 hr hks))
  go_loopw [17, 18, 19] (fun ag gn i wr => ∃ (j age : Nat) (gone : Bool) (l : List Cli), ag = .int .i64 (age : Nat) ∧ gn = .bool gone ∧ i = .int .i64 (j : Nat) ∧ j ≤ len ∧ age ≤ 60 * j ∧ (gone = false → age < 60) ∧ (gone = true → 60 ≤ age) ∧ KS 0 age gone l ∧ LsV w wr t mb 2 l)
    (fun _ _ i _ => len - (intOf i).toNat)
  case atStart => exact ⟨0, 0, false, l5, rfl, rfl, rfl, Nat.zero_le _, Nat.zero_le _, fun _ => by decide, fun h => (by cases h), HK5.out, HL5.out⟩
  case round =>
    obtain ⟨j, age, gone, l, rfl, rfl, rfl, hj, hage, hy, hg, hks, hv⟩ := hrel
    by_cases hlt : j < len
    · obtain ⟨ab, ao, rfl, hcell⟩ := HP.out j hlt
      have q := (hv.below.cell (p := ⟨ab, ao + j, none⟩) (lt_of_cell hcell)).trans hcell
      have HV : Hid (LsV w wr t mb 2 l) := hv
      have HK : Hid (KS 0 age gone l) := hks
      have HG : Hid ((gone = false → age < 60) ∧ (gone = true → 60 ≤ age)) := ⟨hy, hg⟩
      have htick := hv.tick HE.out (P j)
      generalize P j = n at q htick
      clear hv hks hcell hy hg
      by_cases hn : n < 0 ∨ 60 ≤ n
      · clear htick
        rcases hn with hn | hn
        · go_wp2
          go_roundw
          case rel => exact ⟨j + 1, age, gone, l, rfl, rfl, by go_num, by omega, by omega, HG.out.1, HG.out.2, HK.out, HV.out⟩
          case measure => simp [intOf]; omega
        · have hn0 : ¬ n < 0 := by omega
          go_wp2
          go_roundw
          case rel => exact ⟨j + 1, age, gone, l, rfl, rfl, by go_num, by omega, by omega, HG.out.1, HG.out.2, HK.out, HV.out⟩
          case measure => simp [intOf]; omega
      · obtain ⟨m, rfl⟩ : ∃ m : Nat, n = (m : Int) := ⟨n.toNat, by omega⟩
        have hm : m < 60 := by omega
        have hn1 : ¬ (m : Int) < 0 := by omega
        have hn2 : ¬ (60 : Int) ≤ m := by omega
        clear hn
        have HTK : Hid (Calls Tryd.prog 8 #[.pointer (some ⟨t, 0, none⟩), .int .i64 (m : Int)] wr fun e w' => ∃ v l', e = .returned (.tuple #[v, .nilIface]) ∧ KS m (age + m) (gone || decide (60 ≤ age + m)) l' ∧ Nums w' wr.heap.size v (if gone = false ∧ 60 ≤ age + m then [2] else []) ∧ LsV w w' t mb 2 l') := htick.mono (fun e w' hh => by
          obtain ⟨c, r, v, gs, l', he, ht, hnu, hv', _⟩ := hh
          obtain ⟨rfl, h2, rfl⟩ := HK.out.tick hm ht
          exact ⟨v, l', he, h2, hnu, hv'⟩)
        clear htick
        cases gone with
        | true =>
          have h60 : 60 ≤ age := HG.out.2 rfl
          have ho6 : (60 : Int) ≤ (age : Int) + (m : Int) := by omega
          have htk := HTK.out
          rw [show (true || decide (60 ≤ age + m)) = true from rfl, if_neg (fun h => by cases h.1)] at htk
          clear HTK
          go_wp2_with (first
            | (go_at_call 8; refine htk.mono ?_; rintro e w2 ⟨v, l2, rfl, hk2, hnu, hv2⟩; obtain ⟨ad, cp, rfl⟩ := no_num hnu; clear hnu; have hra := hv2.ren HE.out 1; have HK2 : Hid (KS m (age + m) true l2) := hk2; clear htk hk2 hv2)
            | (go_at_call 9; have _tok := hra; refine hra.mono ?_; rintro e w3 ⟨c3, r3, l3, rfl, hr3, hv3, ho3⟩; obtain ⟨rfl, hk3⟩ := HK2.out.renA hr3; have HK3 : Hid (KS 0 (age + m) true l3) := hk3; have HV3 : Hid (LsV w w3 t mb 2 l3) := hv3; have hrb := hv3.ren HE.out 2; clear hra _tok hk3 hv3 hr3 ho3)
            | (go_at_call 9; refine hrb.mono ?_; rintro e w4 ⟨c4, r4, l4, rfl, hr4, hv4, _⟩; obtain ⟨rfl, rfl⟩ := HK3.out.gone hr4; have hcd := coded2_any A 5 (sErr A 4) w4 (hv4.errs HE.out) (Or.inr ⟨4, by decide, rfl, rfl⟩); have HV4 : Hid (LsV w w4 t mb 2 l4) := hv4; clear hrb hr4 hv4)
            | (go_at_call 10; refine hcd.mono ?_; rintro e w5 ⟨rfl, hb5⟩; have HV5 : Hid (LsV w w5 t mb 2 l4) := HV4.out.only (Only.of_below hb5 []); clear hcd hb5)
            | go_in)
          go_roundw
          case rel => exact ⟨j + 1, age + m, true, l4, by go_num, rfl, by go_num, by omega, by omega, fun h => (by cases h), fun _ => by omega, HK3.out, HV5.out⟩
          case measure => simp [intOf]; omega
        | false =>
          by_cases ho : 60 ≤ age + m
          · have ho6 : (60 : Int) ≤ (age : Int) + (m : Int) := by omega
            have htk := HTK.out
            rw [show (false || decide (60 ≤ age + m)) = true by rw [decide_eq_true ho]; rfl, if_pos ⟨rfl, ho⟩] at htk
            clear HTK
            go_wp2_with (first
              | (go_at_call 8; refine htk.mono ?_; rintro e w2 ⟨v, l2, rfl, hk2, hnu, hv2⟩; obtain ⟨g, cp, rfl, hgb, qg⟩ := one_num hnu; have hgn : g ∉ [t, mb] := (by have h2 := HV.out.ls.lt; have h3 := HV.out.ls.mlt; simp; omega); have HQG : Hid (w2.cell? ⟨g, 0, none⟩ = some (.int .i64 2) ∧ g ∉ [t, mb]) := ⟨qg, hgn⟩; clear hnu qg hgb hgn; have hra := hv2.ren HE.out 1; have HK2 : Hid (KS m (age + m) true l2) := hk2; clear htk hk2 hv2)
              | (go_at_call 9; have _tok := hra; refine hra.mono ?_; rintro e w3 ⟨c3, r3, l3, rfl, hr3, hv3, ho3⟩; obtain ⟨rfl, hk3⟩ := HK2.out.renA hr3; have HK3 : Hid (KS 0 (age + m) true l3) := hk3; have HV3 : Hid (LsV w w3 t mb 2 l3) := hv3; have hrb := hv3.ren HE.out 2; have qg : w3.cell? ⟨g, 0, none⟩ = some (.int .i64 2) := (ho3.cell (lt_of_cell HQG.out.1) HQG.out.2).trans HQG.out.1; clear hra _tok hk3 hv3 hr3 ho3)
              | (go_at_call 9; refine hrb.mono ?_; rintro e w4 ⟨c4, r4, l4, rfl, hr4, hv4, _⟩; obtain ⟨rfl, rfl⟩ := HK3.out.gone hr4; have hcd := coded2_any A 5 (sErr A 4) w4 (hv4.errs HE.out) (Or.inr ⟨4, by decide, rfl, rfl⟩); have HV4 : Hid (LsV w w4 t mb 2 l4) := hv4; clear hrb hr4 hv4)
              | (go_at_call 10; refine hcd.mono ?_; rintro e w5 ⟨rfl, hb5⟩; have HV5 : Hid (LsV w w5 t mb 2 l4) := HV4.out.only (Only.of_below hb5 []); clear hcd hb5)
              | go_in)
            go_roundw
            case rel => exact ⟨j + 1, age + m, true, l4, by go_num, rfl, by go_num, by omega, by omega, fun h => (by cases h), fun _ => ho, HK3.out, HV5.out⟩
            case measure => simp [intOf]; omega
          · by_cases hs : (j : Int) < stop
            · have ho6 : ¬ (60 : Int) ≤ (age : Int) + (m : Int) := by omega
              have htk := HTK.out
              rw [show (false || decide (60 ≤ age + m)) = false by rw [decide_eq_false ho]; rfl, if_neg (fun h => ho h.2)] at htk
              clear HTK
              go_wp2_with (first
                | (go_at_call 8; refine htk.mono ?_; rintro e w2 ⟨v, l2, rfl, hk2, hnu, hv2⟩; obtain ⟨ad, cp, rfl⟩ := no_num hnu; clear hnu; have hra := hv2.ren HE.out 1; have HK2 : Hid (KS m (age + m) false l2) := hk2; clear htk hk2 hv2)
                | (go_at_call 9; have _tok := hra; refine hra.mono ?_; rintro e w3 ⟨c3, r3, l3, rfl, hr3, hv3, ho3⟩; obtain ⟨rfl, hk3⟩ := HK2.out.renA hr3; have HK3 : Hid (KS 0 (age + m) false l3) := hk3; have HV3 : Hid (LsV w w3 t mb 2 l3) := hv3; have hrb := hv3.ren HE.out 2; clear hra _tok hk3 hv3 hr3 ho3)
                | (go_at_call 9; refine hrb.mono ?_; rintro e w4 ⟨c4, r4, l4, rfl, hr4, hv4, _⟩; obtain ⟨rfl, hk4⟩ := HK3.out.renB hr4; have HV4 : Hid (LsV w w4 t mb 2 l4) := hv4; have HK4 : Hid (KS 0 0 false l4) := hk4; clear hrb hr4 hv4 hk4)
                | go_in)
              go_roundw
              case rel => exact ⟨j + 1, 0, false, l4, rfl, rfl, by go_num, by omega, by omega, fun _ => by decide, fun h => (by cases h), HK4.out, HV4.out⟩
              case measure => simp [intOf]; omega
            · have ho6 : ¬ (60 : Int) ≤ (age : Int) + (m : Int) := by omega
              have htk := HTK.out
              rw [show (false || decide (60 ≤ age + m)) = false by rw [decide_eq_false ho]; rfl, if_neg (fun h => ho h.2)] at htk
              clear HTK
              go_wp2_with (first
                | (go_at_call 8; refine htk.mono ?_; rintro e w2 ⟨v, l2, rfl, hk2, hnu, hv2⟩; obtain ⟨ad, cp, rfl⟩ := no_num hnu; clear hnu; have hra := hv2.ren HE.out 1; have HK2 : Hid (KS m (age + m) false l2) := hk2; clear htk hk2 hv2)
                | (go_at_call 9; have _tok := hra; refine hra.mono ?_; rintro e w3 ⟨c3, r3, l3, rfl, hr3, hv3, ho3⟩; obtain ⟨rfl, hk3⟩ := HK2.out.renA hr3; have HK3 : Hid (KS 0 (age + m) false l3) := hk3; have HV3 : Hid (LsV w w3 t mb 2 l3) := hv3;  clear hra _tok hk3 hv3 hr3 ho3)
                | go_in)
              go_roundw
              case rel => exact ⟨j + 1, age + m, false, l3, by go_num, rfl, by go_num, by omega, by omega, fun _ => by omega, fun h => (by cases h), HK3.out, HV3.out⟩
              case measure => simp [intOf]; omega
    · have hj2 : ¬ (j : Int) < len := by omega
      have HB : Hid (Below w.heap.size w wr) := hv.below
      clear hv hks
      go_wp2
      go_ret
      exact ⟨rfl, HB.out⟩
/-! ### every list -/
def IsInts (w : World) (a : Option Addr) (len : Nat) : Prop := ∃ P, IntsIn w a len P
theorem Tryd.cellsInt9 : Tryd.prog.cellsOf 3 = 1 := by kernel_rfl
theorem choose_lt9 {α : Type} [Inhabited α] {n : Nat} {p : Nat → α → Prop} (h : ∀ i, i < n → ∃ a, p i a) : ∃ f : Nat → α, ∀ i, i < n → p i (f i) :=
  ⟨fun i => if hi : i < n then Classical.choose (h i hi) else default, fun i hi => by simp only [hi, dif_pos]; exact Classical.choose_spec (h i hi)⟩
theorem isInts_of {H : Type} {enc : TypeId × Value → H} {w : World} {base n : Nat} {sp : Nat → Bool} {held : Bool} {a : Option Addr} {len cap : Nat} {x : DataW H × List MemPlace} (h : DataW.trod enc Tryd.prog w base sp held n 22 [.slice a len cap] = some x) : IsInts w a len := by
  rcases open_slice Tryd.underlying22 h with ⟨e, _⟩ | ⟨ad, len', cap', m, n', D, Pl, e, _, hl, hm, hmm, _, hx⟩
  · simp at e
    obtain ⟨_, e2, _⟩ := e
    exact ⟨fun _ => 0, fun j hj => by omega⟩
  · simp at e
    obtain ⟨rfl, rfl, rfl⟩ := e
    rcases Nat.eq_zero_or_pos len with h0 | h0
    · exact ⟨fun _ => 0, fun j hj => by omega⟩
    have hle : len ≤ m := by rw [hmm]; split <;> omega
    rw [Tryd.cellsInt9] at hx
    obtain ⟨P, hP⟩ := choose_lt9 (α := Int) (n := len) (p := fun i p => w.cells? base (ad.add (i * 1)) 1 = some [.int .i64 p]) (fun i hi => by
      obtain ⟨cs', c1, c2⟩ := hx i (by omega)
      obtain ⟨k, rfl, _, _⟩ := DataW.trod_int Tryd.underlying3 c2
      exact ⟨k, c1⟩)
    obtain ⟨ab, ao, spot⟩ := ad
    have cell : ∀ i, i < len → w.cell? (((⟨ab, ao, spot⟩ : Addr).add (i * 1)).add 0) = some (.int .i64 (P i)) := fun i hi => (World.cells?_some (hP i hi)).2.2 0 (by decide)
    have hspot : spot = none := by
      have := cell 0 h0
      simp [Addr.add] at this
      exact World.cell?_spot this
    subst hspot
    have hadd : ∀ i, ((⟨ab, ao, none⟩ : Addr).add (i * 1)).add 0 = ⟨ab, ao + i, none⟩ := fun i => by
      unfold Addr.add
      split <;> split <;> simp_all
    refine ⟨P, fun i hi => ⟨ab, ao, rfl, ?_⟩⟩
    have c0 := cell i hi
    rw [hadd] at c0
    exact c0
set_option maxHeartbeats 1000000 in
theorem keeps_long (a : Option Addr) (len cap : Nat) (stop : Int) (A : Nat → Addr) (w : World) (hE : Errs w A) (hl : 60 < len) : Calls Tryd.prog 3 #[.slice a (len : Nat) cap, .int .i64 stop] w fun e w' => e = .returned (.bool true) ∧ Below w.heap.size w w' := by
  have hh := known_any A w hE
  have g1 : decide (60 < (len : Int)) = true := decide_eq_true (by omega)
  clear hE
  go_enter Tryd.func3, Tryd.ntmps3
  go_wp2_with (go_at_call 4; refine hh.mono ?_; rintro e w1 ⟨rfl, hb1⟩; have HB : Hid (Below w.heap.size w w1) := hb1; clear hh hb1)
  go_ret
  exact ⟨rfl, HB.out⟩
set_option maxHeartbeats 1000000 in
theorem keeps_neg (a : Option Addr) (len cap : Nat) (stop : Int) (A : Nat → Addr) (w : World) (hE : Errs w A) (hl : ¬ 60 < len) (hs : stop < 0) : Calls Tryd.prog 3 #[.slice a (len : Nat) cap, .int .i64 stop] w fun e w' => e = .returned (.bool true) ∧ Below w.heap.size w w' := by
  have hh := known_any A w hE
  have g1 : decide (60 < (len : Int)) = false := decide_eq_false (by omega)
  have g2 : decide (stop < 0) = true := decide_eq_true hs
  clear hE
  go_enter Tryd.func3, Tryd.ntmps3
  go_wp2_with (go_at_call 4; refine hh.mono ?_; rintro e w1 ⟨rfl, hb1⟩; have HB : Hid (Below w.heap.size w w1) := hb1; clear hh hb1)
  go_ret
  exact ⟨rfl, HB.out⟩
theorem keeps_all (a : Option Addr) (len cap : Nat) (stop : Int) (A : Nat → Addr) (w : World) (hp : IsInts w a len) (hE : Errs w A) : Calls Tryd.prog 3 #[.slice a (len : Nat) cap, .int .i64 stop] w fun e w' => e = .returned (.bool true) ∧ Below w.heap.size w w' := by
  by_cases hl : 60 < len
  · exact keeps_long a len cap stop A w hE hl
  · by_cases hs : stop < 0
    · exact keeps_neg a len cap stop A w hE hl hs
    · obtain ⟨P, hP⟩ := hp
      exact keeps_in a len cap stop P A w hP hE (by omega) (by omega)
end Go.Proofs.YtaipigiinljpkaaDoor
