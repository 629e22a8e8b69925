/- Clients, the document's side: Confirm. -/
import Derived.Test.YtaipigiinljpkaaGreatDoorLd5
namespace Go.Proofs.YtaipigiinljpkaaGreatDoor
open Go Go.RowKit Go.Deep

theorem conf_take {now : Nat} {id : Int} {nm : List UInt8} {L : List Rc} {j : Nat} {x : Rc} (h : L[j]? = some x) : confD now id nm (L.take (j + 1)) = confD now id nm (L.take j) ++ (confX now id nm x).toList := by
  unfold confD
  rw [List.take_add_one, h, List.filterMap_append]
  have e : [x].filterMap (confX now id nm) = (confX now id nm x).toList := by
    rw [List.filterMap_cons]
    cases confX now id nm x <;> rfl
  exact congrArg _ e
theorem gone_take {id : Int} {nm : List UInt8} {L : List Rc} {j : Nat} {x : Rc} (h : L[j]? = some x) : goneD id nm (L.take (j + 1)) = goneX id nm (goneD id nm (L.take j)) x := by
  unfold goneD
  rw [List.take_add_one, h, List.foldl_append]
  rfl
theorem conf_len (now : Nat) (id : Int) (nm : List UInt8) (L : List Rc) (j : Nat) : (confD now id nm (L.take j)).length ≤ j := by
  have h1 := List.length_filterMap_le (confX now id nm) (L.take j)
  rw [List.length_take] at h1
  unfold confD
  omega
def RConfR (w w' : World) (base m last now : Nat) (L : List Rc) (id key : Int) (e : Ending) : Prop :=
  ((∀ x ∈ L, (x.I : Int) ≠ id) ∧ e = .returned (.tuple #[.int .i64 0, .int .i64 5]) ∧ Only [] w w') ∨
  (∃ x ∈ L, (x.I : Int) = id ∧ key ≠ id ∧ e = .returned (.tuple #[.int .i64 0, .int .i64 3]) ∧ Only [] w w') ∨
  (∃ x ∈ L, (x.I : Int) = id ∧ key = id ∧ e = .returned (.tuple #[.int .i64 (goneD id x.s L : Nat), .int .i64 0]) ∧ ∃ v', RlsAt w' base m v' last now (confD now id x.s L) ∧ Only [m] w w' ∧ ∀ b, v'.ownBlock = some b → w.heap.size ≤ b)
set_option maxRecDepth 100000 in
set_option maxHeartbeats 8000000 in
theorem rconf_any (w : World) (base m : Nat) (v : Value) (last now : Nat) (L : List Rc) (id key : Int) (h : RlsAt w base m v last now L) (hl : L.length ≤ 100) (hb : base ≤ w.heap.size) :
    Calls Tryz.prog 10 #[.pointer (some ⟨m, 0, none⟩), .int .i64 id, .int .i64 key] w fun e w' => RConfR w w' base m last now L id key e := by
  obtain ⟨r0, hr0, hy0, hy1, hy2⟩ := infoRc'
  obtain ⟨ad, cap, rfl, hf⟩ := h.own.form
  have H : Hid (RlsAt w base m (.slice ad L.length cap) last now L) := h
  have HF : Hid (∀ W, Only [] w W → W.cell? ⟨m, 0, none⟩ = some (.slice ad L.length cap) ∧ W.cell? ⟨m, 2, none⟩ = some (.int .i64 (now : Nat)) ∧ m < W.heap.size ∧ ∀ j x, L[j]? = some x → ∃ g, ad = some ⟨g, 0, none⟩ ∧ RcIn W g j x) := fun W ho => ⟨(h.only ho).c0, (h.only ho).c2, (h.only ho).lt, fun j x hx => by
    obtain ⟨g, hg, _, h2, hc⟩ := hf j x hx
    exact ⟨g, hg, hc.only ho (by simp)⟩⟩
  have HB : Hid (base ≤ w.heap.size) := hb
  obtain ⟨n, hn⟩ : ∃ n, L.length = n := ⟨_, rfl⟩
  have HN : Hid (L.length = n) := hn
  rw [hn] at HF hl H
  obtain ⟨c0, c2, hml, hce⟩ := HF.out w (Only.refl _ _)
  have HCE : Hid (∀ j x, L[j]? = some x → ∃ g, ad = some ⟨g, 0, none⟩ ∧ RcIn w g j x) := hce
  clear hn hf h hb hce c2
  go_enter Tryz.func10, Tryz.ntmps10
  go_wp2
  go_loop [8, 9] (fun kv i => ∃ j : Nat, i = .int .i64 (j : Nat) ∧ j ≤ n ∧ ((kv = .int .i64 (-1) ∧ ∀ x ∈ L.take j, (x.I : Int) ≠ id) ∨ ∃ (k : Nat) (x : Rc), kv = .int .i64 (k : Nat) ∧ L[k]? = some x ∧ (x.I : Int) = id)) (fun _ i => n - (intOf i).toNat)
  case atStart => exact ⟨0, rfl, Nat.zero_le _, Or.inl ⟨rfl, fun x hx => by simp at hx⟩⟩
  case round =>
    obtain ⟨j, rfl, hj, hk⟩ := hrel
    have HK : Hid ((u8 = .int .i64 (-1) ∧ ∀ x ∈ L.take j, (x.I : Int) ≠ id) ∨ ∃ (k : Nat) (x : Rc), u8 = .int .i64 (k : Nat) ∧ L[k]? = some x ∧ (x.I : Int) = id) := hk
    clear hk
    by_cases hlt : j < n
    · obtain ⟨x, hx⟩ := get_lt HN.out hlt
      obtain ⟨g, rfl, q0, _, _, _⟩ := HCE.out j x hx
      have HX : Hid (L[j]? = some x) := hx
      clear hx
      by_cases hi : (x.I : Int) = id
      · subst hi
        go_wp2
        go_round
        case rel => exact ⟨j + 1, by go_num, by omega, Or.inr ⟨j, x, rfl, HX.out, rfl⟩⟩
        case measure => simp [intOf]; omega
      · have hb : ((x.I : Int) == id) = false := by simpa using hi
        have HS : Hid ((u8 = .int .i64 (-1) ∧ ∀ x ∈ L.take (j + 1), (x.I : Int) ≠ id) ∨ ∃ (k : Nat) (x : Rc), u8 = .int .i64 (k : Nat) ∧ L[k]? = some x ∧ (x.I : Int) = id) := by
          rcases HK.out with ⟨h1, h2⟩ | h1
          · refine Or.inl ⟨h1, fun y hy => ?_⟩
            rw [List.take_add_one, HX.out] at hy
            rcases List.mem_append.1 hy with e | e
            · exact h2 y e
            · simp at e
              rw [e]
              exact hi
          · exact Or.inr h1
        clear hi
        go_wp2
        go_round
        case rel => exact ⟨j + 1, by go_num, by omega, HS.out⟩
        case measure => simp [intOf]; omega
    · obtain rfl : n = j := by omega
      have hj2 : decide ((n : Int) < n) = false := decide_eq_false (by omega)
      rcases HK.out with ⟨rfl, h2⟩ | ⟨k, x, rfl, h1, h2⟩
      · have HD : Hid (∀ x ∈ L, (x.I : Int) ≠ id) := by
          rw [← HN.out, List.take_length] at h2
          exact h2
        clear h2 HK
        go_wp2
        go_ret2
        exact Or.inl ⟨HD.out, rfl, Only.refl _ _⟩
      · have HX : Hid (x ∈ L ∧ (x.I : Int) = id) := ⟨List.mem_of_getElem? h1, h2⟩
        obtain ⟨gk, rfl, _, _, qk, _⟩ := HCE.out k x h1
        have hkl : k < n := by have := (List.getElem?_eq_some_iff.1 h1).1; have := HN.out; omega
        obtain ⟨nm, hnm⟩ : ∃ nm, x.s = nm := ⟨_, rfl⟩
        have HNM : Hid (x.s = nm) := hnm
        rw [hnm] at qk
        clear h1 h2 HK hnm
        by_cases hkey : key = id
        · subst hkey
          go_wp2
          go_loopw [10, 12, 13] (fun gv ov i wq => ∃ j2 : Nat, i = .int .i64 (j2 : Nat) ∧ j2 ≤ n ∧ gv = .int .i64 (goneD key nm (L.take j2) : Nat) ∧ Rcs wq w.heap.size ov (confD now key nm (L.take j2)) ∧ Only [] w wq) (fun _ _ i _ => n - (intOf i).toNat)
          case atStart => exact ⟨0, rfl, Nat.zero_le _, rfl, Rcs.nil _ _, Only.refl _ _⟩
          case round =>
            obtain ⟨j2, rfl, hj3, rfl, hrc, hO⟩ := hrel
            clear c0 hml qk
            obtain ⟨c0, c2, hml, hce⟩ := HF.out wr hO
            have HRC : Hid (Rcs wr w.heap.size u12 (confD now key nm (L.take j2))) := hrc
            have HO : Hid (Only [] w wr) := hO
            by_cases hlt2 : j2 < n
            · obtain ⟨y, hy⟩ := get_lt HN.out hlt2
              obtain ⟨g, hg, q0, q1, q2, q3⟩ := hce j2 y hy
              obtain rfl : gk = g := by simpa using hg
              have HTC0 : Hid (confD now key nm (L.take (j2 + 1)) = confD now key nm (L.take j2) ++ (confX now key nm y).toList) := conf_take hy
              have HTG0 : Hid (goneD key nm (L.take (j2 + 1)) = goneX key nm (goneD key nm (L.take j2)) y) := gone_take hy
              clear hrc hO hce hy hg
              by_cases hi : (y.I : Int) = key
              · subst hi
                have HTC : Hid (confD now (y.I : Int) nm (L.take (j2 + 1)) = confD now (y.I : Int) nm (L.take j2) ++ [⟨y.I, now, y.s, true⟩]) := by show _ = _; rw [HTC0.out]; unfold confX; rw [if_pos rfl]; rfl
                have HTG : Hid (goneD (y.I : Int) nm (L.take (j2 + 1)) = goneD (y.I : Int) nm (L.take j2)) := by show _ = _; rw [HTG0.out]; unfold goneX; rw [if_pos rfl]
                clear HTC0 HTG0
                obtain ⟨dn, hdn⟩ : ∃ dn, (confD now (y.I : Int) nm (L.take j2)).length = dn := ⟨_, rfl⟩
                have HDN : Hid ((confD now (y.I : Int) nm (L.take j2)).length = dn) := hdn
                have hdb : dn ≤ 100 := by have := conf_len now (y.I : Int) nm L j2; omega
                have HBX : Hid (Only [] wr (wr.alloc (.cells #[.int .i64 ((⟨y.I, now, y.s, true⟩ : Rc).I : Nat), .int .i64 ((⟨y.I, now, y.s, true⟩ : Rc).S : Nat), .string (bs (⟨y.I, now, y.s, true⟩ : Rc).s), .bool (⟨y.I, now, y.s, true⟩ : Rc).c] 67))) := (Only.refl [] wr).alloc _
                have HROW : Hid ((wr.alloc (.cells #[.int .i64 ((⟨y.I, now, y.s, true⟩ : Rc).I : Nat), .int .i64 ((⟨y.I, now, y.s, true⟩ : Rc).S : Nat), .string (bs (⟨y.I, now, y.s, true⟩ : Rc).s), .bool (⟨y.I, now, y.s, true⟩ : Rc).c] 67)).ownsRow w.heap.size 67 4 u12 dn (rowOf rcC (confD now (y.I : Int) nm (L.take j2)))) := Rcs.own HDN.out (HRC.out.only HBX.out (fun _ _ => by simp))
                clear hdn
                go_wp2_with (first
                  | (at_builtin; refine wpList_append_lies _ rfl (.tmp 84) (.tmp 86) 27 rfl w.heap.size 67 r0 _ 4 40 undRcs hr0 hy0 hy1 hy2 rfl (by decide) u12 dn _ rfl (World.ownsRow.alloc HROW.out _) ⟨wr.heap.size + 1, 0, none⟩ 1 1 (rcC (⟨y.I, now, y.s, true⟩ : Rc)) rfl rfl (by have hnw := rc_news (w := (wr.alloc (.cells #[.int .i64 ((⟨y.I, now, y.s, true⟩ : Rc).I : Nat), .int .i64 ((⟨y.I, now, y.s, true⟩ : Rc).S : Nat), .string (bs (⟨y.I, now, y.s, true⟩ : Rc).s), .bool (⟨y.I, now, y.s, true⟩ : Rc).c] 67))) (⟨y.I, now, y.s, true⟩ : Rc) 67; rw [World.size_alloc] at hnw; exact hnw) (rcC_one (⟨y.I, now, y.s, true⟩ : Rc)) (by decide) (by unfold maxLen; omega) (by omega) (by rw [World.size_alloc, World.size_alloc]; have := HO.out.size; omega) (wr.heap.size + 1 + 1) (by simp) ?_; intro g5 c5 w5 hown5 hgr5 hat5 hlt5; have HV5 : Hid (Rcs w5 w.heap.size (.slice (some ⟨g5, 0, none⟩) (dn + 1) c5) (confD now (y.I : Int) nm (L.take j2) ++ [(⟨y.I, now, y.s, true⟩ : Rc)])) := Rcs.snoc HDN.out hown5; have HO5 : Hid (Only [] w w5) := ((only_nil HO.out HBX.out).alloc _).grown hgr5 (fun k hk => Or.inr (own_block HRC.out hk).1); clear hown5 hgr5 hat5 hlt5)
                  | go_in)
                go_roundw
                case rel => exact ⟨j2 + 1, by go_num, by omega, by rw [HTG.out], by rw [HTC.out]; exact HV5.out, HO5.out⟩
                case measure => simp [intOf]; omega
              · have hb : ((y.I : Int) == key) = false := by simpa using hi
                by_cases hs : y.s = nm
                · have hq : ((bs y.s).toList == (bs nm).toList) = true := by rw [hs]; simp
                  obtain ⟨yI, yS, ys, yc⟩ := y
                  cases yc with
                  | true =>
                    have HTC : Hid (confD now key nm (L.take (j2 + 1)) = confD now key nm (L.take j2)) := by show _ = _; rw [HTC0.out]; unfold confX; rw [if_neg hi, if_pos ⟨hs, rfl⟩]; simp
                    have HTG : Hid (goneD key nm (L.take (j2 + 1)) = yI) := by show _ = _; rw [HTG0.out]; unfold goneX; rw [if_neg hi, if_pos ⟨hs, rfl⟩]
                    clear HTC0 HTG0 hs hi
                    go_wp2
                    go_roundw
                    case rel => exact ⟨j2 + 1, by go_num, by omega, by rw [HTG.out], by rw [HTC.out]; exact HRC.out.only ((Only.refl [] wr).alloc _) (fun _ _ => by simp), HO.out.alloc _⟩
                    case measure => simp [intOf]; omega
                  | false =>
                    have HTC : Hid (confD now key nm (L.take (j2 + 1)) = confD now key nm (L.take j2) ++ [⟨yI, yS, ys, false⟩]) := by show _ = _; rw [HTC0.out]; unfold confX; rw [if_neg hi, if_neg (fun h => by cases h.2)]; rfl
                    have HTG : Hid (goneD key nm (L.take (j2 + 1)) = goneD key nm (L.take j2)) := by show _ = _; rw [HTG0.out]; unfold goneX; rw [if_neg hi, if_neg (fun h => by cases h.2)]
                    clear HTC0 HTG0 hs hi
                    obtain ⟨dn, hdn⟩ : ∃ dn, (confD now key nm (L.take j2)).length = dn := ⟨_, rfl⟩
                    have HDN : Hid ((confD now key nm (L.take j2)).length = dn) := hdn
                    have hdb : dn ≤ 100 := by have := conf_len now key nm L j2; omega
                    have HBX : Hid (Only [] wr (wr.alloc (.cells #[.int .i64 ((⟨yI, yS, ys, false⟩ : Rc).I : Nat), .int .i64 ((⟨yI, yS, ys, false⟩ : Rc).S : Nat), .string (bs (⟨yI, yS, ys, false⟩ : Rc).s), .bool (⟨yI, yS, ys, false⟩ : Rc).c] 67))) := (Only.refl [] wr).alloc _
                    have HROW : Hid ((wr.alloc (.cells #[.int .i64 ((⟨yI, yS, ys, false⟩ : Rc).I : Nat), .int .i64 ((⟨yI, yS, ys, false⟩ : Rc).S : Nat), .string (bs (⟨yI, yS, ys, false⟩ : Rc).s), .bool (⟨yI, yS, ys, false⟩ : Rc).c] 67)).ownsRow w.heap.size 67 4 u12 dn (rowOf rcC (confD now key nm (L.take j2)))) := Rcs.own HDN.out (HRC.out.only HBX.out (fun _ _ => by simp))
                    clear hdn
                    go_wp2_with (first
                      | (at_builtin; refine wpList_append_lies _ rfl (.tmp 84) (.tmp 86) 27 rfl w.heap.size 67 r0 _ 4 40 undRcs hr0 hy0 hy1 hy2 rfl (by decide) u12 dn _ rfl (World.ownsRow.alloc HROW.out _) ⟨wr.heap.size + 1, 0, none⟩ 1 1 (rcC (⟨yI, yS, ys, false⟩ : Rc)) rfl rfl (by have hnw := rc_news (w := (wr.alloc (.cells #[.int .i64 ((⟨yI, yS, ys, false⟩ : Rc).I : Nat), .int .i64 ((⟨yI, yS, ys, false⟩ : Rc).S : Nat), .string (bs (⟨yI, yS, ys, false⟩ : Rc).s), .bool (⟨yI, yS, ys, false⟩ : Rc).c] 67))) (⟨yI, yS, ys, false⟩ : Rc) 67; rw [World.size_alloc] at hnw; exact hnw) (rcC_one (⟨yI, yS, ys, false⟩ : Rc)) (by decide) (by unfold maxLen; omega) (by omega) (by rw [World.size_alloc, World.size_alloc]; have := HO.out.size; omega) (wr.heap.size + 1 + 1) (by simp) ?_; intro g5 c5 w5 hown5 hgr5 hat5 hlt5; have HV5 : Hid (Rcs w5 w.heap.size (.slice (some ⟨g5, 0, none⟩) (dn + 1) c5) (confD now key nm (L.take j2) ++ [(⟨yI, yS, ys, false⟩ : Rc)])) := Rcs.snoc HDN.out hown5; have HO5 : Hid (Only [] w w5) := ((only_nil HO.out HBX.out).alloc _).grown hgr5 (fun k hk => Or.inr (own_block HRC.out hk).1); clear hown5 hgr5 hat5 hlt5)
                      | go_in)
                    go_roundw
                    case rel => exact ⟨j2 + 1, by go_num, by omega, by rw [HTG.out], by rw [HTC.out]; exact HV5.out, HO5.out⟩
                    case measure => simp [intOf]; omega
                · have hq : ((bs y.s).toList == (bs nm).toList) = false := by rw [bs_toList, bs_toList]; simpa using hs
                  have HTC : Hid (confD now key nm (L.take (j2 + 1)) = confD now key nm (L.take j2) ++ [y]) := by show _ = _; rw [HTC0.out]; unfold confX; rw [if_neg hi, if_neg (fun h => hs h.1)]; rfl
                  have HTG : Hid (goneD key nm (L.take (j2 + 1)) = goneD key nm (L.take j2)) := by show _ = _; rw [HTG0.out]; unfold goneX; rw [if_neg hi, if_neg (fun h => hs h.1)]
                  clear HTC0 HTG0 hs hi
                  obtain ⟨dn, hdn⟩ : ∃ dn, (confD now key nm (L.take j2)).length = dn := ⟨_, rfl⟩
                  have HDN : Hid ((confD now key nm (L.take j2)).length = dn) := hdn
                  have hdb : dn ≤ 100 := by have := conf_len now key nm L j2; omega
                  have HBX : Hid (Only [] wr (wr.alloc (.cells #[.int .i64 (y.I : Nat), .int .i64 (y.S : Nat), .string (bs y.s), .bool y.c] 67))) := (Only.refl [] wr).alloc _
                  have HROW : Hid ((wr.alloc (.cells #[.int .i64 (y.I : Nat), .int .i64 (y.S : Nat), .string (bs y.s), .bool y.c] 67)).ownsRow w.heap.size 67 4 u12 dn (rowOf rcC (confD now key nm (L.take j2)))) := Rcs.own HDN.out (HRC.out.only HBX.out (fun _ _ => by simp))
                  clear hdn
                  go_wp2_with (first
                    | (at_builtin; refine wpList_append_lies _ rfl (.tmp 84) (.tmp 86) 27 rfl w.heap.size 67 r0 _ 4 40 undRcs hr0 hy0 hy1 hy2 rfl (by decide) u12 dn _ rfl (World.ownsRow.alloc HROW.out _) ⟨wr.heap.size + 1, 0, none⟩ 1 1 (rcC y) rfl rfl (by have hnw := rc_news (w := (wr.alloc (.cells #[.int .i64 (y.I : Nat), .int .i64 (y.S : Nat), .string (bs y.s), .bool y.c] 67))) y 67; rw [World.size_alloc] at hnw; exact hnw) (rcC_one y) (by decide) (by unfold maxLen; omega) (by omega) (by rw [World.size_alloc, World.size_alloc]; have := HO.out.size; omega) (wr.heap.size + 1 + 1) (by simp) ?_; intro g5 c5 w5 hown5 hgr5 hat5 hlt5; have HV5 : Hid (Rcs w5 w.heap.size (.slice (some ⟨g5, 0, none⟩) (dn + 1) c5) (confD now key nm (L.take j2) ++ [y])) := Rcs.snoc HDN.out hown5; have HO5 : Hid (Only [] w w5) := ((only_nil HO.out HBX.out).alloc _).grown hgr5 (fun k hk => Or.inr (own_block HRC.out hk).1); clear hown5 hgr5 hat5 hlt5)
                    | go_in)
                  go_roundw
                  case rel => exact ⟨j2 + 1, by go_num, by omega, by rw [HTG.out], by rw [HTC.out]; exact HV5.out, HO5.out⟩
                  case measure => simp [intOf]; omega
            · obtain rfl : n = j2 := by omega
              have hj5 : decide ((n : Int) < n) = false := decide_eq_false (by omega)
              have hfull : L.take n = L := by rw [← HN.out, List.take_length]
              rw [hfull] at hrc
              have HE2 : Hid (Rcs wr w.heap.size u12 (confD now key nm L)) := hrc
              have HFU : Hid (L.take n = L) := hfull
              have hT := H.out.only HO.out
              have f0 := hT.fr 0
              have HT5 : Hid (wr.heap[m]? = some (.cells #[.slice (some ⟨gk, 0, none⟩) n cap, .int .i64 (last : Nat), .int .i64 (now : Nat)] 29 (0, 0))) := hT.tab
              obtain ⟨ad2, cp2, rfl, _⟩ := HE2.out.form
              generalize hln : (confD now key nm L).length = ln at HRC HE2 ⊢
              clear hrc hO hce hT hfull c2
              go_wp2
              go_ret2
              have hS : Only [m] wr (wr.setCell ⟨m, 0, none⟩ (.slice ad2 ln cp2)) := (Only.refl [m] wr).setCell (Or.inl (by simp)) _
              have hml0 := H.out.lt
              have hnx := HNM.out
              subst hnx
              refine Or.inr (Or.inr ⟨x, HX.out.1, HX.out.2, rfl, by rw [HFU.out]; rfl, .slice ad2 ln cp2, ⟨heap_setCell_same wr m 0 _ _ _ HT5.out, ?_⟩, (HO.out.mono (fun _ hk => by cases hk)).trans hS (fun b hb => Or.inl hb), fun b hb => (own_block HE2.out hb).1⟩)
              refine (HE2.out.only hS (fun b hb => ?_)).low HB.out
              have := (own_block HE2.out hb).1
              simp
              omega
        · have hkk : (key == id) = false := by simpa using hkey
          go_wp2
          go_ret2
          exact Or.inr (Or.inl ⟨x, HX.out.1, HX.out.2, hkey, rfl, Only.refl _ _⟩)
end Go.Proofs.YtaipigiinljpkaaGreatDoor
