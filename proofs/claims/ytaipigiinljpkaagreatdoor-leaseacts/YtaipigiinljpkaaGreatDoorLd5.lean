/- Clients, the document's side: Index, Register. -/
import Derived.Test.YtaipigiinljpkaaGreatDoorLd4
import Derived.Test.YtaipigiinljpkaaGreatDoorM1
namespace Go.Proofs.YtaipigiinljpkaaGreatDoor
open Go Go.RowKit Go.Deep

/-- Texts in a row of one's own. -/
def Strs (w : World) (base : Nat) (v : Value) (ns : List (List UInt8)) : Prop := w.ownsRow base 9 1 v ns.length (ns.map (fun s => Value.string (bs s)))
theorem Strs.only {w w' : World} {base : Nat} {v : Value} {ns : List (List UInt8)} {K : List Nat} (h : Strs w base v ns) (ho : Only K w w') (hn : ∀ k, v.ownBlock = some k → k ∉ K) : Strs w' base v ns := ho.owns h hn
theorem Strs.nil (w : World) (base : Nat) : Strs w base (.slice none 0 0) [] := World.ownsRow_nil _ _ _ _
theorem Strs.snoc {w : World} {base n : Nat} {v : Value} {ns : List (List UInt8)} {x : List UInt8} (hn : ns.length = n) (h : w.ownsRow base 9 1 v (n + 1) (ns.map (fun s => Value.string (bs s)) ++ [.string (bs x)])) : Strs w base v (ns ++ [x]) := by
  unfold Strs
  rw [List.length_append, hn, List.map_append]
  exact h
theorem Strs.own {w : World} {base n : Nat} {v : Value} {ns : List (List UInt8)} (hn : ns.length = n) (h : Strs w base v ns) : w.ownsRow base 9 1 v n (ns.map (fun s => Value.string (bs s))) := by
  unfold Strs at h
  rw [hn] at h
  exact h
theorem infoStr : (Tryz.prog.info? 9).map (fun i => (i.zero, i.size, i.bytes)) = some (some (.string ⟨#[]⟩), 1, 16) := by kernel_rfl
theorem infoStr' : ∃ i, Tryz.prog.info? 9 = some i ∧ i.zero = some (.string ⟨#[]⟩) ∧ i.size = 1 ∧ i.bytes = 16 := by
  obtain ⟨i, hi, hz⟩ := Option.map_eq_some_iff.1 infoStr
  simp only [Prod.mk.injEq] at hz
  exact ⟨i, hi, hz⟩
theorem undStrs : Tryz.prog.underlying 64 = some (.slice 9) := by kernel_rfl
theorem bs_toList (l : List UInt8) : (bs l).toList = l := by rw [Lib.toList_data, bs_data]
theorem str_news {w : World} (x : List UInt8) (ty : TypeId) : ∀ (r : Nat) (q : Value), ([.string (bs x)] : List Value)[r]? = some q → (w.alloc (.cells #[.string (bs x)] ty)).cell? ((⟨w.heap.size, 0, none⟩ : Addr).add r) = some q := World.news_of_block (w := w.alloc (.cells #[.string (bs x)] ty)) (heap_alloc_last w _)
set_option maxRecDepth 100000 in
set_option maxHeartbeats 2000000 in
theorem index_any (w : World) (base : Nat) (v : Value) (ns : List (List UInt8)) (x : List UInt8) (h : Strs w base v ns) (hl : ns.length ≤ 200) :
    Calls Tryz.prog 23 #[v, .string (bs x)] w fun e w' => ((x ∈ ns ∧ ∃ k : Nat, e = .returned (.int .i64 (k : Nat))) ∨ (x ∉ ns ∧ e = .returned (.int .i64 (-1)))) ∧ w = w' := by
  obtain ⟨ad, cap, rfl, hf⟩ := row_ones h
  have HF : Hid (∀ j s, ns[j]? = some s → ∃ g, ad = some ⟨g, 0, none⟩ ∧ base ≤ g ∧ g < w.heap.size ∧ w.cell? ⟨g, j, none⟩ = some (.string (bs s))) := hf
  obtain ⟨n, hn⟩ : ∃ n, ns.length = n := ⟨_, rfl⟩
  have HN : Hid (ns.length = n) := hn
  rw [hn] at hl ⊢
  clear hf hn h
  go_enter Tryz.func23, Tryz.ntmps23
  go_wp2
  go_loop [5] (fun i => ∃ j : Nat, i = .int .i64 (j : Nat) ∧ j ≤ n ∧ x ∉ ns.take j) (fun i => n - (intOf i).toNat)
  case atStart => exact ⟨0, rfl, Nat.zero_le _, by simp⟩
  case round =>
    obtain ⟨j, rfl, hj, hno⟩ := hrel
    have HNO : Hid (x ∉ ns.take j) := hno
    clear hno
    by_cases hlt : j < n
    · obtain ⟨s, hs⟩ := get_lt HN.out hlt
      obtain ⟨g, rfl, _, _, q⟩ := HF.out j s hs
      have HS : Hid (ns[j]? = some s) := hs
      clear hs
      by_cases he : s = x
      · have hq : ((bs s).toList == (bs x).toList) = true := by rw [he]; simp
        have HM : Hid (x ∈ ns) := by show _ ∈ _; rw [← he]; exact List.mem_of_getElem? HS.out
        clear he
        go_wp2
        go_ret
        exact ⟨Or.inl ⟨HM.out, j, rfl⟩, rfl⟩
      · have hq : ((bs s).toList == (bs x).toList) = false := by rw [bs_toList, bs_toList]; simpa using he
        have HM : Hid (x ∉ ns.take (j + 1)) := by
          show _ ∉ _
          rw [List.take_add_one, HS.out]
          intro hm
          rcases List.mem_append.1 hm with e | e
          · exact HNO.out e
          · simp at e
            exact he e.symm
        clear he
        go_wp2
        go_round
        case rel => exact ⟨j + 1, by go_num, by omega, HM.out⟩
        case measure => simp [intOf]; omega
    · obtain rfl : j = n := by omega
      have HD : Hid (x ∉ ns) := by
        have := HNO.out
        rw [← HN.out, List.take_length] at this
        exact this
      go_wp2
      go_ret
      exact ⟨Or.inr ⟨HD.out, rfl⟩, rfl⟩
theorem namesD_len (L : List Rc) (j : Nat) : (namesD (L.take j)).length ≤ j := by
  have key : ∀ (M : List Rc) (acc : List (List UInt8)), (M.foldl (fun acc x => addN acc x.s) acc).length ≤ acc.length + M.length := fun M => by
    induction M with
    | nil => intro acc; exact Nat.le_refl _
    | cons y M ih =>
      intro acc
      rw [List.foldl_cons]
      have h1 := ih (addN acc y.s)
      have h2 : (addN acc y.s).length ≤ acc.length + 1 := by
        unfold addN
        split
        · exact Nat.le_succ _
        · simp
      rw [List.length_cons]
      omega
  have := key (L.take j) []
  unfold namesD
  rw [List.length_take] at this
  simp at this
  omega
def RRegR (w w' : World) (base m last now : Nat) (L : List Rc) (s : ByteArray) (e : Ending) : Prop :=
  (¬ OkN s ∧ e = .returned (.tuple #[.int .i64 0, .int .i64 4]) ∧ Only [] w w') ∨
  (OkN s ∧ s.data.toList ∉ namesD L ∧ 12 ≤ (namesD L).length ∧ e = .returned (.tuple #[.int .i64 0, .int .i64 9]) ∧ Only [] w w') ∨
  (OkN s ∧ (s.data.toList ∈ namesD L ∨ (namesD L).length < 12) ∧ e = .returned (.tuple #[.int .i64 ((last + 1 : Nat) : Int), .int .i64 0]) ∧ ∃ v', RlsAt w' base m v' (last + 1) now (regD last L s.data.toList) ∧ Only [m] w w' ∧ ∀ b, v'.ownBlock = some b → w.heap.size ≤ b)
set_option maxRecDepth 100000 in
set_option maxHeartbeats 8000000 in
theorem rreg_any (w : World) (base m : Nat) (v : Value) (last now : Nat) (L : List Rc) (s : ByteArray) (h : RlsAt w base m v last now L) (hl : L.length ≤ 100) (hlast : last ≤ 1000000) (hb : base ≤ w.heap.size) :
    Calls Tryz.prog 7 #[.pointer (some ⟨m, 0, none⟩), .string s] w fun e w' => RRegR w w' base m last now L s e := by
  have hne := nameError_any s w
  obtain ⟨r0, hr0, hy0, hy1, hy2⟩ := infoRc'
  obtain ⟨i0, hi0, hz0, hz1, hz2⟩ := infoStr'
  obtain ⟨ad, cap, rfl, hf⟩ := h.own.form
  have H : Hid (RlsAt w base m (.slice ad L.length cap) last now L) := h
  have HF : Hid (∀ W, Only [] w W → W.cell? ⟨m, 0, none⟩ = some (.slice ad L.length cap) ∧ m < W.heap.size ∧ ∀ j x, L[j]? = some x → ∃ g, ad = some ⟨g, 0, none⟩ ∧ RcIn W g j x) := fun W ho => ⟨(h.only ho).c0, (h.only ho).lt, fun j x hx => by
    obtain ⟨g, hg, _, h2, hc⟩ := hf j x hx
    exact ⟨g, hg, hc.only ho (by simp)⟩⟩
  have HB : Hid (base ≤ w.heap.size) := hb
  obtain ⟨n, hn⟩ : ∃ n, L.length = n := ⟨_, rfl⟩
  have HN : Hid (L.length = n) := hn
  rw [hn] at HF hl H
  clear hn hf h hb
  go_enter Tryz.func7, Tryz.ntmps7
  go_wp2_with fail
  refine hne.mono ?_
  rintro e w2 ⟨⟨hok, rfl⟩ | ⟨hok, rfl⟩, rfl⟩
  · have HOK : Hid (OkN s) := hok
    clear hok hne
    go_wp2
    go_loopw [6, 7] (fun nv i wr => ∃ j : Nat, i = .int .i64 (j : Nat) ∧ j ≤ n ∧ Strs wr w.heap.size nv (namesD (L.take j)) ∧ Only [] w wr) (fun _ i _ => n - (intOf i).toNat)
    case atStart => exact ⟨0, rfl, Nat.zero_le _, Strs.nil _ _, Only.refl _ _⟩
    case round =>
      obtain ⟨j, rfl, hj, hst, hO⟩ := hrel
      obtain ⟨c0, hml, hce⟩ := HF.out wr hO
      have HST : Hid (Strs wr w.heap.size u6 (namesD (L.take j))) := hst
      have HO : Hid (Only [] w wr) := hO
      have hnl := namesD_len L j
      by_cases hlt : j < n
      · obtain ⟨x, hx⟩ := get_lt HN.out hlt
        obtain ⟨g, rfl, _, _, q2, _⟩ := hce j x hx
        have hidx := index_any wr w.heap.size u6 _ x.s hst (by omega)
        have HTK : Hid (namesD (L.take (j + 1)) = addN (namesD (L.take j)) x.s) := namesD_take L j hx
        clear hst hO hce hx
        go_wp2_with fail
        refine hidx.mono ?_
        rintro e w2 ⟨⟨hin, k, rfl⟩ | ⟨hin, rfl⟩, rfl⟩
        · have HI : Hid (namesD (L.take (j + 1)) = namesD (L.take j)) := by show _ = _; rw [HTK.out]; unfold addN; rw [if_pos hin]
          clear hin hidx
          go_wp2
          go_roundw
          case rel => exact ⟨j + 1, by go_num, by omega, by rw [HI.out]; exact HST.out, HO.out⟩
          case measure => simp [intOf]; omega
        · have HI : Hid (namesD (L.take (j + 1)) = namesD (L.take j) ++ [x.s]) := by show _ = _; rw [HTK.out]; unfold addN; rw [if_neg hin]
          obtain ⟨dn, hdn⟩ : ∃ dn, (namesD (L.take j)).length = dn := ⟨_, rfl⟩
          have HDN : Hid ((namesD (L.take j)).length = dn) := hdn
          have hdb : dn ≤ 100 := by omega
          have HROW : Hid (wr.ownsRow w.heap.size 9 1 u6 dn ((namesD (L.take j)).map (fun s => Value.string (bs s)))) := Strs.own HDN.out HST.out
          clear hin hidx hdn hnl
          go_wp2_with (first
            | (at_builtin; refine wpList_append_lies _ rfl (.tmp 33) (.tmp 42) 64 rfl w.heap.size 9 i0 _ 1 16 undStrs hi0 hz0 hz1 hz2 rfl (by decide) u6 dn _ rfl (World.ownsRow.alloc HROW.out _) ⟨wr.heap.size, 0, none⟩ 1 1 [.string (bs x.s)] rfl rfl (str_news _ _) (by intro u hu; rw [List.mem_singleton.1 hu]; rfl) (by decide) (by unfold maxLen; omega) (by omega) (by rw [World.size_alloc]; have := HO.out.size; omega) (wr.heap.size + 1) (by simp) ?_; intro g5 c5 w5 hown5 hgr5 hat5 hlt5; have HV5 : Hid (Strs w5 w.heap.size (.slice (some ⟨g5, 0, none⟩) (dn + 1) c5) (namesD (L.take j) ++ [x.s])) := Strs.snoc HDN.out hown5; have HG5 : Hid ((wr.alloc (.cells #[.string (bs x.s)] 9)).grownBy w5 u6.ownBlock) := hgr5; clear hown5 hgr5 hat5 hlt5)
            | go_in)
          go_roundw
          case rel => exact ⟨j + 1, by go_num, by omega, by rw [HI.out]; exact HV5.out, (HO.out.alloc _).grown HG5.out (fun k hk => Or.inr (own_block HST.out hk).1)⟩
          case measure => simp [intOf]; omega
      · obtain rfl : n = j := by omega
        have hj2 : decide ((n : Int) < n) = false := decide_eq_false (by omega)
        have HE : Hid (Strs wr w.heap.size u6 (namesD L)) := by
          have := HST.out
          rw [← HN.out, List.take_length] at this
          exact this
        have hnl2 : (namesD L).length ≤ 100 := by
          have := namesD_len L n
          rw [← HN.out, List.take_length] at this
          have := HN.out
          omega
        have hidx := index_any wr w.heap.size u6 _ s.data.toList HE.out (by omega)
        rw [bs_self] at hidx
        obtain ⟨ad6, cp6, rfl, _⟩ := row_ones HE.out
        generalize hln : (namesD L).length = ln at *
        clear hst hO hce hnl HST
        go_wp2_with fail
        refine hidx.mono ?_
        rintro e w2 ⟨⟨hin, k, rfl⟩ | ⟨hin, rfl⟩, rfl⟩
        · have HR : Hid (s.data.toList ∈ namesD L ∨ (namesD L).length < 12) := Or.inl hin
          clear hin hidx
          go_wp2
          go_loopw [8, 9] (fun ov i wq => ∃ j2 : Nat, i = .int .i64 (j2 : Nat) ∧ j2 ≤ n ∧ Rcs wq w.heap.size ov ((L.take j2).filter (fun x => !(x.s == s.data.toList) || x.c)) ∧ Only [] w wq) (fun _ i _ => n - (intOf i).toNat)
          case atStart => exact ⟨0, rfl, Nat.zero_le _, Rcs.nil _ _, HO.out⟩
          case round =>
            obtain ⟨j2, rfl, hj3, hrc, hO⟩ := hrel
            clear c0 hml
            obtain ⟨c0, hml, hce⟩ := HF.out wr hO
            have HRC : Hid (Rcs wr w.heap.size u8 ((L.take j2).filter (fun x => !(x.s == s.data.toList) || x.c))) := hrc
            have HO : Hid (Only [] w wr) := hO
            by_cases hlt2 : j2 < n
            · obtain ⟨x, hx⟩ := get_lt HN.out hlt2
              obtain ⟨g, rfl, q0, q1, q2, q3⟩ := hce j2 x hx
              have HTK0 : Hid ((L.take (j2 + 1)).filter (fun x => !(x.s == s.data.toList) || x.c) = if (!(x.s == s.data.toList) || x.c) then (L.take j2).filter (fun x => !(x.s == s.data.toList) || x.c) ++ [x] else (L.take j2).filter (fun x => !(x.s == s.data.toList) || x.c)) := rcs_take (p := fun x => !(x.s == s.data.toList) || x.c) hx
              clear hrc hO hce hx
              by_cases hxs : x.s = s.data.toList
              · have hq : ((bs x.s).toList == s.toList) = true := by rw [bs_toList, Lib.toList_data, hxs]; simp
                cases hc : x.c with
                | false =>
                  have HTK : Hid ((L.take (j2 + 1)).filter (fun x => !(x.s == s.data.toList) || x.c) = (L.take j2).filter (fun x => !(x.s == s.data.toList) || x.c)) := by show _ = _; rw [HTK0.out, hxs, hc]; simp
                  rw [hc] at q3
                  clear hc hxs HTK0
                  go_wp2
                  go_roundw
                  case rel => exact ⟨j2 + 1, by go_num, by omega, by rw [HTK.out]; exact HRC.out, HO.out⟩
                  case measure => simp [intOf]; omega
                | true =>
                  have HTK : Hid ((L.take (j2 + 1)).filter (fun x => !(x.s == s.data.toList) || x.c) = (L.take j2).filter (fun x => !(x.s == s.data.toList) || x.c) ++ [x]) := by show _ = _; rw [HTK0.out, hc]; simp
                  have q3' : wr.cell? ⟨g, j2 * 4 + 3, none⟩ = some (.bool true) := by rw [← hc]; exact q3
                  have HC : Hid (x.c = true) := hc
                  obtain ⟨xI, xS, xs, xc⟩ := x
                  obtain rfl : xc = true := hc
                  clear hxs HTK0 q3'
                  obtain ⟨dn, hdn⟩ : ∃ dn, ((L.take j2).filter (fun x => !(x.s == s.data.toList) || x.c)).length = dn := ⟨_, rfl⟩
                  have HDN : Hid (((L.take j2).filter (fun x => !(x.s == s.data.toList) || x.c)).length = dn) := hdn
                  have hdb : dn ≤ 100 := by have := rcs_len (fun x => !(x.s == s.data.toList) || x.c) L j2; omega
                  have HROW : Hid (wr.ownsRow w.heap.size 67 4 u8 dn (rowOf rcC ((L.take j2).filter (fun x => !(x.s == s.data.toList) || x.c)))) := Rcs.own HDN.out HRC.out
                  clear hdn
                  go_wp2_with (first
                    | (at_builtin; refine wpList_append_lies _ rfl (.tmp 82) (.tmp 90) 27 rfl w.heap.size 67 r0 _ 4 40 undRcs hr0 hy0 hy1 hy2 rfl (by decide) u8 dn _ rfl (World.ownsRow.alloc HROW.out _) ⟨wr.heap.size, 0, none⟩ 1 1 (rcC (⟨xI, xS, xs, true⟩ : Rc)) rfl rfl (rc_news _ _) (rcC_one (⟨xI, xS, xs, true⟩ : Rc)) (by decide) (by unfold maxLen; omega) (by omega) (by rw [World.size_alloc]; have := HO.out.size; omega) (wr.heap.size + 1) (by simp) ?_; intro g5 c5 w5 hown5 hgr5 hat5 hlt5; have HV5 : Hid (Rcs w5 w.heap.size (.slice (some ⟨g5, 0, none⟩) (dn + 1) c5) ((L.take j2).filter (fun x => !(x.s == s.data.toList) || x.c) ++ [(⟨xI, xS, xs, true⟩ : Rc)])) := Rcs.snoc HDN.out hown5; have HG5 : Hid ((wr.alloc (.cells #[.int .i64 ((⟨xI, xS, xs, true⟩ : Rc).I : Nat), .int .i64 ((⟨xI, xS, xs, true⟩ : Rc).S : Nat), .string (bs (⟨xI, xS, xs, true⟩ : Rc).s), .bool (⟨xI, xS, xs, true⟩ : Rc).c] 67)).grownBy w5 u8.ownBlock) := hgr5; clear hown5 hgr5 hat5 hlt5)
                    | go_in)
                  go_roundw
                  case rel => exact ⟨j2 + 1, by go_num, by omega, by rw [HTK.out]; exact HV5.out, (HO.out.alloc _).grown HG5.out (fun k hk => Or.inr (own_block HRC.out hk).1)⟩
                  case measure => simp [intOf]; omega
              · have hq : ((bs x.s).toList == s.toList) = false := by rw [bs_toList, Lib.toList_data]; simpa using hxs
                have HTK : Hid ((L.take (j2 + 1)).filter (fun x => !(x.s == s.data.toList) || x.c) = (L.take j2).filter (fun x => !(x.s == s.data.toList) || x.c) ++ [x]) := by show _ = _; rw [HTK0.out]; simp [hxs]
                clear hxs HTK0
                obtain ⟨dn, hdn⟩ : ∃ dn, ((L.take j2).filter (fun x => !(x.s == s.data.toList) || x.c)).length = dn := ⟨_, rfl⟩
                have HDN : Hid (((L.take j2).filter (fun x => !(x.s == s.data.toList) || x.c)).length = dn) := hdn
                have hdb : dn ≤ 100 := by have := rcs_len (fun x => !(x.s == s.data.toList) || x.c) L j2; omega
                have HROW : Hid (wr.ownsRow w.heap.size 67 4 u8 dn (rowOf rcC ((L.take j2).filter (fun x => !(x.s == s.data.toList) || x.c)))) := Rcs.own HDN.out HRC.out
                clear hdn
                go_wp2_with (first
                  | (at_builtin; refine wpList_append_lies _ rfl (.tmp 82) (.tmp 90) 27 rfl w.heap.size 67 r0 _ 4 40 undRcs hr0 hy0 hy1 hy2 rfl (by decide) u8 dn _ rfl (World.ownsRow.alloc HROW.out _) ⟨wr.heap.size, 0, none⟩ 1 1 (rcC x) rfl rfl (rc_news _ _) (rcC_one x) (by decide) (by unfold maxLen; omega) (by omega) (by rw [World.size_alloc]; have := HO.out.size; omega) (wr.heap.size + 1) (by simp) ?_; intro g5 c5 w5 hown5 hgr5 hat5 hlt5; have HV5 : Hid (Rcs w5 w.heap.size (.slice (some ⟨g5, 0, none⟩) (dn + 1) c5) ((L.take j2).filter (fun x => !(x.s == s.data.toList) || x.c) ++ [x])) := Rcs.snoc HDN.out hown5; have HG5 : Hid ((wr.alloc (.cells #[.int .i64 (x.I : Nat), .int .i64 (x.S : Nat), .string (bs x.s), .bool x.c] 67)).grownBy w5 u8.ownBlock) := hgr5; clear hown5 hgr5 hat5 hlt5)
                  | go_in)
                go_roundw
                case rel => exact ⟨j2 + 1, by go_num, by omega, by rw [HTK.out]; exact HV5.out, (HO.out.alloc _).grown HG5.out (fun k hk => Or.inr (own_block HRC.out hk).1)⟩
                case measure => simp [intOf]; omega
            · obtain rfl : j2 = n := by omega
              have hj5 : decide ((j2 : Int) < j2) = false := decide_eq_false (by omega)
              have HE2 : Hid (Rcs wr w.heap.size u8 (L.filter (fun x => !(x.s == s.data.toList) || x.c))) := by
                have := HRC.out
                rw [← HN.out, List.take_length] at this
                exact this
              have hT := H.out.only HO.out
              have c1 := hT.c1
              have f1 := hT.fr 1
              have f0 := hT.fr 0
              obtain ⟨dn, hdn⟩ : ∃ dn, (L.filter (fun x => !(x.s == s.data.toList) || x.c)).length = dn := ⟨_, rfl⟩
              have HDN : Hid ((L.filter (fun x => !(x.s == s.data.toList) || x.c)).length = dn) := hdn
              have hdb : dn ≤ 100 := by have h1 := List.length_filter_le (fun x : Rc => !(x.s == s.data.toList) || x.c) L; have := HN.out; omega
              have hub : ∀ b, u8.ownBlock = some b → b ≠ m := fun b hb e => by have h1 := (own_block HE2.out hb).1; have h2 := H.out.lt; omega
              have hS1 : Only [m] wr (wr.setCell ⟨m, 1, none⟩ (.int .i64 ((last : Int) + 1))) := (Only.refl [m] wr).setCell (Or.inl (by simp)) _
              have HROW : Hid ((wr.setCell ⟨m, 1, none⟩ (.int .i64 ((last : Int) + 1))).ownsRow w.heap.size 67 4 u8 dn (rowOf rcC (L.filter (fun x => !(x.s == s.data.toList) || x.c)))) := Rcs.own HDN.out (HE2.out.only hS1 (fun b hb => by simpa using hub b hb))
              have HTB : Hid ((wr.setCell ⟨m, 1, none⟩ (.int .i64 ((last : Int) + 1))).heap[m]? = some (.cells #[.slice ad j2 cap, .int .i64 ((last : Int) + 1), .int .i64 (now : Nat)] 29 (0, 0))) := heap_setCell_same wr m 1 _ _ _ hT.tab
              have HS1 : Hid (Only [m] w (wr.setCell ⟨m, 1, none⟩ (.int .i64 ((last : Int) + 1)))) := (HO.out.mono (fun _ hk => by cases hk)).trans hS1 (fun _ hk => Or.inl hk)
              have HUB : Hid (∀ b, u8.ownBlock = some b → b ≠ m ∧ w.heap.size ≤ b) := fun b hb => ⟨hub b hb, (own_block HE2.out hb).1⟩
              have HSZ : Hid ((wr.setCell ⟨m, 1, none⟩ (.int .i64 ((last : Int) + 1))).heap.size = wr.heap.size ∧ w.heap.size ≤ wr.heap.size) := ⟨by simp, HO.out.size⟩
              clear hrc hO hce hdn hT hub hS1
              go_wp2_with (first
                | (at_builtin; refine wpList_append_lies _ rfl (.tmp 100) (.tmp 107) 27 rfl w.heap.size 67 r0 _ 4 40 undRcs hr0 hy0 hy1 hy2 rfl (by decide) u8 dn _ rfl (World.ownsRow.alloc HROW.out _) ⟨wr.heap.size, 0, none⟩ 1 1 (rcC ⟨last + 1, 0, s.data.toList, false⟩) rfl rfl (by have hnw := rc_news (w := wr.setCell ⟨m, 1, none⟩ (.int .i64 ((last : Int) + 1))) ⟨last + 1, 0, s.data.toList, false⟩ 67; dsimp only at hnw; rw [bs_self, HSZ.out.1] at hnw; exact hnw) (rcC_one _) (by decide) (by unfold maxLen; omega) (by omega) (by rw [World.size_alloc, HSZ.out.1]; have := HSZ.out.2; omega) (wr.heap.size + 1) (by simp) ?_; intro g5 c5 w5 hown5 hgr5 hat5 hlt5; have HV5 : Hid (Rcs w5 w.heap.size (.slice (some ⟨g5, 0, none⟩) (dn + 1) c5) (regD last L s.data.toList)) := Rcs.snoc HDN.out hown5; have hO5 : Only u8.ownBlock.toList (wr.setCell ⟨m, 1, none⟩ (.int .i64 ((last : Int) + 1))) w5 := ((Only.refl _ _).alloc _).grown hgr5 (fun b hb => Or.inl (by simp [hb])); have ht5 := (hO5.block m (Array.getElem?_eq_some_iff.1 HTB.out).1 (fun hm => (HUB.out m (by simpa using hm)).1 rfl)).trans HTB.out; have HT5 : Hid (w5.heap[m]? = some (.cells #[.slice ad j2 cap, .int .i64 ((last : Int) + 1), .int .i64 (now : Nat)] 29 (0, 0))) := ht5; have t0 : w5.cell? ⟨m, 0, none⟩ = some (.slice ad j2 cap) := cell_of_row _ _ 0 _ _ _ ht5; have t1 : w5.cell? ⟨m, 1, none⟩ = some (.int .i64 ((last : Int) + 1)) := cell_of_row _ _ 1 _ _ _ ht5; have e0 : w5.frozen? ⟨m, 0, none⟩ = false := frozen_of_row _ _ _ _ _ ht5; have HO5 : Hid (Only [m] w w5) := HS1.out.trans hO5 (fun b hb => Or.inr (HUB.out b (by simpa using hb)).2); clear hown5 hgr5 hat5 hlt5 hO5 ht5)
                | go_in)
              go_ret2
              have hS : Only [m] w5 (w5.setCell ⟨m, 0, none⟩ (.slice (some ⟨g5, 0, none⟩) (dn + 1) c5)) := (Only.refl [m] w5).setCell (Or.inl (by simp)) _
              have hg5 : w.heap.size ≤ g5 := (own_block HV5.out rfl).1
              have hml0 := H.out.lt
              refine Or.inr (Or.inr ⟨HOK.out, HR.out, rfl, .slice (some ⟨g5, 0, none⟩) (dn + 1) c5, ⟨heap_setCell_same w5 m 0 _ _ _ HT5.out, ?_⟩, HO5.out.trans hS (fun b hb => Or.inl hb), fun b hb => ?_⟩)
              · refine (HV5.out.only hS (fun b hb => ?_)).low HB.out
                obtain rfl : g5 = b := Option.some.inj hb
                simp
                omega
              · obtain rfl : g5 = b := Option.some.inj hb
                exact hg5
        · by_cases hfull : 12 ≤ ln
          · have HF9 : Hid (s.data.toList ∉ namesD L ∧ 12 ≤ (namesD L).length) := ⟨hin, by rw [hln]; exact hfull⟩
            clear hin hidx
            go_wp2
            go_ret2
            exact Or.inr (Or.inl ⟨HOK.out, HF9.out.1, HF9.out.2, rfl, HO.out⟩)
          · have HR : Hid (s.data.toList ∈ namesD L ∨ (namesD L).length < 12) := Or.inr (by rw [hln]; omega)
            clear hin hidx
            go_wp2
            go_loopw [8, 9] (fun ov i wq => ∃ j2 : Nat, i = .int .i64 (j2 : Nat) ∧ j2 ≤ n ∧ Rcs wq w.heap.size ov ((L.take j2).filter (fun x => !(x.s == s.data.toList) || x.c)) ∧ Only [] w wq) (fun _ i _ => n - (intOf i).toNat)
            case atStart => exact ⟨0, rfl, Nat.zero_le _, Rcs.nil _ _, HO.out⟩
            case round =>
              obtain ⟨j2, rfl, hj3, hrc, hO⟩ := hrel
              clear c0 hml
              obtain ⟨c0, hml, hce⟩ := HF.out wr hO
              have HRC : Hid (Rcs wr w.heap.size u8 ((L.take j2).filter (fun x => !(x.s == s.data.toList) || x.c))) := hrc
              have HO : Hid (Only [] w wr) := hO
              by_cases hlt2 : j2 < n
              · obtain ⟨x, hx⟩ := get_lt HN.out hlt2
                obtain ⟨g, rfl, q0, q1, q2, q3⟩ := hce j2 x hx
                have HTK0 : Hid ((L.take (j2 + 1)).filter (fun x => !(x.s == s.data.toList) || x.c) = if (!(x.s == s.data.toList) || x.c) then (L.take j2).filter (fun x => !(x.s == s.data.toList) || x.c) ++ [x] else (L.take j2).filter (fun x => !(x.s == s.data.toList) || x.c)) := rcs_take (p := fun x => !(x.s == s.data.toList) || x.c) hx
                clear hrc hO hce hx
                by_cases hxs : x.s = s.data.toList
                · have hq : ((bs x.s).toList == s.toList) = true := by rw [bs_toList, Lib.toList_data, hxs]; simp
                  cases hc : x.c with
                  | false =>
                    have HTK : Hid ((L.take (j2 + 1)).filter (fun x => !(x.s == s.data.toList) || x.c) = (L.take j2).filter (fun x => !(x.s == s.data.toList) || x.c)) := by show _ = _; rw [HTK0.out, hxs, hc]; simp
                    rw [hc] at q3
                    clear hc hxs HTK0
                    go_wp2
                    go_roundw
                    case rel => exact ⟨j2 + 1, by go_num, by omega, by rw [HTK.out]; exact HRC.out, HO.out⟩
                    case measure => simp [intOf]; omega
                  | true =>
                    have HTK : Hid ((L.take (j2 + 1)).filter (fun x => !(x.s == s.data.toList) || x.c) = (L.take j2).filter (fun x => !(x.s == s.data.toList) || x.c) ++ [x]) := by show _ = _; rw [HTK0.out, hc]; simp
                    have q3' : wr.cell? ⟨g, j2 * 4 + 3, none⟩ = some (.bool true) := by rw [← hc]; exact q3
                    have HC : Hid (x.c = true) := hc
                    obtain ⟨xI, xS, xs, xc⟩ := x
                    obtain rfl : xc = true := hc
                    clear hxs HTK0 q3'
                    obtain ⟨dn, hdn⟩ : ∃ dn, ((L.take j2).filter (fun x => !(x.s == s.data.toList) || x.c)).length = dn := ⟨_, rfl⟩
                    have HDN : Hid (((L.take j2).filter (fun x => !(x.s == s.data.toList) || x.c)).length = dn) := hdn
                    have hdb : dn ≤ 100 := by have := rcs_len (fun x => !(x.s == s.data.toList) || x.c) L j2; omega
                    have HROW : Hid (wr.ownsRow w.heap.size 67 4 u8 dn (rowOf rcC ((L.take j2).filter (fun x => !(x.s == s.data.toList) || x.c)))) := Rcs.own HDN.out HRC.out
                    clear hdn
                    go_wp2_with (first
                      | (at_builtin; refine wpList_append_lies _ rfl (.tmp 82) (.tmp 90) 27 rfl w.heap.size 67 r0 _ 4 40 undRcs hr0 hy0 hy1 hy2 rfl (by decide) u8 dn _ rfl (World.ownsRow.alloc HROW.out _) ⟨wr.heap.size, 0, none⟩ 1 1 (rcC (⟨xI, xS, xs, true⟩ : Rc)) rfl rfl (rc_news _ _) (rcC_one (⟨xI, xS, xs, true⟩ : Rc)) (by decide) (by unfold maxLen; omega) (by omega) (by rw [World.size_alloc]; have := HO.out.size; omega) (wr.heap.size + 1) (by simp) ?_; intro g5 c5 w5 hown5 hgr5 hat5 hlt5; have HV5 : Hid (Rcs w5 w.heap.size (.slice (some ⟨g5, 0, none⟩) (dn + 1) c5) ((L.take j2).filter (fun x => !(x.s == s.data.toList) || x.c) ++ [(⟨xI, xS, xs, true⟩ : Rc)])) := Rcs.snoc HDN.out hown5; have HG5 : Hid ((wr.alloc (.cells #[.int .i64 ((⟨xI, xS, xs, true⟩ : Rc).I : Nat), .int .i64 ((⟨xI, xS, xs, true⟩ : Rc).S : Nat), .string (bs (⟨xI, xS, xs, true⟩ : Rc).s), .bool (⟨xI, xS, xs, true⟩ : Rc).c] 67)).grownBy w5 u8.ownBlock) := hgr5; clear hown5 hgr5 hat5 hlt5)
                      | go_in)
                    go_roundw
                    case rel => exact ⟨j2 + 1, by go_num, by omega, by rw [HTK.out]; exact HV5.out, (HO.out.alloc _).grown HG5.out (fun k hk => Or.inr (own_block HRC.out hk).1)⟩
                    case measure => simp [intOf]; omega
                · have hq : ((bs x.s).toList == s.toList) = false := by rw [bs_toList, Lib.toList_data]; simpa using hxs
                  have HTK : Hid ((L.take (j2 + 1)).filter (fun x => !(x.s == s.data.toList) || x.c) = (L.take j2).filter (fun x => !(x.s == s.data.toList) || x.c) ++ [x]) := by show _ = _; rw [HTK0.out]; simp [hxs]
                  clear hxs HTK0
                  obtain ⟨dn, hdn⟩ : ∃ dn, ((L.take j2).filter (fun x => !(x.s == s.data.toList) || x.c)).length = dn := ⟨_, rfl⟩
                  have HDN : Hid (((L.take j2).filter (fun x => !(x.s == s.data.toList) || x.c)).length = dn) := hdn
                  have hdb : dn ≤ 100 := by have := rcs_len (fun x => !(x.s == s.data.toList) || x.c) L j2; omega
                  have HROW : Hid (wr.ownsRow w.heap.size 67 4 u8 dn (rowOf rcC ((L.take j2).filter (fun x => !(x.s == s.data.toList) || x.c)))) := Rcs.own HDN.out HRC.out
                  clear hdn
                  go_wp2_with (first
                    | (at_builtin; refine wpList_append_lies _ rfl (.tmp 82) (.tmp 90) 27 rfl w.heap.size 67 r0 _ 4 40 undRcs hr0 hy0 hy1 hy2 rfl (by decide) u8 dn _ rfl (World.ownsRow.alloc HROW.out _) ⟨wr.heap.size, 0, none⟩ 1 1 (rcC x) rfl rfl (rc_news _ _) (rcC_one x) (by decide) (by unfold maxLen; omega) (by omega) (by rw [World.size_alloc]; have := HO.out.size; omega) (wr.heap.size + 1) (by simp) ?_; intro g5 c5 w5 hown5 hgr5 hat5 hlt5; have HV5 : Hid (Rcs w5 w.heap.size (.slice (some ⟨g5, 0, none⟩) (dn + 1) c5) ((L.take j2).filter (fun x => !(x.s == s.data.toList) || x.c) ++ [x])) := Rcs.snoc HDN.out hown5; have HG5 : Hid ((wr.alloc (.cells #[.int .i64 (x.I : Nat), .int .i64 (x.S : Nat), .string (bs x.s), .bool x.c] 67)).grownBy w5 u8.ownBlock) := hgr5; clear hown5 hgr5 hat5 hlt5)
                    | go_in)
                  go_roundw
                  case rel => exact ⟨j2 + 1, by go_num, by omega, by rw [HTK.out]; exact HV5.out, (HO.out.alloc _).grown HG5.out (fun k hk => Or.inr (own_block HRC.out hk).1)⟩
                  case measure => simp [intOf]; omega
              · obtain rfl : j2 = n := by omega
                have hj5 : decide ((j2 : Int) < j2) = false := decide_eq_false (by omega)
                have HE2 : Hid (Rcs wr w.heap.size u8 (L.filter (fun x => !(x.s == s.data.toList) || x.c))) := by
                  have := HRC.out
                  rw [← HN.out, List.take_length] at this
                  exact this
                have hT := H.out.only HO.out
                have c1 := hT.c1
                have f1 := hT.fr 1
                have f0 := hT.fr 0
                obtain ⟨dn, hdn⟩ : ∃ dn, (L.filter (fun x => !(x.s == s.data.toList) || x.c)).length = dn := ⟨_, rfl⟩
                have HDN : Hid ((L.filter (fun x => !(x.s == s.data.toList) || x.c)).length = dn) := hdn
                have hdb : dn ≤ 100 := by have h1 := List.length_filter_le (fun x : Rc => !(x.s == s.data.toList) || x.c) L; have := HN.out; omega
                have hub : ∀ b, u8.ownBlock = some b → b ≠ m := fun b hb e => by have h1 := (own_block HE2.out hb).1; have h2 := H.out.lt; omega
                have hS1 : Only [m] wr (wr.setCell ⟨m, 1, none⟩ (.int .i64 ((last : Int) + 1))) := (Only.refl [m] wr).setCell (Or.inl (by simp)) _
                have HROW : Hid ((wr.setCell ⟨m, 1, none⟩ (.int .i64 ((last : Int) + 1))).ownsRow w.heap.size 67 4 u8 dn (rowOf rcC (L.filter (fun x => !(x.s == s.data.toList) || x.c)))) := Rcs.own HDN.out (HE2.out.only hS1 (fun b hb => by simpa using hub b hb))
                have HTB : Hid ((wr.setCell ⟨m, 1, none⟩ (.int .i64 ((last : Int) + 1))).heap[m]? = some (.cells #[.slice ad j2 cap, .int .i64 ((last : Int) + 1), .int .i64 (now : Nat)] 29 (0, 0))) := heap_setCell_same wr m 1 _ _ _ hT.tab
                have HS1 : Hid (Only [m] w (wr.setCell ⟨m, 1, none⟩ (.int .i64 ((last : Int) + 1)))) := (HO.out.mono (fun _ hk => by cases hk)).trans hS1 (fun _ hk => Or.inl hk)
                have HUB : Hid (∀ b, u8.ownBlock = some b → b ≠ m ∧ w.heap.size ≤ b) := fun b hb => ⟨hub b hb, (own_block HE2.out hb).1⟩
                have HSZ : Hid ((wr.setCell ⟨m, 1, none⟩ (.int .i64 ((last : Int) + 1))).heap.size = wr.heap.size ∧ w.heap.size ≤ wr.heap.size) := ⟨by simp, HO.out.size⟩
                clear hrc hO hce hdn hT hub hS1
                go_wp2_with (first
                  | (at_builtin; refine wpList_append_lies _ rfl (.tmp 100) (.tmp 107) 27 rfl w.heap.size 67 r0 _ 4 40 undRcs hr0 hy0 hy1 hy2 rfl (by decide) u8 dn _ rfl (World.ownsRow.alloc HROW.out _) ⟨wr.heap.size, 0, none⟩ 1 1 (rcC ⟨last + 1, 0, s.data.toList, false⟩) rfl rfl (by have hnw := rc_news (w := wr.setCell ⟨m, 1, none⟩ (.int .i64 ((last : Int) + 1))) ⟨last + 1, 0, s.data.toList, false⟩ 67; dsimp only at hnw; rw [bs_self, HSZ.out.1] at hnw; exact hnw) (rcC_one _) (by decide) (by unfold maxLen; omega) (by omega) (by rw [World.size_alloc, HSZ.out.1]; have := HSZ.out.2; omega) (wr.heap.size + 1) (by simp) ?_; intro g5 c5 w5 hown5 hgr5 hat5 hlt5; have HV5 : Hid (Rcs w5 w.heap.size (.slice (some ⟨g5, 0, none⟩) (dn + 1) c5) (regD last L s.data.toList)) := Rcs.snoc HDN.out hown5; have hO5 : Only u8.ownBlock.toList (wr.setCell ⟨m, 1, none⟩ (.int .i64 ((last : Int) + 1))) w5 := ((Only.refl _ _).alloc _).grown hgr5 (fun b hb => Or.inl (by simp [hb])); have ht5 := (hO5.block m (Array.getElem?_eq_some_iff.1 HTB.out).1 (fun hm => (HUB.out m (by simpa using hm)).1 rfl)).trans HTB.out; have HT5 : Hid (w5.heap[m]? = some (.cells #[.slice ad j2 cap, .int .i64 ((last : Int) + 1), .int .i64 (now : Nat)] 29 (0, 0))) := ht5; have t0 : w5.cell? ⟨m, 0, none⟩ = some (.slice ad j2 cap) := cell_of_row _ _ 0 _ _ _ ht5; have t1 : w5.cell? ⟨m, 1, none⟩ = some (.int .i64 ((last : Int) + 1)) := cell_of_row _ _ 1 _ _ _ ht5; have e0 : w5.frozen? ⟨m, 0, none⟩ = false := frozen_of_row _ _ _ _ _ ht5; have HO5 : Hid (Only [m] w w5) := HS1.out.trans hO5 (fun b hb => Or.inr (HUB.out b (by simpa using hb)).2); clear hown5 hgr5 hat5 hlt5 hO5 ht5)
                  | go_in)
                go_ret2
                have hS : Only [m] w5 (w5.setCell ⟨m, 0, none⟩ (.slice (some ⟨g5, 0, none⟩) (dn + 1) c5)) := (Only.refl [m] w5).setCell (Or.inl (by simp)) _
                have hg5 : w.heap.size ≤ g5 := (own_block HV5.out rfl).1
                have hml0 := H.out.lt
                refine Or.inr (Or.inr ⟨HOK.out, HR.out, rfl, .slice (some ⟨g5, 0, none⟩) (dn + 1) c5, ⟨heap_setCell_same w5 m 0 _ _ _ HT5.out, ?_⟩, HO5.out.trans hS (fun b hb => Or.inl hb), fun b hb => ?_⟩)
                · refine (HV5.out.only hS (fun b hb => ?_)).low HB.out
                  obtain rfl : g5 = b := Option.some.inj hb
                  simp
                  omega
                · obtain rfl : g5 = b := Option.some.inj hb
                  exact hg5
  · have HOK : Hid (¬ OkN s) := hok
    clear hok hne
    go_wp2
    go_ret2
    exact Or.inl ⟨HOK.out, rfl, Only.refl _ _⟩
end Go.Proofs.YtaipigiinljpkaaGreatDoor
