/- TreeSound: whatever the acts, the law answers true: no directory is above itself, each is there once; files have as many entries as links; nothing else is there. -/
import Derived.Test.YtkcabopgajlmdaaGreatDoorK50
import Derived.Test.YtkcabopgajlmdaaGreatDoorK51
import Derived.Test.YtkcabopgajlmdaaGreatDoorTie
import Derived.Test.YtkcabopgajlmdaaGreatDoorCards
import Derived.Deep.Strs
import Derived.Deep.Slices
import Derived.OpenShut
import Derived.ChangeArms
import Derived.SizedLaws
import Derived.BigQuiet
set_option maxRecDepth 100000
namespace Go.Proofs.YtkcabopgajlmdaaGreatDoor
section
open Go Go.RowKit Go.Deep Go.WideShapes
theorem choose_lt6 {α : Type} [Inhabited α] {n : Nat} {p : Nat → α → Prop} (h : ∀ i, i < n → ∃ a, p i a) : ∃ f : Nat → α, ∀ i, i < n → p i (f i) :=
  ⟨fun i => if hi : i < n then (h i hi).choose else default, fun i hi => by simp only [hi, dite_true]; exact (h i hi).choose_spec⟩
theorem Tryz.cellsTAct6 : Tryz.prog.cellsOf 42 = 6 := by kernel_rfl
theorem Tryz.cellsInt6 : Tryz.prog.cellsOf 3 = 1 := by kernel_rfl
theorem Tryz.cellsStr6 : Tryz.prog.cellsOf 9 = 1 := by kernel_rfl
theorem six_of6 {l : List Value} (h : l.length = 6) : ∃ a b c d e f, l = [a, b, c, d, e, f] := by
  match l, h with
  | [a, b, c, d, e, f], _ => exact ⟨a, b, c, d, e, f, rfl⟩
theorem weightsAll_mem6 {H : Type} {P : Program} {e : TypeId} : ∀ {l : List (DataW H)} {d : DataW H}, d ∈ l → ∀ n ∈ d.weights P e, n ∈ DataW.weightsAll P e l
  | d0 :: l, d, hm, n, hn => by
    simp only [DataW.weightsAll, List.mem_append]
    rcases List.mem_cons.1 hm with rfl | hm
    · exact Or.inl hn
    · exact Or.inr (weightsAll_mem6 hm n hn)
theorem act_fields6 {H : Type} {enc : TypeId × Value → H} {w : World} {base n : Nat} {sp : Nat → Bool} {held : Bool} {cs : List Value} {x : DataW H × List MemPlace} (h : DataW.trod enc Tryz.prog w base sp held n 42 cs = some x) (hw : ∀ q ∈ x.1.weights Tryz.prog 42, q ≤ reachBytes) :
    ∃ p : TActM, cs = [.string p.K, .int .i64 p.A, .int .i64 p.B, .string p.S, .string p.X, .int .i64 p.N] ∧ p.Ok := by
  have hst := DataW.trod_struct Tryz.underlying42 h
  rw [Tryz.cellsTAct6] at hst
  obtain ⟨xs, k, _, hxx, hcl, hlen, hx⟩ := hst
  obtain ⟨c0, c1, c2, c3, c4, c5, rfl⟩ := six_of6 (l := cs) (by simpa using hcl)
  have g : ∀ i (hi : i < xs.length), xs[i]? = some xs[i] := fun i hi => List.getElem?_eq_getElem hi
  have hl6 : xs.length = 6 := hlen
  have y0 := (hx 0 _ rfl).trans (g 0 (by omega))
  have y1 := (hx 1 _ rfl).trans (g 1 (by omega))
  have y2 := (hx 2 _ rfl).trans (g 2 (by omega))
  have y3 := (hx 3 _ rfl).trans (g 3 (by omega))
  have y4 := (hx 4 _ rfl).trans (g 4 (by omega))
  have y5 := (hx 5 _ rfl).trans (g 5 (by omega))
  obtain ⟨s0, e0, _, _⟩ := DataW.trod_string Tryz.underlying9 y0
  obtain ⟨n1, e1, _, _⟩ := DataW.trod_int Tryz.underlying3 y1
  obtain ⟨n2, e2, _, _⟩ := DataW.trod_int Tryz.underlying3 y2
  obtain ⟨s3, e3, d3, _⟩ := DataW.trod_string Tryz.underlying9 y3
  obtain ⟨s4, e4, d4, _⟩ := DataW.trod_string Tryz.underlying9 y4
  obtain ⟨n5, e5, _, r5⟩ := DataW.trod_int Tryz.underlying3 y5
  have wt : ∀ (j : Nat) (s : ByteArray) (hj : j < xs.length), (xs[j]'hj).1 = .lit (.string s.data.toList) → ∀ t, (Tryz.prog.underlying 42).bind (fun u => match u with | .struct fs => (fs.toList.map (·.type))[j]? | _ => none) = some t → s.size ≤ 140737488351232 := fun j s hj hd t ht => by
    have h1 : s.data.toList.length ∈ x.1.weights Tryz.prog 42 := by
      rw [hxx]
      rw [Tryz.underlying42] at ht
      simp only [DataW.weights, Tryz.underlying42]
      refine DataW.weights_mem_each (j := j) ht (d := .lit (.string s.data.toList)) (by rw [List.getElem?_map, g j hj]; simp [hd]) _ (by simp [DataW.weights])
    have h2 := hw _ h1
    have h3 : s.data.toList.length = s.size := by simp
    have h4 : reachBytes = 140737488351232 := rfl
    omega
  have w3 := wt 3 s3 (by omega) (by rw [d3]) 9 (by rw [Tryz.underlying42]; rfl)
  have w4 := wt 4 s4 (by omega) (by rw [d4]) 9 (by rw [Tryz.underlying42]; rfl)
  simp [Tryz.cellsInt6, Tryz.cellsStr6] at e0 e1 e2 e3 e4 e5
  subst e0 e1 e2 e3 e4 e5
  exact ⟨⟨s0, n1, n2, s3, s4, n5⟩, rfl, ⟨w3, w4, by have r := r5; simp [Lit.wf, IntKind.min, IntKind.max, IntKind.signed, IntKind.bits] at r; show n5 < _; omega, by have r := r5; simp [Lit.wf, IntKind.min, IntKind.max, IntKind.signed, IntKind.bits] at r; show _ ≤ n5; omega⟩⟩
theorem isTActs6_of {H : Type} {enc : TypeId × Value → H} {w : World} {base n : Nat} {sp : Nat → Bool} {held : Bool} {a : Option Addr} {len cap : Nat} {x : DataW H × List MemPlace} (h : DataW.trod enc Tryz.prog w base sp held n 22 [.slice a len cap] = some x) (hw : ∀ q ∈ x.1.weights Tryz.prog 22, q ≤ reachBytes) : IsTActs6 w a len := by
  rcases open_slice Tryz.underlying22 h with ⟨e, _⟩ | ⟨ad, len', cap', m, n', D, Pl, e, _, hl, hm, hmm, hxx, hx⟩
  · simp at e
    exact Or.inl e.2.1
  · simp at e
    obtain ⟨rfl, rfl, rfl⟩ := e
    rcases Nat.eq_zero_or_pos len with h0 | h0
    · exact Or.inl h0
    right
    have hle : len ≤ m := by rw [hmm]; split <;> omega
    rw [Tryz.cellsTAct6] at hx
    have hwD : ∀ i, i < len → ∀ q ∈ (D i).weights Tryz.prog 42, q ≤ reachBytes := fun i hi q hq => by
      refine hw q ?_
      rw [hxx]
      simp only [DataW.weights, Tryz.underlying22]
      exact List.mem_cons_of_mem _ (List.mem_append_left _ (weightsAll_mem6 (List.mem_map.2 ⟨i, List.mem_range.2 hi, rfl⟩) q hq))
    have inst : Inhabited TActM := ⟨⟨⟨#[]⟩, 0, 0, ⟨#[]⟩, ⟨#[]⟩, 0⟩⟩
    obtain ⟨P, hP⟩ := choose_lt6 (α := TActM) (n := len) (p := fun i p => w.cells? base (ad.add (i * 6)) 6 = some [.string p.K, .int .i64 p.A, .int .i64 p.B, .string p.S, .string p.X, .int .i64 p.N] ∧ p.Ok) (fun i hi => by
      obtain ⟨cs', c1, c2⟩ := hx i (by omega)
      obtain ⟨p, rfl, hok⟩ := act_fields6 c2 (hwD i hi)
      exact ⟨p, c1, hok⟩)
    obtain ⟨ab, ao, spot⟩ := ad
    have cell : ∀ i, i < len → ∀ k, k < 6 → w.cell? (((⟨ab, ao, spot⟩ : Addr).add (i * 6)).add k) = [Value.string (P i).K, .int .i64 (P i).A, .int .i64 (P i).B, .string (P i).S, .string (P i).X, .int .i64 (P i).N][k]? := fun i hi k hk => (World.cells?_some (hP i hi).1).2.2 k hk
    have hspot : spot = none := by
      have := cell 0 h0 0 (by decide)
      simp [Addr.add] at this
      exact World.cell?_spot this
    subst hspot
    have hadd : ∀ i k, ((⟨ab, ao, none⟩ : Addr).add (i * 6)).add k = ⟨ab, ao + i * 6 + k, none⟩ := fun i k => by
      unfold Addr.add
      split <;> split <;> simp_all
    refine ⟨ab, ao, P, rfl, fun i hi => ?_⟩
    have c0 := cell i hi 0 (by decide)
    have c1 := cell i hi 1 (by decide)
    have c2 := cell i hi 2 (by decide)
    have c3 := cell i hi 3 (by decide)
    have c4 := cell i hi 4 (by decide)
    have c5 := cell i hi 5 (by decide)
    rw [hadd] at c0 c1 c2 c3 c4 c5
    exact ⟨c0, c1, c2, c3, c4, c5, (hP i hi).2⟩
end
section
open Go.ChangeShapes Go.WideShapes Go.ChangeAt Go.RowKit
open Go.ChangeMaps (open_string shut_string)
theorem own:ownKnob Tryz.prog.godebug=none:=by kernel_rfl
theorem treeSound_door (os:Os)(args:Array Value):laidMetH Tryz.prog Rows.treeSoundRow.laid ((World.doorLaid Tryz.prog 301 os).forCall (fun _ _=>0) ⟨#[],args,[]⟩).memory :=
 laidMetH_of_parts3 (fuel:=8) (laidMet_of_run' 8 (by kernel_rfl) (by kernel_rfl)) (by kernel_rfl) (by kernel_rfl)
theorem treeSound_lifted (os:Os)(started:os.Started)(H:Type)(enc:TypeId×Value→H):
  ReturnsInHanded {} Tryz.checked os 4 .any (fun w args=>(Rows.treeSoundSpec.pre enc Tryz.prog Tryz.f4 [] false w args∧laidMetH Tryz.prog Rows.treeSoundRow.laid w)∧sizedMet enc Tryz.prog Tryz.f4 (OpenSpec.ofChange Rows.treeSoundSpec) false w args)
   (Rows.treeSoundSpec.post enc Tryz.prog Tryz.f4 false true false false):=by
 refine frame_shaped (C:=Tryz.checked) (X:=fun w _=>laidMetH Tryz.prog Rows.treeSoundRow.laid w) (fun _ _ _ hh h=>h.of_heap hh) own started (by kernel_rfl) Tryz.func4
  (ChangeSpec.witness_shaped (enc:=enc) (C:=Tryz.checked) (os:=os) (X:=fun w _=>laidMetH Tryz.prog Rows.treeSoundRow.laid w) false (World.doorLaid Tryz.prog 301 os) #[.slice none 0 0] 8 rfl (World.shaped_of_RefB (by kernel_rfl) (by kernel_rfl)) (by kernel_rfl) (by kernel_rfl) (by kernel_rfl) (treeSound_door os _)) ?_
 intro W base args ds gs before hval0 hW hL hsh hsz0;have hval:∀ (j:Nat) t v,Tryz.f4.params[j]?=some t→args[j]?=some v→Value.okWide Tryz.prog W .any base t v:=hval0;have hW':=hW;obtain ⟨p,q,hA0,hV,rfl,hfz,hnd⟩:=hW;have hA:DataW.TrodAll enc Tryz.prog W 0 (fun _=>true) true Tryz.f4.params.toList args.toList ds p:=hA0;rw [Tryz.params4] at hA hval;obtain ⟨v0,d0,rfl,rfl,h0⟩:=trodAll_one hA;obtain ⟨rfl,rfl⟩:=trodVars_none hV;obtain ⟨a0,len0,cap0,rfl⟩:=okWide_slice Tryz.underlying22 (hval 0 22 v0 rfl rfl);have k0:=h0
 have lt0:∀ x∈p,x.block < W.heap.size:=by obtain ⟨m,hm⟩:=k0;exact DataW.trod_lt m _ _ _ hm
 have hw0:∀ q∈d0.weights Tryz.prog 22,q≤reachBytes:=fun q hq=>by
  have:=List.all_eq_true.1 hsz0 _ (DataW.weights_mem_each (j:=0) (t:=22) (d:=d0) rfl rfl q hq)
  simpa using this
 have w0:IsTActs6 W a0 len0:=by obtain ⟨fuel,hf⟩:=h0;exact isTActs6_of hf hw0
 obtain ⟨A,hE⟩:=sound_met hL;clear hA0 hval0 hsz0;refine (treeSound_walk a0 len0 cap0 A W w0 hE).mono fun e W' ⟨he,bel⟩=>?_;subst he;exact ⟨_,rfl,_,_,_,[],_,[],hW',trodAll_mk1 (shut_bool Tryz.underlying4 _),trodAll_mk1 (Below.trod laidOut (by kernel_rfl) (of_decide_eq_true (by kernel_rfl)) k0 bel lt0),rfl,bel.frame _,fun h=>by cases h⟩
theorem treeSound_row:Rows.TreeSoundSaid :=
 OpenClaim.holds_of_wide 4 Tryz.f4 rfl rfl rfl rfl rfl rfl rfl ⟨rfl,rfl,rfl,rfl,rfl⟩ rfl rfl rfl rfl rfl (by kernel_rfl) Tryz.func4 (by kernel_rfl)
  (of_decide_eq_true (by kernel_rfl)) (by unfold Func.isWrapper;first | (rw [if_pos (by decide +kernel)];kernel_rfl) | (rw [if_neg (by decide +kernel)];exact ⟨rfl,rfl⟩))
  (fun os started H enc _=>treeSound_lifted os started H enc)
theorem treeSound_holds:Rows.TreeSoundCardSaid :=
 Claim7.holds_tied_plain_at .later [] Rows.treeSoundCard.laidKinds true Rows.treeSoundCard.stood.harness Rows.treeSoundCard.stood.looks
  treeSound_row (fun _ h=>by cases h) (by kernel_rfl) (fun _ h=>by cases h) treeSound_row_tie rfl ⟨rfl,rfl⟩ (by kernel_rfl) rfl
  (fun f fn hf hfn=>by
   obtain rfl:f=4:=Option.some.inj ((show Tryz.prog.funcNamed "pigeonholes/pigeonholeslaw1.TreeSound" = some 4 by kernel_rfl).symm.trans hf) |>.symm;obtain rfl:fn=Tryz.f4:=(Option.some.inj (Tryz.func4.symm.trans hfn)).symm
   exact ⟨by kernel_rfl,fun j t ht=>by
    rw [Tryz.params4] at ht
    have hm:t∈[22]:=by simpa using Array.mem_of_getElem? ht
    have hall:([22].all fun u=>!Tryz.prog.wantsStandIn u)=true:=by kernel_rfl
    exact (show Tryz.prog.wantsStandIn t=false by simpa using List.all_eq_true.1 hall t hm)⟩)
  (by kernel_rfl)
#print axioms treeSound_holds
end
end Go.Proofs.YtkcabopgajlmdaaGreatDoor
