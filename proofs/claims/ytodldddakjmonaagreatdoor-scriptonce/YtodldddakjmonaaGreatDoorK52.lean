import Derived.Test.YtodldddakjmonaaGreatDoorK48
import Derived.Test.YtodldddakjmonaaGreatDoorK50
set_option maxRecDepth 100000
namespace Go.Proofs.YtodldddakjmonaaGreatDoor
section
open Go.ChangeShapes Go.WideShapes Go.ChangeAt Go.RowKit
open Go.ChangeMaps (open_string shut_string)
theorem scriptOnce_lifted (os:Os)(started:os.Started)(H:Type)(enc:TypeId×Value→H):
  ReturnsInHanded {} Tryz.checked os 3 .any (fun w args=>(Rows.scriptOnceSpec.pre enc Tryz.prog Tryz.f3 [] false w args∧laidMetH Tryz.prog Rows.scriptOnceRow.laid w)∧sizedMet enc Tryz.prog Tryz.f3 (OpenSpec.ofChange Rows.scriptOnceSpec) false w args)
   (Rows.scriptOnceSpec.post enc Tryz.prog Tryz.f3 false true false false):=by
 refine frame_shaped (C:=Tryz.checked) (X:=fun w _=>laidMetH Tryz.prog Rows.scriptOnceRow.laid w) (fun _ _ _ hh h=>h.of_heap hh) own started (by kernel_rfl) Tryz.func3
  (ChangeSpec.witness_shaped (enc:=enc) (C:=Tryz.checked) (os:=os) (X:=fun w _=>laidMetH Tryz.prog Rows.scriptOnceRow.laid w) false ((World.doorLaid Tryz.prog 400 os).layVars Tryz.prog [("unicode/utf8.first",Rows.laid_unicode_utf8_first)]) #[.int .i64 0,.slice none 0 0] 8 (World.layVars_os _ _ _) (World.shaped_of_RefB (scriptOnce_world os) (scriptOnce_old os)) (scriptOnce_input os) (scriptOnce_pre0 os enc) (scriptOnce_size0 os enc) (scriptOnce_door os _)) ?_
 intro W base args ds gs before hval0 hW hL hsh hsz0;have hval:∀ (j:Nat) t v,Tryz.f3.params[j]?=some t→args[j]?=some v→Value.okWide Tryz.prog W .any base t v:=hval0;have hW':=hW;obtain ⟨p,q,hA0,hV,rfl,hfz,hnd⟩:=hW;have hA:DataW.TrodAll enc Tryz.prog W 0 (fun _=>true) true Tryz.f3.params.toList args.toList ds p:=hA0;rw [Tryz.params3] at hA hval;obtain ⟨v0,vs0,d0,ds0,p0,q0,hargs,rfl,rfl,h0,r0⟩:=trodAll_cons hA;obtain ⟨v1,vs1,d1,ds1,p1,q1,rfl,rfl,rfl,h1,r1⟩:=trodAll_cons r0;obtain ⟨rfl,rfl,rfl⟩:=trodAll_nil r1
 obtain rfl:args=#[v0,v1]:=by cases args;simp_all
 obtain ⟨rfl,rfl⟩:=trodVars_none hV;obtain ⟨n0,rfl,rfl,rfl,wx0⟩:=open_int Tryz.underlying3 (hval 0 3 v0 rfl rfl) h0;obtain ⟨a1,len1,cap1,rfl⟩:=okWide_slice Tryz.underlying22 (hval 1 22 v1 rfl rfl);have k1:=h1
 have lt1:∀ x∈p1,x.block < W.heap.size:=by obtain ⟨m,hm⟩:=k1;exact DataW.trod_lt m _ _ _ hm
 have w1:IsIntsS W a1 len1:=by obtain ⟨fuel,hf⟩:=h1;exact isIntsS_of hf
 have hL1:laidMet Tryz.prog rowL W∧handlesMet Tryz.prog [("errors.errorType",Rows.laid_errors_errorType)] W:=hL;obtain ⟨A,hE⟩:=errs_of_row hL1.1 hL1.2;obtain ⟨m,hmx⟩:=maxLen_of hsh;clear hA0 hval0 hsz0;refine (sonce_all A W m n0 len1 cap1 a1 hE hmx w1).mono fun e W' ⟨he,bel⟩=>?_;subst he;exact ⟨_,rfl,_,_,_,[],_,[],hW',trodAll_mk1 (shut_bool Tryz.underlying4 _),(trodAll_cons_mk (shut_int Tryz.underlying3 wx0) (trodAll_cons_mk (Below.trod laidOut (by kernel_rfl) (of_decide_eq_true (by kernel_rfl)) k1 bel lt1) trodAll_mk0)),rfl,bel.frame _,fun h=>by cases h⟩
end
end Go.Proofs.YtodldddakjmonaaGreatDoor
