import Derived.Test.YtmnidbnaneagjaaGreatDoorK48
import Derived.Test.YtmnidbnaneagjaaGreatDoorK50
set_option maxRecDepth 100000
namespace Go.Proofs.YtmnidbnaneagjaaGreatDoor
section
open Go.ChangeShapes Go.WideShapes Go.ChangeAt Go.RowKit
open Go.ChangeMaps (open_string shut_string)
theorem storeNew_lifted (os:Os)(started:os.Started)(H:Type)(enc:TypeId×Value→H)(F:Stop.Interp):
  ReturnsInHanded {} Tryz.checked os 3 .any ((Rows.OpenSpec.upto Rows.storeNewSpec).preRow enc Tryz.prog Tryz.f3 Rows.storeNewUptoRow.domain false Rows.storeNewUptoRow.laid) (((Rows.OpenSpec.upto Rows.storeNewSpec).at F).post enc Tryz.prog Tryz.f3 false true false false):=by
 obtain ⟨places,hx⟩:=storeNew_reads os enc
 refine returnsInHanded_of_row (C:=Tryz.checked) (s:=Rows.OpenSpec.upto Rows.storeNewSpec) own started (by kernel_rfl) Tryz.func3
  (witness_row_atRef (enc:=enc) (C:=Tryz.checked) false ((World.doorLaid Tryz.prog 400 os).layVars Tryz.prog [("unicode/utf8.first",Rows.laid_unicode_utf8_first)]) #[.int .i64 0,.int .i64 0,.slice none 0 0] (World.layVars_os _ _ _) (storeNew_world os) (storeNew_old os) (storeNew_input os)
   (OpenSpec.preRow_of_cond 8 hx (by kernel_rfl) (fun k hk=>by cases hk;kernel_rfl) (by kernel_rfl) (storeNew_door os _))) ?_
 intro W base args ds gs before hval0 hW _ hcond _ hL hsh _;have hsm:=hcond _ rfl;have hval:∀ (j:Nat) t v,Tryz.f3.params[j]?=some t→args[j]?=some v→Value.okWide Tryz.prog W .any base t v:=hval0;have hW':=hW;obtain ⟨p,q,hA0,hV,rfl,hfz,hnd⟩:=hW;have hA:DataW.TrodAll enc Tryz.prog W 0 (fun _=>true) true Tryz.f3.params.toList args.toList ds p:=hA0;rw [Tryz.params3] at hA hval;obtain ⟨v0,vs0,d0,ds0,p0,q0,hargs,rfl,rfl,h0,r0⟩:=trodAll_cons hA;obtain ⟨v1,vs1,d1,ds1,p1,q1,rfl,rfl,rfl,h1,r1⟩:=trodAll_cons r0;obtain ⟨v2,vs2,d2,ds2,p2,q2,rfl,rfl,rfl,h2,r2⟩:=trodAll_cons r1;obtain ⟨rfl,rfl,rfl⟩:=trodAll_nil r2
 obtain rfl:args=#[v0,v1,v2]:=by cases args;simp_all
 obtain ⟨rfl,rfl⟩:=trodVars_none hV
 have hbk2:Rows.uptoBulk d2≤1048576:=by
  have h1:=of_decide_eq_true hsm;have h2:=bulk_part (l:=[d0,d1,d2]++[]) (d:=d2) (by simp);exact Nat.le_trans h2 h1
 obtain ⟨n0,rfl,rfl,rfl,wx0⟩:=open_int Tryz.underlying3 (hval 0 3 v0 rfl rfl) h0;obtain ⟨n1,rfl,rfl,rfl,wx1⟩:=open_int Tryz.underlying3 (hval 1 3 v1 rfl rfl) h1;obtain ⟨a2,len2,cap2,rfl⟩:=okWide_slice Tryz.underlying22 (hval 2 22 v2 rfl rfl);have k2:=h2
 have lt2:∀ x∈p2,x.block < W.heap.size:=by obtain ⟨m,hm⟩:=k2;exact DataW.trod_lt m _ _ _ hm
 have w2:IsDActs W a2 len2:=by obtain ⟨fuel,hf⟩:=h2;exact isDActs_of hf hbk2
 have hL1:laidMet Tryz.prog (sentR++restL) W∧handlesMet Tryz.prog [("errors.errorType",Rows.laid_errors_errorType)] W:=hL;obtain ⟨A,hE⟩:=errs_of_row hL1.1 hL1.2;obtain ⟨m,hmx⟩:=maxLen_of hsh;clear hA0 hval0 hcond hsm;refine (snew_in A W m n0 n1 a2 len2 cap2 hE hmx w2).mono fun e W' ⟨he,bel⟩=>?_;subst he;exact ⟨_,rfl,_,_,_,[],_,[],hW',trodAll_mk1 (shut_bool Tryz.underlying4 _),(trodAll_cons_mk (shut_int Tryz.underlying3 wx0) (trodAll_cons_mk (shut_int Tryz.underlying3 wx1) (trodAll_cons_mk (Below.trod laidOut (by kernel_rfl) (of_decide_eq_true (by kernel_rfl)) k2 bel lt2) trodAll_mk0))),rfl,bel.frame _,fun h=>by cases h⟩
end
end Go.Proofs.YtmnidbnaneagjaaGreatDoor
