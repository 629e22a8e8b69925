import Derived.Test.YtodldddakjmonaaGreatDoorK34
namespace Go.Proofs.YtodldddakjmonaaGreatDoor
section
open Go Go.RowKit Go.Deep Go.Maps
def regsOf:Code→List (List Oper)
 | .region _ ops _=>[ops.toList]
 | .seq a b=>regsOf a++regsOf b
 | .block _ a=>regsOf a
 | .scope a=>regsOf a
 | _=>[]
def regAt (c:Option Code)(i:Nat):List Oper:=match c with
 | some c=>(regsOf c).getD i []
 | none=>[]
def cmdE (n:Nat):List EntC:=[⟨⟨#[109,97,107,101]⟩,[.func (.func 29) #[ptrV n] #[],.func (.func 30) #[] #[],.func (.func 31) #[] #[]],.asks 33 34⟩,⟨⟨#[114,109]⟩,[.func (.func 29) #[ptrV n] #[],.func (.func 30) #[] #[]],.asks 35 34⟩,⟨⟨#[119,114,105,116,101]⟩,[.func (.func 29) #[ptrV n] #[],.func (.func 36) #[] #[],.func (.func 37) #[] #[],.func (.func 38) #[] #[]],.asks 39 34⟩,⟨⟨#[114,101,97,100]⟩,[.func (.func 29) #[ptrV n] #[],.func (.func 36) #[] #[],.func (.func 37) #[] #[],.func (.func 40) #[] #[]],.asks 41 42⟩,⟨⟨#[108,115]⟩,[.func (.func 29) #[ptrV n] #[],.func (.func 36) #[] #[]],.asks 43 44⟩,⟨⟨#[115,116,97,116]⟩,[.func (.func 29) #[ptrV n] #[],.func (.func 36) #[] #[]],.asks 45 46⟩,⟨⟨#[97,103,97,105,110]⟩,[.func (.func 29) #[ptrV n] #[]],.bound 47⟩,⟨⟨#[103,111]⟩,[.func (.func 37) #[] #[]],.bound 48⟩,⟨⟨#[100,114,111,112]⟩,[.func (.func 37) #[] #[]],.okof 50⟩,⟨⟨#[116,119,105,99,101]⟩,[.func (.func 37) #[] #[]],.okof 51⟩,⟨⟨#[110,101,116]⟩,[],.bound 52⟩,⟨⟨#[116,114,101,101]⟩,[],.bound 53⟩]
def cmdK (n:Nat):List Kd:=[.mp,.val (ptrV n),.val (.func (.func 29) #[ptrV n] #[]),.sl [.func (.func 29) #[ptrV n] #[],.func (.func 30) #[] #[],.func (.func 31) #[] #[]],.val (ptrV n),.dk (.asks 33 34),.bld (⟨⟨#[109,97,107,101]⟩,[.func (.func 29) #[ptrV n] #[],.func (.func 30) #[] #[],.func (.func 31) #[] #[]],.asks 33 34⟩:EntC),.ins (⟨⟨#[109,97,107,101]⟩,[.func (.func 29) #[ptrV n] #[],.func (.func 30) #[] #[],.func (.func 31) #[] #[]],.asks 33 34⟩:EntC),.val (ptrV n),.val (.func (.func 29) #[ptrV n] #[]),.sl [.func (.func 29) #[ptrV n] #[],.func (.func 30) #[] #[]],.val (ptrV n),.dk (.asks 35 34),.bld (⟨⟨#[114,109]⟩,[.func (.func 29) #[ptrV n] #[],.func (.func 30) #[] #[]],.asks 35 34⟩:EntC),.ins (⟨⟨#[114,109]⟩,[.func (.func 29) #[ptrV n] #[],.func (.func 30) #[] #[]],.asks 35 34⟩:EntC),.val (ptrV n),.val (.func (.func 29) #[ptrV n] #[]),.sl [.func (.func 29) #[ptrV n] #[],.func (.func 36) #[] #[],.func (.func 37) #[] #[],.func (.func 38) #[] #[]],.val (ptrV n),.dk (.asks 39 34),.bld (⟨⟨#[119,114,105,116,101]⟩,[.func (.func 29) #[ptrV n] #[],.func (.func 36) #[] #[],.func (.func 37) #[] #[],.func (.func 38) #[] #[]],.asks 39 34⟩:EntC),.ins (⟨⟨#[119,114,105,116,101]⟩,[.func (.func 29) #[ptrV n] #[],.func (.func 36) #[] #[],.func (.func 37) #[] #[],.func (.func 38) #[] #[]],.asks 39 34⟩:EntC),.val (ptrV n),.val (.func (.func 29) #[ptrV n] #[]),.sl [.func (.func 29) #[ptrV n] #[],.func (.func 36) #[] #[],.func (.func 37) #[] #[],.func (.func 40) #[] #[]],.val (ptrV n),.dk (.asks 41 42),.bld (⟨⟨#[114,101,97,100]⟩,[.func (.func 29) #[ptrV n] #[],.func (.func 36) #[] #[],.func (.func 37) #[] #[],.func (.func 40) #[] #[]],.asks 41 42⟩:EntC),.ins (⟨⟨#[114,101,97,100]⟩,[.func (.func 29) #[ptrV n] #[],.func (.func 36) #[] #[],.func (.func 37) #[] #[],.func (.func 40) #[] #[]],.asks 41 42⟩:EntC),.val (ptrV n),.val (.func (.func 29) #[ptrV n] #[]),.sl [.func (.func 29) #[ptrV n] #[],.func (.func 36) #[] #[]],.val (ptrV n),.dk (.asks 43 44),.bld (⟨⟨#[108,115]⟩,[.func (.func 29) #[ptrV n] #[],.func (.func 36) #[] #[]],.asks 43 44⟩:EntC),.ins (⟨⟨#[108,115]⟩,[.func (.func 29) #[ptrV n] #[],.func (.func 36) #[] #[]],.asks 43 44⟩:EntC),.val (ptrV n),.val (.func (.func 29) #[ptrV n] #[]),.sl [.func (.func 29) #[ptrV n] #[],.func (.func 36) #[] #[]],.val (ptrV n),.dk (.asks 45 46),.bld (⟨⟨#[115,116,97,116]⟩,[.func (.func 29) #[ptrV n] #[],.func (.func 36) #[] #[]],.asks 45 46⟩:EntC),.ins (⟨⟨#[115,116,97,116]⟩,[.func (.func 29) #[ptrV n] #[],.func (.func 36) #[] #[]],.asks 45 46⟩:EntC),.val (ptrV n),.val (.func (.func 29) #[ptrV n] #[]),.sl [.func (.func 29) #[ptrV n] #[]],.val (ptrV n),.dk (.bound 47),.bld (⟨⟨#[97,103,97,105,110]⟩,[.func (.func 29) #[ptrV n] #[]],.bound 47⟩:EntC),.ins (⟨⟨#[97,103,97,105,110]⟩,[.func (.func 29) #[ptrV n] #[]],.bound 47⟩:EntC),.sl [.func (.func 37) #[] #[]],.val (ptrV n),.dk (.bound 48),.bld (⟨⟨#[103,111]⟩,[.func (.func 37) #[] #[]],.bound 48⟩:EntC),.ins (⟨⟨#[103,111]⟩,[.func (.func 37) #[] #[]],.bound 48⟩:EntC),.sl [.func (.func 37) #[] #[]],.val (ptrV n),.val (ptrV n),.val (ptrV n),.val (.func (.func 50) #[ptrV n] #[]),.dk (.okof 50),.bld (⟨⟨#[100,114,111,112]⟩,[.func (.func 37) #[] #[]],.okof 50⟩:EntC),.ins (⟨⟨#[100,114,111,112]⟩,[.func (.func 37) #[] #[]],.okof 50⟩:EntC),.sl [.func (.func 37) #[] #[]],.val (ptrV n),.val (ptrV n),.val (ptrV n),.val (.func (.func 51) #[ptrV n] #[]),.dk (.okof 51),.bld (⟨⟨#[116,119,105,99,101]⟩,[.func (.func 37) #[] #[]],.okof 51⟩:EntC),.ins (⟨⟨#[116,119,105,99,101]⟩,[.func (.func 37) #[] #[]],.okof 51⟩:EntC),.val (ptrV n),.dk (.bound 52),.bld (⟨⟨#[110,101,116]⟩,[],.bound 52⟩:EntC),.ins (⟨⟨#[110,101,116]⟩,[],.bound 52⟩:EntC),.val (ptrV n),.dk (.bound 53),.bld (⟨⟨#[116,114,101,101]⟩,[],.bound 53⟩:EntC),.ins (⟨⟨#[116,114,101,101]⟩,[],.bound 53⟩:EntC),.res,.res]
def IsOps (l:List Oper):Prop:=l=regAt Tryz.f18.body 1
def oprC (l:List Oper)(i:Nat):Oper:=l.getD i default
theorem noZero {l:List Oper}(hl:IsOps l):∀ x∈l,x.dst≠some 0:=by
 have h:(l.all fun x=>x.dst != some 0)=true:=by unfold IsOps at hl;subst hl;kernel_rfl
 intro x hx
 simpa using List.all_eq_true.1 h x hx
theorem cmdLen {l:List Oper}(hl:IsOps l):l.length=81:=by unfold IsOps at hl;subst hl;kernel_rfl
theorem cmdAt (l:List Oper)(i:Nat)(o:Oper)(h:l[i]?=some o):o=oprC l i:=by
 unfold oprC;rw [List.getD_eq_getElem?_getD,h];rfl
section
variable {n:Nat}{w0:World}{l:List Oper}
theorem cj0 {Q:Exit→Act→World→Prop}{a0:Act}(hl:IsOps l):JobC n (cmdE n) (cmdK n) w0 Q l a0 0 (oprC l 0) :=
 jb_mp (by unfold IsOps at hl;subst hl;kernel_rfl) (by unfold IsOps at hl;subst hl;kernel_rfl) rfl (by unfold IsOps at hl;subst hl;kernel_rfl)
theorem cj1 {Q:Exit→Act→World→Prop}{a0:Act}(hl:IsOps l)(h0:a0.tmps[0]?=some (ptrV n)):JobC n (cmdE n) (cmdK n) w0 Q l a0 1 (oprC l 1) :=
 have _:=h0
 jv_p0 (d:=4) (by unfold IsOps at hl;subst hl;kernel_rfl) (by unfold IsOps at hl;subst hl;kernel_rfl) rfl (by unfold IsOps at hl;subst hl;kernel_rfl) h0 (noZero hl)
theorem cj2 {Q:Exit→Act→World→Prop}{a0:Act}(hl:IsOps l)(h0:a0.tmps[0]?=some (ptrV n)):JobC n (cmdE n) (cmdK n) w0 Q l a0 2 (oprC l 2) :=
 have _:=h0
 jv_mk (jb:=1) (ob:=oprC l 1) (t:=4) (d:=5) (by unfold IsOps at hl;subst hl;kernel_rfl) (by unfold IsOps at hl;subst hl;kernel_rfl) rfl (by unfold IsOps at hl;subst hl;kernel_rfl) (by unfold IsOps at hl;subst hl;kernel_rfl) (by unfold IsOps at hl;subst hl;kernel_rfl) rfl (by unfold IsOps at hl;subst hl;kernel_rfl)
theorem cj3 {Q:Exit→Act→World→Prop}{a0:Act}(hl:IsOps l)(h0:a0.tmps[0]?=some (ptrV n)):JobC n (cmdE n) (cmdK n) w0 Q l a0 3 (oprC l 3) :=
 have _:=h0
 jv_sl (L:=[.func (.func 29) #[ptrV n] #[],.func (.func 30) #[] #[],.func (.func 31) #[] #[]]) (parts:=#[(0,.tmp 5),(1,.func 30),(2,.func 31)]) (ps:=#[(0,.func (.func 29) #[ptrV n] #[]),(1,.func (.func 30) #[] #[]),(2,.func (.func 31) #[] #[])]) (u := .func (.func 29) #[ptrV n] #[]) (jb:=2) (ob:=oprC l 2) (t:=5) (d:=6) (by unfold IsOps at hl;subst hl;kernel_rfl) (by unfold IsOps at hl;subst hl;kernel_rfl) rfl (by unfold IsOps at hl;subst hl;kernel_rfl) (fun a h=>by simp only [List.map_toArray,List.map_cons,List.map_nil,h];try rfl) (by simp) (by simp) (by kernel_rfl) (by unfold IsOps at hl;subst hl;kernel_rfl) (by unfold IsOps at hl;subst hl;kernel_rfl) rfl (by unfold IsOps at hl;subst hl;kernel_rfl)
theorem cj4 {Q:Exit→Act→World→Prop}{a0:Act}(hl:IsOps l)(h0:a0.tmps[0]?=some (ptrV n)):JobC n (cmdE n) (cmdK n) w0 Q l a0 4 (oprC l 4) :=
 have _:=h0
 jv_p0 (d:=7) (by unfold IsOps at hl;subst hl;kernel_rfl) (by unfold IsOps at hl;subst hl;kernel_rfl) rfl (by unfold IsOps at hl;subst hl;kernel_rfl) h0 (noZero hl)
theorem cj5 {Q:Exit→Act→World→Prop}{a0:Act}(hl:IsOps l)(h0:a0.tmps[0]?=some (ptrV n)):JobC n (cmdE n) (cmdK n) w0 Q l a0 5 (oprC l 5) :=
 have _:=h0
 jv_asks (ts:=#[32,106,55]) (jb:=4) (ob:=oprC l 4) (t:=7) (d:=8) (by unfold IsOps at hl;subst hl;kernel_rfl) (by unfold IsOps at hl;subst hl;kernel_rfl) rfl (by unfold IsOps at hl;subst hl;kernel_rfl) (by unfold IsOps at hl;subst hl;kernel_rfl) (by unfold IsOps at hl;subst hl;kernel_rfl) rfl (by unfold IsOps at hl;subst hl;kernel_rfl)
theorem cj6 {Q:Exit→Act→World→Prop}{a0:Act}(hl:IsOps l)(h0:a0.tmps[0]?=some (ptrV n)):JobC n (cmdE n) (cmdK n) w0 Q l a0 6 (oprC l 6) :=
 have _:=h0
 jv_bld (E:=(⟨⟨#[109,97,107,101]⟩,[.func (.func 29) #[ptrV n] #[],.func (.func 30) #[] #[],.func (.func 31) #[] #[]],.asks 33 34⟩:EntC)) (js:=3) (os:=oprC l 3) (s:=6) (jb:=5) (ob:=oprC l 5) (t:=8) (d:=9) (by unfold IsOps at hl;subst hl;kernel_rfl) (by unfold IsOps at hl;subst hl;kernel_rfl) rfl (by unfold IsOps at hl;subst hl;kernel_rfl) (by unfold IsOps at hl;subst hl;kernel_rfl) (by unfold IsOps at hl;subst hl;kernel_rfl) rfl (by unfold IsOps at hl;subst hl;kernel_rfl) (by unfold IsOps at hl;subst hl;kernel_rfl) (by unfold IsOps at hl;subst hl;kernel_rfl) rfl (by unfold IsOps at hl;subst hl;kernel_rfl)
theorem cj7 {Q:Exit→Act→World→Prop}{a0:Act}(hl:IsOps l)(h0:a0.tmps[0]?=some (ptrV n)):JobC n (cmdE n) (cmdK n) w0 Q l a0 7 (oprC l 7) :=
 have _:=h0
 jb_ins (E:=(⟨⟨#[109,97,107,101]⟩,[.func (.func 29) #[ptrV n] #[],.func (.func 30) #[] #[],.func (.func 31) #[] #[]],.asks 33 34⟩:EntC)) (j0:=0) (o0:=oprC l 0) (jb:=6) (ob:=oprC l 6) (t:=9) (e:=0) (by unfold IsOps at hl;subst hl;kernel_rfl) (by unfold IsOps at hl;subst hl;kernel_rfl) rfl (by unfold IsOps at hl;subst hl;kernel_rfl) (show ByteArray.size ⟨#[109,97,107,101]⟩≤1000 by decide) rfl (by unfold IsOps at hl;subst hl;kernel_rfl) (by unfold IsOps at hl;subst hl;kernel_rfl) rfl (by unfold IsOps at hl;subst hl;kernel_rfl) (by unfold IsOps at hl;subst hl;kernel_rfl) (by unfold IsOps at hl;subst hl;kernel_rfl) rfl (by unfold IsOps at hl;subst hl;kernel_rfl)
theorem cj8 {Q:Exit→Act→World→Prop}{a0:Act}(hl:IsOps l)(h0:a0.tmps[0]?=some (ptrV n)):JobC n (cmdE n) (cmdK n) w0 Q l a0 8 (oprC l 8) :=
 have _:=h0
 jv_p0 (d:=10) (by unfold IsOps at hl;subst hl;kernel_rfl) (by unfold IsOps at hl;subst hl;kernel_rfl) rfl (by unfold IsOps at hl;subst hl;kernel_rfl) h0 (noZero hl)
theorem cj9 {Q:Exit→Act→World→Prop}{a0:Act}(hl:IsOps l)(h0:a0.tmps[0]?=some (ptrV n)):JobC n (cmdE n) (cmdK n) w0 Q l a0 9 (oprC l 9) :=
 have _:=h0
 jv_mk (jb:=8) (ob:=oprC l 8) (t:=10) (d:=11) (by unfold IsOps at hl;subst hl;kernel_rfl) (by unfold IsOps at hl;subst hl;kernel_rfl) rfl (by unfold IsOps at hl;subst hl;kernel_rfl) (by unfold IsOps at hl;subst hl;kernel_rfl) (by unfold IsOps at hl;subst hl;kernel_rfl) rfl (by unfold IsOps at hl;subst hl;kernel_rfl)
theorem cj10 {Q:Exit→Act→World→Prop}{a0:Act}(hl:IsOps l)(h0:a0.tmps[0]?=some (ptrV n)):JobC n (cmdE n) (cmdK n) w0 Q l a0 10 (oprC l 10) :=
 have _:=h0
 jv_sl (L:=[.func (.func 29) #[ptrV n] #[],.func (.func 30) #[] #[]]) (parts:=#[(0,.tmp 11),(1,.func 30)]) (ps:=#[(0,.func (.func 29) #[ptrV n] #[]),(1,.func (.func 30) #[] #[])]) (u := .func (.func 29) #[ptrV n] #[]) (jb:=9) (ob:=oprC l 9) (t:=11) (d:=12) (by unfold IsOps at hl;subst hl;kernel_rfl) (by unfold IsOps at hl;subst hl;kernel_rfl) rfl (by unfold IsOps at hl;subst hl;kernel_rfl) (fun a h=>by simp only [List.map_toArray,List.map_cons,List.map_nil,h];try rfl) (by simp) (by simp) (by kernel_rfl) (by unfold IsOps at hl;subst hl;kernel_rfl) (by unfold IsOps at hl;subst hl;kernel_rfl) rfl (by unfold IsOps at hl;subst hl;kernel_rfl)
theorem cj11 {Q:Exit→Act→World→Prop}{a0:Act}(hl:IsOps l)(h0:a0.tmps[0]?=some (ptrV n)):JobC n (cmdE n) (cmdK n) w0 Q l a0 11 (oprC l 11) :=
 have _:=h0
 jv_p0 (d:=13) (by unfold IsOps at hl;subst hl;kernel_rfl) (by unfold IsOps at hl;subst hl;kernel_rfl) rfl (by unfold IsOps at hl;subst hl;kernel_rfl) h0 (noZero hl)
theorem cj12 {Q:Exit→Act→World→Prop}{a0:Act}(hl:IsOps l)(h0:a0.tmps[0]?=some (ptrV n)):JobC n (cmdE n) (cmdK n) w0 Q l a0 12 (oprC l 12) :=
 have _:=h0
 jv_asks (ts:=#[32,106,55]) (jb:=11) (ob:=oprC l 11) (t:=13) (d:=14) (by unfold IsOps at hl;subst hl;kernel_rfl) (by unfold IsOps at hl;subst hl;kernel_rfl) rfl (by unfold IsOps at hl;subst hl;kernel_rfl) (by unfold IsOps at hl;subst hl;kernel_rfl) (by unfold IsOps at hl;subst hl;kernel_rfl) rfl (by unfold IsOps at hl;subst hl;kernel_rfl)
theorem cj13 {Q:Exit→Act→World→Prop}{a0:Act}(hl:IsOps l)(h0:a0.tmps[0]?=some (ptrV n)):JobC n (cmdE n) (cmdK n) w0 Q l a0 13 (oprC l 13) :=
 have _:=h0
 jv_bld (E:=(⟨⟨#[114,109]⟩,[.func (.func 29) #[ptrV n] #[],.func (.func 30) #[] #[]],.asks 35 34⟩:EntC)) (js:=10) (os:=oprC l 10) (s:=12) (jb:=12) (ob:=oprC l 12) (t:=14) (d:=15) (by unfold IsOps at hl;subst hl;kernel_rfl) (by unfold IsOps at hl;subst hl;kernel_rfl) rfl (by unfold IsOps at hl;subst hl;kernel_rfl) (by unfold IsOps at hl;subst hl;kernel_rfl) (by unfold IsOps at hl;subst hl;kernel_rfl) rfl (by unfold IsOps at hl;subst hl;kernel_rfl) (by unfold IsOps at hl;subst hl;kernel_rfl) (by unfold IsOps at hl;subst hl;kernel_rfl) rfl (by unfold IsOps at hl;subst hl;kernel_rfl)
theorem cj14 {Q:Exit→Act→World→Prop}{a0:Act}(hl:IsOps l)(h0:a0.tmps[0]?=some (ptrV n)):JobC n (cmdE n) (cmdK n) w0 Q l a0 14 (oprC l 14) :=
 have _:=h0
 jb_ins (E:=(⟨⟨#[114,109]⟩,[.func (.func 29) #[ptrV n] #[],.func (.func 30) #[] #[]],.asks 35 34⟩:EntC)) (j0:=0) (o0:=oprC l 0) (jb:=13) (ob:=oprC l 13) (t:=15) (e:=1) (by unfold IsOps at hl;subst hl;kernel_rfl) (by unfold IsOps at hl;subst hl;kernel_rfl) rfl (by unfold IsOps at hl;subst hl;kernel_rfl) (show ByteArray.size ⟨#[114,109]⟩≤1000 by decide) rfl (by unfold IsOps at hl;subst hl;kernel_rfl) (by unfold IsOps at hl;subst hl;kernel_rfl) rfl (by unfold IsOps at hl;subst hl;kernel_rfl) (by unfold IsOps at hl;subst hl;kernel_rfl) (by unfold IsOps at hl;subst hl;kernel_rfl) rfl (by unfold IsOps at hl;subst hl;kernel_rfl)
theorem cj15 {Q:Exit→Act→World→Prop}{a0:Act}(hl:IsOps l)(h0:a0.tmps[0]?=some (ptrV n)):JobC n (cmdE n) (cmdK n) w0 Q l a0 15 (oprC l 15) :=
 have _:=h0
 jv_p0 (d:=16) (by unfold IsOps at hl;subst hl;kernel_rfl) (by unfold IsOps at hl;subst hl;kernel_rfl) rfl (by unfold IsOps at hl;subst hl;kernel_rfl) h0 (noZero hl)
theorem cj16 {Q:Exit→Act→World→Prop}{a0:Act}(hl:IsOps l)(h0:a0.tmps[0]?=some (ptrV n)):JobC n (cmdE n) (cmdK n) w0 Q l a0 16 (oprC l 16) :=
 have _:=h0
 jv_mk (jb:=15) (ob:=oprC l 15) (t:=16) (d:=17) (by unfold IsOps at hl;subst hl;kernel_rfl) (by unfold IsOps at hl;subst hl;kernel_rfl) rfl (by unfold IsOps at hl;subst hl;kernel_rfl) (by unfold IsOps at hl;subst hl;kernel_rfl) (by unfold IsOps at hl;subst hl;kernel_rfl) rfl (by unfold IsOps at hl;subst hl;kernel_rfl)
theorem cj17 {Q:Exit→Act→World→Prop}{a0:Act}(hl:IsOps l)(h0:a0.tmps[0]?=some (ptrV n)):JobC n (cmdE n) (cmdK n) w0 Q l a0 17 (oprC l 17) :=
 have _:=h0
 jv_sl (L:=[.func (.func 29) #[ptrV n] #[],.func (.func 36) #[] #[],.func (.func 37) #[] #[],.func (.func 38) #[] #[]]) (parts:=#[(0,.tmp 17),(1,.func 36),(2,.func 37),(3,.func 38)]) (ps:=#[(0,.func (.func 29) #[ptrV n] #[]),(1,.func (.func 36) #[] #[]),(2,.func (.func 37) #[] #[]),(3,.func (.func 38) #[] #[])]) (u := .func (.func 29) #[ptrV n] #[]) (jb:=16) (ob:=oprC l 16) (t:=17) (d:=18) (by unfold IsOps at hl;subst hl;kernel_rfl) (by unfold IsOps at hl;subst hl;kernel_rfl) rfl (by unfold IsOps at hl;subst hl;kernel_rfl) (fun a h=>by simp only [List.map_toArray,List.map_cons,List.map_nil,h];try rfl) (by simp) (by simp) (by kernel_rfl) (by unfold IsOps at hl;subst hl;kernel_rfl) (by unfold IsOps at hl;subst hl;kernel_rfl) rfl (by unfold IsOps at hl;subst hl;kernel_rfl)
theorem cj18 {Q:Exit→Act→World→Prop}{a0:Act}(hl:IsOps l)(h0:a0.tmps[0]?=some (ptrV n)):JobC n (cmdE n) (cmdK n) w0 Q l a0 18 (oprC l 18) :=
 have _:=h0
 jv_p0 (d:=19) (by unfold IsOps at hl;subst hl;kernel_rfl) (by unfold IsOps at hl;subst hl;kernel_rfl) rfl (by unfold IsOps at hl;subst hl;kernel_rfl) h0 (noZero hl)
theorem cj19 {Q:Exit→Act→World→Prop}{a0:Act}(hl:IsOps l)(h0:a0.tmps[0]?=some (ptrV n)):JobC n (cmdE n) (cmdK n) w0 Q l a0 19 (oprC l 19) :=
 have _:=h0
 jv_asks (ts:=#[32,106,55]) (jb:=18) (ob:=oprC l 18) (t:=19) (d:=20) (by unfold IsOps at hl;subst hl;kernel_rfl) (by unfold IsOps at hl;subst hl;kernel_rfl) rfl (by unfold IsOps at hl;subst hl;kernel_rfl) (by unfold IsOps at hl;subst hl;kernel_rfl) (by unfold IsOps at hl;subst hl;kernel_rfl) rfl (by unfold IsOps at hl;subst hl;kernel_rfl)
theorem cj20 {Q:Exit→Act→World→Prop}{a0:Act}(hl:IsOps l)(h0:a0.tmps[0]?=some (ptrV n)):JobC n (cmdE n) (cmdK n) w0 Q l a0 20 (oprC l 20) :=
 have _:=h0
 jv_bld (E:=(⟨⟨#[119,114,105,116,101]⟩,[.func (.func 29) #[ptrV n] #[],.func (.func 36) #[] #[],.func (.func 37) #[] #[],.func (.func 38) #[] #[]],.asks 39 34⟩:EntC)) (js:=17) (os:=oprC l 17) (s:=18) (jb:=19) (ob:=oprC l 19) (t:=20) (d:=21) (by unfold IsOps at hl;subst hl;kernel_rfl) (by unfold IsOps at hl;subst hl;kernel_rfl) rfl (by unfold IsOps at hl;subst hl;kernel_rfl) (by unfold IsOps at hl;subst hl;kernel_rfl) (by unfold IsOps at hl;subst hl;kernel_rfl) rfl (by unfold IsOps at hl;subst hl;kernel_rfl) (by unfold IsOps at hl;subst hl;kernel_rfl) (by unfold IsOps at hl;subst hl;kernel_rfl) rfl (by unfold IsOps at hl;subst hl;kernel_rfl)
theorem cj21 {Q:Exit→Act→World→Prop}{a0:Act}(hl:IsOps l)(h0:a0.tmps[0]?=some (ptrV n)):JobC n (cmdE n) (cmdK n) w0 Q l a0 21 (oprC l 21) :=
 have _:=h0
 jb_ins (E:=(⟨⟨#[119,114,105,116,101]⟩,[.func (.func 29) #[ptrV n] #[],.func (.func 36) #[] #[],.func (.func 37) #[] #[],.func (.func 38) #[] #[]],.asks 39 34⟩:EntC)) (j0:=0) (o0:=oprC l 0) (jb:=20) (ob:=oprC l 20) (t:=21) (e:=2) (by unfold IsOps at hl;subst hl;kernel_rfl) (by unfold IsOps at hl;subst hl;kernel_rfl) rfl (by unfold IsOps at hl;subst hl;kernel_rfl) (show ByteArray.size ⟨#[119,114,105,116,101]⟩≤1000 by decide) rfl (by unfold IsOps at hl;subst hl;kernel_rfl) (by unfold IsOps at hl;subst hl;kernel_rfl) rfl (by unfold IsOps at hl;subst hl;kernel_rfl) (by unfold IsOps at hl;subst hl;kernel_rfl) (by unfold IsOps at hl;subst hl;kernel_rfl) rfl (by unfold IsOps at hl;subst hl;kernel_rfl)
theorem cj22 {Q:Exit→Act→World→Prop}{a0:Act}(hl:IsOps l)(h0:a0.tmps[0]?=some (ptrV n)):JobC n (cmdE n) (cmdK n) w0 Q l a0 22 (oprC l 22) :=
 have _:=h0
 jv_p0 (d:=22) (by unfold IsOps at hl;subst hl;kernel_rfl) (by unfold IsOps at hl;subst hl;kernel_rfl) rfl (by unfold IsOps at hl;subst hl;kernel_rfl) h0 (noZero hl)
theorem cj23 {Q:Exit→Act→World→Prop}{a0:Act}(hl:IsOps l)(h0:a0.tmps[0]?=some (ptrV n)):JobC n (cmdE n) (cmdK n) w0 Q l a0 23 (oprC l 23) :=
 have _:=h0
 jv_mk (jb:=22) (ob:=oprC l 22) (t:=22) (d:=23) (by unfold IsOps at hl;subst hl;kernel_rfl) (by unfold IsOps at hl;subst hl;kernel_rfl) rfl (by unfold IsOps at hl;subst hl;kernel_rfl) (by unfold IsOps at hl;subst hl;kernel_rfl) (by unfold IsOps at hl;subst hl;kernel_rfl) rfl (by unfold IsOps at hl;subst hl;kernel_rfl)
theorem cj24 {Q:Exit→Act→World→Prop}{a0:Act}(hl:IsOps l)(h0:a0.tmps[0]?=some (ptrV n)):JobC n (cmdE n) (cmdK n) w0 Q l a0 24 (oprC l 24) :=
 have _:=h0
 jv_sl (L:=[.func (.func 29) #[ptrV n] #[],.func (.func 36) #[] #[],.func (.func 37) #[] #[],.func (.func 40) #[] #[]]) (parts:=#[(0,.tmp 23),(1,.func 36),(2,.func 37),(3,.func 40)]) (ps:=#[(0,.func (.func 29) #[ptrV n] #[]),(1,.func (.func 36) #[] #[]),(2,.func (.func 37) #[] #[]),(3,.func (.func 40) #[] #[])]) (u := .func (.func 29) #[ptrV n] #[]) (jb:=23) (ob:=oprC l 23) (t:=23) (d:=24) (by unfold IsOps at hl;subst hl;kernel_rfl) (by unfold IsOps at hl;subst hl;kernel_rfl) rfl (by unfold IsOps at hl;subst hl;kernel_rfl) (fun a h=>by simp only [List.map_toArray,List.map_cons,List.map_nil,h];try rfl) (by simp) (by simp) (by kernel_rfl) (by unfold IsOps at hl;subst hl;kernel_rfl) (by unfold IsOps at hl;subst hl;kernel_rfl) rfl (by unfold IsOps at hl;subst hl;kernel_rfl)
theorem cj25 {Q:Exit→Act→World→Prop}{a0:Act}(hl:IsOps l)(h0:a0.tmps[0]?=some (ptrV n)):JobC n (cmdE n) (cmdK n) w0 Q l a0 25 (oprC l 25) :=
 have _:=h0
 jv_p0 (d:=25) (by unfold IsOps at hl;subst hl;kernel_rfl) (by unfold IsOps at hl;subst hl;kernel_rfl) rfl (by unfold IsOps at hl;subst hl;kernel_rfl) h0 (noZero hl)
theorem cj26 {Q:Exit→Act→World→Prop}{a0:Act}(hl:IsOps l)(h0:a0.tmps[0]?=some (ptrV n)):JobC n (cmdE n) (cmdK n) w0 Q l a0 26 (oprC l 26) :=
 have _:=h0
 jv_asks (ts:=#[32,106,55]) (jb:=25) (ob:=oprC l 25) (t:=25) (d:=26) (by unfold IsOps at hl;subst hl;kernel_rfl) (by unfold IsOps at hl;subst hl;kernel_rfl) rfl (by unfold IsOps at hl;subst hl;kernel_rfl) (by unfold IsOps at hl;subst hl;kernel_rfl) (by unfold IsOps at hl;subst hl;kernel_rfl) rfl (by unfold IsOps at hl;subst hl;kernel_rfl)
theorem cj27 {Q:Exit→Act→World→Prop}{a0:Act}(hl:IsOps l)(h0:a0.tmps[0]?=some (ptrV n)):JobC n (cmdE n) (cmdK n) w0 Q l a0 27 (oprC l 27) :=
 have _:=h0
 jv_bld (E:=(⟨⟨#[114,101,97,100]⟩,[.func (.func 29) #[ptrV n] #[],.func (.func 36) #[] #[],.func (.func 37) #[] #[],.func (.func 40) #[] #[]],.asks 41 42⟩:EntC)) (js:=24) (os:=oprC l 24) (s:=24) (jb:=26) (ob:=oprC l 26) (t:=26) (d:=27) (by unfold IsOps at hl;subst hl;kernel_rfl) (by unfold IsOps at hl;subst hl;kernel_rfl) rfl (by unfold IsOps at hl;subst hl;kernel_rfl) (by unfold IsOps at hl;subst hl;kernel_rfl) (by unfold IsOps at hl;subst hl;kernel_rfl) rfl (by unfold IsOps at hl;subst hl;kernel_rfl) (by unfold IsOps at hl;subst hl;kernel_rfl) (by unfold IsOps at hl;subst hl;kernel_rfl) rfl (by unfold IsOps at hl;subst hl;kernel_rfl)
theorem cj28 {Q:Exit→Act→World→Prop}{a0:Act}(hl:IsOps l)(h0:a0.tmps[0]?=some (ptrV n)):JobC n (cmdE n) (cmdK n) w0 Q l a0 28 (oprC l 28) :=
 have _:=h0
 jb_ins (E:=(⟨⟨#[114,101,97,100]⟩,[.func (.func 29) #[ptrV n] #[],.func (.func 36) #[] #[],.func (.func 37) #[] #[],.func (.func 40) #[] #[]],.asks 41 42⟩:EntC)) (j0:=0) (o0:=oprC l 0) (jb:=27) (ob:=oprC l 27) (t:=27) (e:=3) (by unfold IsOps at hl;subst hl;kernel_rfl) (by unfold IsOps at hl;subst hl;kernel_rfl) rfl (by unfold IsOps at hl;subst hl;kernel_rfl) (show ByteArray.size ⟨#[114,101,97,100]⟩≤1000 by decide) rfl (by unfold IsOps at hl;subst hl;kernel_rfl) (by unfold IsOps at hl;subst hl;kernel_rfl) rfl (by unfold IsOps at hl;subst hl;kernel_rfl) (by unfold IsOps at hl;subst hl;kernel_rfl) (by unfold IsOps at hl;subst hl;kernel_rfl) rfl (by unfold IsOps at hl;subst hl;kernel_rfl)
theorem cj29 {Q:Exit→Act→World→Prop}{a0:Act}(hl:IsOps l)(h0:a0.tmps[0]?=some (ptrV n)):JobC n (cmdE n) (cmdK n) w0 Q l a0 29 (oprC l 29) :=
 have _:=h0
 jv_p0 (d:=28) (by unfold IsOps at hl;subst hl;kernel_rfl) (by unfold IsOps at hl;subst hl;kernel_rfl) rfl (by unfold IsOps at hl;subst hl;kernel_rfl) h0 (noZero hl)
theorem cj30 {Q:Exit→Act→World→Prop}{a0:Act}(hl:IsOps l)(h0:a0.tmps[0]?=some (ptrV n)):JobC n (cmdE n) (cmdK n) w0 Q l a0 30 (oprC l 30) :=
 have _:=h0
 jv_mk (jb:=29) (ob:=oprC l 29) (t:=28) (d:=29) (by unfold IsOps at hl;subst hl;kernel_rfl) (by unfold IsOps at hl;subst hl;kernel_rfl) rfl (by unfold IsOps at hl;subst hl;kernel_rfl) (by unfold IsOps at hl;subst hl;kernel_rfl) (by unfold IsOps at hl;subst hl;kernel_rfl) rfl (by unfold IsOps at hl;subst hl;kernel_rfl)
theorem cj31 {Q:Exit→Act→World→Prop}{a0:Act}(hl:IsOps l)(h0:a0.tmps[0]?=some (ptrV n)):JobC n (cmdE n) (cmdK n) w0 Q l a0 31 (oprC l 31) :=
 have _:=h0
 jv_sl (L:=[.func (.func 29) #[ptrV n] #[],.func (.func 36) #[] #[]]) (parts:=#[(0,.tmp 29),(1,.func 36)]) (ps:=#[(0,.func (.func 29) #[ptrV n] #[]),(1,.func (.func 36) #[] #[])]) (u := .func (.func 29) #[ptrV n] #[]) (jb:=30) (ob:=oprC l 30) (t:=29) (d:=30) (by unfold IsOps at hl;subst hl;kernel_rfl) (by unfold IsOps at hl;subst hl;kernel_rfl) rfl (by unfold IsOps at hl;subst hl;kernel_rfl) (fun a h=>by simp only [List.map_toArray,List.map_cons,List.map_nil,h];try rfl) (by simp) (by simp) (by kernel_rfl) (by unfold IsOps at hl;subst hl;kernel_rfl) (by unfold IsOps at hl;subst hl;kernel_rfl) rfl (by unfold IsOps at hl;subst hl;kernel_rfl)
theorem cj32 {Q:Exit→Act→World→Prop}{a0:Act}(hl:IsOps l)(h0:a0.tmps[0]?=some (ptrV n)):JobC n (cmdE n) (cmdK n) w0 Q l a0 32 (oprC l 32) :=
 have _:=h0
 jv_p0 (d:=31) (by unfold IsOps at hl;subst hl;kernel_rfl) (by unfold IsOps at hl;subst hl;kernel_rfl) rfl (by unfold IsOps at hl;subst hl;kernel_rfl) h0 (noZero hl)
theorem cj33 {Q:Exit→Act→World→Prop}{a0:Act}(hl:IsOps l)(h0:a0.tmps[0]?=some (ptrV n)):JobC n (cmdE n) (cmdK n) w0 Q l a0 33 (oprC l 33) :=
 have _:=h0
 jv_asks (ts:=#[32,106,55]) (jb:=32) (ob:=oprC l 32) (t:=31) (d:=32) (by unfold IsOps at hl;subst hl;kernel_rfl) (by unfold IsOps at hl;subst hl;kernel_rfl) rfl (by unfold IsOps at hl;subst hl;kernel_rfl) (by unfold IsOps at hl;subst hl;kernel_rfl) (by unfold IsOps at hl;subst hl;kernel_rfl) rfl (by unfold IsOps at hl;subst hl;kernel_rfl)
theorem cj34 {Q:Exit→Act→World→Prop}{a0:Act}(hl:IsOps l)(h0:a0.tmps[0]?=some (ptrV n)):JobC n (cmdE n) (cmdK n) w0 Q l a0 34 (oprC l 34) :=
 have _:=h0
 jv_bld (E:=(⟨⟨#[108,115]⟩,[.func (.func 29) #[ptrV n] #[],.func (.func 36) #[] #[]],.asks 43 44⟩:EntC)) (js:=31) (os:=oprC l 31) (s:=30) (jb:=33) (ob:=oprC l 33) (t:=32) (d:=33) (by unfold IsOps at hl;subst hl;kernel_rfl) (by unfold IsOps at hl;subst hl;kernel_rfl) rfl (by unfold IsOps at hl;subst hl;kernel_rfl) (by unfold IsOps at hl;subst hl;kernel_rfl) (by unfold IsOps at hl;subst hl;kernel_rfl) rfl (by unfold IsOps at hl;subst hl;kernel_rfl) (by unfold IsOps at hl;subst hl;kernel_rfl) (by unfold IsOps at hl;subst hl;kernel_rfl) rfl (by unfold IsOps at hl;subst hl;kernel_rfl)
theorem cj35 {Q:Exit→Act→World→Prop}{a0:Act}(hl:IsOps l)(h0:a0.tmps[0]?=some (ptrV n)):JobC n (cmdE n) (cmdK n) w0 Q l a0 35 (oprC l 35) :=
 have _:=h0
 jb_ins (E:=(⟨⟨#[108,115]⟩,[.func (.func 29) #[ptrV n] #[],.func (.func 36) #[] #[]],.asks 43 44⟩:EntC)) (j0:=0) (o0:=oprC l 0) (jb:=34) (ob:=oprC l 34) (t:=33) (e:=4) (by unfold IsOps at hl;subst hl;kernel_rfl) (by unfold IsOps at hl;subst hl;kernel_rfl) rfl (by unfold IsOps at hl;subst hl;kernel_rfl) (show ByteArray.size ⟨#[108,115]⟩≤1000 by decide) rfl (by unfold IsOps at hl;subst hl;kernel_rfl) (by unfold IsOps at hl;subst hl;kernel_rfl) rfl (by unfold IsOps at hl;subst hl;kernel_rfl) (by unfold IsOps at hl;subst hl;kernel_rfl) (by unfold IsOps at hl;subst hl;kernel_rfl) rfl (by unfold IsOps at hl;subst hl;kernel_rfl)
theorem cj36 {Q:Exit→Act→World→Prop}{a0:Act}(hl:IsOps l)(h0:a0.tmps[0]?=some (ptrV n)):JobC n (cmdE n) (cmdK n) w0 Q l a0 36 (oprC l 36) :=
 have _:=h0
 jv_p0 (d:=34) (by unfold IsOps at hl;subst hl;kernel_rfl) (by unfold IsOps at hl;subst hl;kernel_rfl) rfl (by unfold IsOps at hl;subst hl;kernel_rfl) h0 (noZero hl)
theorem cj37 {Q:Exit→Act→World→Prop}{a0:Act}(hl:IsOps l)(h0:a0.tmps[0]?=some (ptrV n)):JobC n (cmdE n) (cmdK n) w0 Q l a0 37 (oprC l 37) :=
 have _:=h0
 jv_mk (jb:=36) (ob:=oprC l 36) (t:=34) (d:=35) (by unfold IsOps at hl;subst hl;kernel_rfl) (by unfold IsOps at hl;subst hl;kernel_rfl) rfl (by unfold IsOps at hl;subst hl;kernel_rfl) (by unfold IsOps at hl;subst hl;kernel_rfl) (by unfold IsOps at hl;subst hl;kernel_rfl) rfl (by unfold IsOps at hl;subst hl;kernel_rfl)
theorem cj38 {Q:Exit→Act→World→Prop}{a0:Act}(hl:IsOps l)(h0:a0.tmps[0]?=some (ptrV n)):JobC n (cmdE n) (cmdK n) w0 Q l a0 38 (oprC l 38) :=
 have _:=h0
 jv_sl (L:=[.func (.func 29) #[ptrV n] #[],.func (.func 36) #[] #[]]) (parts:=#[(0,.tmp 35),(1,.func 36)]) (ps:=#[(0,.func (.func 29) #[ptrV n] #[]),(1,.func (.func 36) #[] #[])]) (u := .func (.func 29) #[ptrV n] #[]) (jb:=37) (ob:=oprC l 37) (t:=35) (d:=36) (by unfold IsOps at hl;subst hl;kernel_rfl) (by unfold IsOps at hl;subst hl;kernel_rfl) rfl (by unfold IsOps at hl;subst hl;kernel_rfl) (fun a h=>by simp only [List.map_toArray,List.map_cons,List.map_nil,h];try rfl) (by simp) (by simp) (by kernel_rfl) (by unfold IsOps at hl;subst hl;kernel_rfl) (by unfold IsOps at hl;subst hl;kernel_rfl) rfl (by unfold IsOps at hl;subst hl;kernel_rfl)
theorem cj39 {Q:Exit→Act→World→Prop}{a0:Act}(hl:IsOps l)(h0:a0.tmps[0]?=some (ptrV n)):JobC n (cmdE n) (cmdK n) w0 Q l a0 39 (oprC l 39) :=
 have _:=h0
 jv_p0 (d:=37) (by unfold IsOps at hl;subst hl;kernel_rfl) (by unfold IsOps at hl;subst hl;kernel_rfl) rfl (by unfold IsOps at hl;subst hl;kernel_rfl) h0 (noZero hl)
theorem cj40 {Q:Exit→Act→World→Prop}{a0:Act}(hl:IsOps l)(h0:a0.tmps[0]?=some (ptrV n)):JobC n (cmdE n) (cmdK n) w0 Q l a0 40 (oprC l 40) :=
 have _:=h0
 jv_asks (ts:=#[32,106,55]) (jb:=39) (ob:=oprC l 39) (t:=37) (d:=38) (by unfold IsOps at hl;subst hl;kernel_rfl) (by unfold IsOps at hl;subst hl;kernel_rfl) rfl (by unfold IsOps at hl;subst hl;kernel_rfl) (by unfold IsOps at hl;subst hl;kernel_rfl) (by unfold IsOps at hl;subst hl;kernel_rfl) rfl (by unfold IsOps at hl;subst hl;kernel_rfl)
theorem cj41 {Q:Exit→Act→World→Prop}{a0:Act}(hl:IsOps l)(h0:a0.tmps[0]?=some (ptrV n)):JobC n (cmdE n) (cmdK n) w0 Q l a0 41 (oprC l 41) :=
 have _:=h0
 jv_bld (E:=(⟨⟨#[115,116,97,116]⟩,[.func (.func 29) #[ptrV n] #[],.func (.func 36) #[] #[]],.asks 45 46⟩:EntC)) (js:=38) (os:=oprC l 38) (s:=36) (jb:=40) (ob:=oprC l 40) (t:=38) (d:=39) (by unfold IsOps at hl;subst hl;kernel_rfl) (by unfold IsOps at hl;subst hl;kernel_rfl) rfl (by unfold IsOps at hl;subst hl;kernel_rfl) (by unfold IsOps at hl;subst hl;kernel_rfl) (by unfold IsOps at hl;subst hl;kernel_rfl) rfl (by unfold IsOps at hl;subst hl;kernel_rfl) (by unfold IsOps at hl;subst hl;kernel_rfl) (by unfold IsOps at hl;subst hl;kernel_rfl) rfl (by unfold IsOps at hl;subst hl;kernel_rfl)
theorem cj42 {Q:Exit→Act→World→Prop}{a0:Act}(hl:IsOps l)(h0:a0.tmps[0]?=some (ptrV n)):JobC n (cmdE n) (cmdK n) w0 Q l a0 42 (oprC l 42) :=
 have _:=h0
 jb_ins (E:=(⟨⟨#[115,116,97,116]⟩,[.func (.func 29) #[ptrV n] #[],.func (.func 36) #[] #[]],.asks 45 46⟩:EntC)) (j0:=0) (o0:=oprC l 0) (jb:=41) (ob:=oprC l 41) (t:=39) (e:=5) (by unfold IsOps at hl;subst hl;kernel_rfl) (by unfold IsOps at hl;subst hl;kernel_rfl) rfl (by unfold IsOps at hl;subst hl;kernel_rfl) (show ByteArray.size ⟨#[115,116,97,116]⟩≤1000 by decide) rfl (by unfold IsOps at hl;subst hl;kernel_rfl) (by unfold IsOps at hl;subst hl;kernel_rfl) rfl (by unfold IsOps at hl;subst hl;kernel_rfl) (by unfold IsOps at hl;subst hl;kernel_rfl) (by unfold IsOps at hl;subst hl;kernel_rfl) rfl (by unfold IsOps at hl;subst hl;kernel_rfl)
theorem cj43 {Q:Exit→Act→World→Prop}{a0:Act}(hl:IsOps l)(h0:a0.tmps[0]?=some (ptrV n)):JobC n (cmdE n) (cmdK n) w0 Q l a0 43 (oprC l 43) :=
 have _:=h0
 jv_p0 (d:=40) (by unfold IsOps at hl;subst hl;kernel_rfl) (by unfold IsOps at hl;subst hl;kernel_rfl) rfl (by unfold IsOps at hl;subst hl;kernel_rfl) h0 (noZero hl)
theorem cj44 {Q:Exit→Act→World→Prop}{a0:Act}(hl:IsOps l)(h0:a0.tmps[0]?=some (ptrV n)):JobC n (cmdE n) (cmdK n) w0 Q l a0 44 (oprC l 44) :=
 have _:=h0
 jv_mk (jb:=43) (ob:=oprC l 43) (t:=40) (d:=41) (by unfold IsOps at hl;subst hl;kernel_rfl) (by unfold IsOps at hl;subst hl;kernel_rfl) rfl (by unfold IsOps at hl;subst hl;kernel_rfl) (by unfold IsOps at hl;subst hl;kernel_rfl) (by unfold IsOps at hl;subst hl;kernel_rfl) rfl (by unfold IsOps at hl;subst hl;kernel_rfl)
theorem cj45 {Q:Exit→Act→World→Prop}{a0:Act}(hl:IsOps l)(h0:a0.tmps[0]?=some (ptrV n)):JobC n (cmdE n) (cmdK n) w0 Q l a0 45 (oprC l 45) :=
 have _:=h0
 jv_sl (L:=[.func (.func 29) #[ptrV n] #[]]) (parts:=#[(0,.tmp 41)]) (ps:=#[(0,.func (.func 29) #[ptrV n] #[])]) (u := .func (.func 29) #[ptrV n] #[]) (jb:=44) (ob:=oprC l 44) (t:=41) (d:=42) (by unfold IsOps at hl;subst hl;kernel_rfl) (by unfold IsOps at hl;subst hl;kernel_rfl) rfl (by unfold IsOps at hl;subst hl;kernel_rfl) (fun a h=>by simp only [List.map_toArray,List.map_cons,List.map_nil,h];try rfl) (by simp) (by simp) (by kernel_rfl) (by unfold IsOps at hl;subst hl;kernel_rfl) (by unfold IsOps at hl;subst hl;kernel_rfl) rfl (by unfold IsOps at hl;subst hl;kernel_rfl)
theorem cj46 {Q:Exit→Act→World→Prop}{a0:Act}(hl:IsOps l)(h0:a0.tmps[0]?=some (ptrV n)):JobC n (cmdE n) (cmdK n) w0 Q l a0 46 (oprC l 46) :=
 have _:=h0
 jv_p0 (d:=43) (by unfold IsOps at hl;subst hl;kernel_rfl) (by unfold IsOps at hl;subst hl;kernel_rfl) rfl (by unfold IsOps at hl;subst hl;kernel_rfl) h0 (noZero hl)
theorem cj47 {Q:Exit→Act→World→Prop}{a0:Act}(hl:IsOps l)(h0:a0.tmps[0]?=some (ptrV n)):JobC n (cmdE n) (cmdK n) w0 Q l a0 47 (oprC l 47) :=
 have _:=h0
 jv_mkd (jb:=46) (ob:=oprC l 46) (t:=43) (d:=44) (by unfold IsOps at hl;subst hl;kernel_rfl) (by unfold IsOps at hl;subst hl;kernel_rfl) rfl (by unfold IsOps at hl;subst hl;kernel_rfl) (by unfold IsOps at hl;subst hl;kernel_rfl) (by unfold IsOps at hl;subst hl;kernel_rfl) rfl (by unfold IsOps at hl;subst hl;kernel_rfl)
theorem cj48 {Q:Exit→Act→World→Prop}{a0:Act}(hl:IsOps l)(h0:a0.tmps[0]?=some (ptrV n)):JobC n (cmdE n) (cmdK n) w0 Q l a0 48 (oprC l 48) :=
 have _:=h0
 jv_bld (E:=(⟨⟨#[97,103,97,105,110]⟩,[.func (.func 29) #[ptrV n] #[]],.bound 47⟩:EntC)) (js:=45) (os:=oprC l 45) (s:=42) (jb:=47) (ob:=oprC l 47) (t:=44) (d:=45) (by unfold IsOps at hl;subst hl;kernel_rfl) (by unfold IsOps at hl;subst hl;kernel_rfl) rfl (by unfold IsOps at hl;subst hl;kernel_rfl) (by unfold IsOps at hl;subst hl;kernel_rfl) (by unfold IsOps at hl;subst hl;kernel_rfl) rfl (by unfold IsOps at hl;subst hl;kernel_rfl) (by unfold IsOps at hl;subst hl;kernel_rfl) (by unfold IsOps at hl;subst hl;kernel_rfl) rfl (by unfold IsOps at hl;subst hl;kernel_rfl)
theorem cj49 {Q:Exit→Act→World→Prop}{a0:Act}(hl:IsOps l)(h0:a0.tmps[0]?=some (ptrV n)):JobC n (cmdE n) (cmdK n) w0 Q l a0 49 (oprC l 49) :=
 have _:=h0
 jb_ins (E:=(⟨⟨#[97,103,97,105,110]⟩,[.func (.func 29) #[ptrV n] #[]],.bound 47⟩:EntC)) (j0:=0) (o0:=oprC l 0) (jb:=48) (ob:=oprC l 48) (t:=45) (e:=6) (by unfold IsOps at hl;subst hl;kernel_rfl) (by unfold IsOps at hl;subst hl;kernel_rfl) rfl (by unfold IsOps at hl;subst hl;kernel_rfl) (show ByteArray.size ⟨#[97,103,97,105,110]⟩≤1000 by decide) rfl (by unfold IsOps at hl;subst hl;kernel_rfl) (by unfold IsOps at hl;subst hl;kernel_rfl) rfl (by unfold IsOps at hl;subst hl;kernel_rfl) (by unfold IsOps at hl;subst hl;kernel_rfl) (by unfold IsOps at hl;subst hl;kernel_rfl) rfl (by unfold IsOps at hl;subst hl;kernel_rfl)
theorem cj50 {Q:Exit→Act→World→Prop}{a0:Act}(hl:IsOps l)(h0:a0.tmps[0]?=some (ptrV n)):JobC n (cmdE n) (cmdK n) w0 Q l a0 50 (oprC l 50) :=
 have _:=h0
 jv_sl0 (L:=[.func (.func 37) #[] #[]]) (parts:=#[(0,.func 37)]) (ps:=#[(0,.func (.func 37) #[] #[])]) (d:=46) (by unfold IsOps at hl;subst hl;kernel_rfl) (by unfold IsOps at hl;subst hl;kernel_rfl) rfl (by unfold IsOps at hl;subst hl;kernel_rfl) (fun _=>by simp only [List.map_toArray,List.map_cons,List.map_nil];rfl) (by simp) (by simp) (by kernel_rfl)
theorem cj51 {Q:Exit→Act→World→Prop}{a0:Act}(hl:IsOps l)(h0:a0.tmps[0]?=some (ptrV n)):JobC n (cmdE n) (cmdK n) w0 Q l a0 51 (oprC l 51) :=
 have _:=h0
 jv_p0 (d:=47) (by unfold IsOps at hl;subst hl;kernel_rfl) (by unfold IsOps at hl;subst hl;kernel_rfl) rfl (by unfold IsOps at hl;subst hl;kernel_rfl) h0 (noZero hl)
theorem cj52 {Q:Exit→Act→World→Prop}{a0:Act}(hl:IsOps l)(h0:a0.tmps[0]?=some (ptrV n)):JobC n (cmdE n) (cmdK n) w0 Q l a0 52 (oprC l 52) :=
 have _:=h0
 jv_mkd (jb:=51) (ob:=oprC l 51) (t:=47) (d:=48) (by unfold IsOps at hl;subst hl;kernel_rfl) (by unfold IsOps at hl;subst hl;kernel_rfl) rfl (by unfold IsOps at hl;subst hl;kernel_rfl) (by unfold IsOps at hl;subst hl;kernel_rfl) (by unfold IsOps at hl;subst hl;kernel_rfl) rfl (by unfold IsOps at hl;subst hl;kernel_rfl)
theorem cj53 {Q:Exit→Act→World→Prop}{a0:Act}(hl:IsOps l)(h0:a0.tmps[0]?=some (ptrV n)):JobC n (cmdE n) (cmdK n) w0 Q l a0 53 (oprC l 53) :=
 have _:=h0
 jv_bld (E:=(⟨⟨#[103,111]⟩,[.func (.func 37) #[] #[]],.bound 48⟩:EntC)) (js:=50) (os:=oprC l 50) (s:=46) (jb:=52) (ob:=oprC l 52) (t:=48) (d:=49) (by unfold IsOps at hl;subst hl;kernel_rfl) (by unfold IsOps at hl;subst hl;kernel_rfl) rfl (by unfold IsOps at hl;subst hl;kernel_rfl) (by unfold IsOps at hl;subst hl;kernel_rfl) (by unfold IsOps at hl;subst hl;kernel_rfl) rfl (by unfold IsOps at hl;subst hl;kernel_rfl) (by unfold IsOps at hl;subst hl;kernel_rfl) (by unfold IsOps at hl;subst hl;kernel_rfl) rfl (by unfold IsOps at hl;subst hl;kernel_rfl)
theorem cj54 {Q:Exit→Act→World→Prop}{a0:Act}(hl:IsOps l)(h0:a0.tmps[0]?=some (ptrV n)):JobC n (cmdE n) (cmdK n) w0 Q l a0 54 (oprC l 54) :=
 have _:=h0
 jb_ins (E:=(⟨⟨#[103,111]⟩,[.func (.func 37) #[] #[]],.bound 48⟩:EntC)) (j0:=0) (o0:=oprC l 0) (jb:=53) (ob:=oprC l 53) (t:=49) (e:=7) (by unfold IsOps at hl;subst hl;kernel_rfl) (by unfold IsOps at hl;subst hl;kernel_rfl) rfl (by unfold IsOps at hl;subst hl;kernel_rfl) (show ByteArray.size ⟨#[103,111]⟩≤1000 by decide) rfl (by unfold IsOps at hl;subst hl;kernel_rfl) (by unfold IsOps at hl;subst hl;kernel_rfl) rfl (by unfold IsOps at hl;subst hl;kernel_rfl) (by unfold IsOps at hl;subst hl;kernel_rfl) (by unfold IsOps at hl;subst hl;kernel_rfl) rfl (by unfold IsOps at hl;subst hl;kernel_rfl)
theorem cj55 {Q:Exit→Act→World→Prop}{a0:Act}(hl:IsOps l)(h0:a0.tmps[0]?=some (ptrV n)):JobC n (cmdE n) (cmdK n) w0 Q l a0 55 (oprC l 55) :=
 have _:=h0
 jv_sl0 (L:=[.func (.func 37) #[] #[]]) (parts:=#[(0,.func 37)]) (ps:=#[(0,.func (.func 37) #[] #[])]) (d:=50) (by unfold IsOps at hl;subst hl;kernel_rfl) (by unfold IsOps at hl;subst hl;kernel_rfl) rfl (by unfold IsOps at hl;subst hl;kernel_rfl) (fun _=>by simp only [List.map_toArray,List.map_cons,List.map_nil];rfl) (by simp) (by simp) (by kernel_rfl)
theorem cj56 {Q:Exit→Act→World→Prop}{a0:Act}(hl:IsOps l)(h0:a0.tmps[0]?=some (ptrV n)):JobC n (cmdE n) (cmdK n) w0 Q l a0 56 (oprC l 56) :=
 have _:=h0
 jv_p0 (d:=51) (by unfold IsOps at hl;subst hl;kernel_rfl) (by unfold IsOps at hl;subst hl;kernel_rfl) rfl (by unfold IsOps at hl;subst hl;kernel_rfl) h0 (noZero hl)
theorem cj57 {Q:Exit→Act→World→Prop}{a0:Act}(hl:IsOps l)(h0:a0.tmps[0]?=some (ptrV n)):JobC n (cmdE n) (cmdK n) w0 Q l a0 57 (oprC l 57) :=
 have _:=h0
 jv_nil (jb:=56) (ob:=oprC l 56) (t:=51) (d:=52) (by unfold IsOps at hl;subst hl;kernel_rfl) (by unfold IsOps at hl;subst hl;kernel_rfl) rfl (by unfold IsOps at hl;subst hl;kernel_rfl) (by unfold IsOps at hl;subst hl;kernel_rfl) (by unfold IsOps at hl;subst hl;kernel_rfl) rfl (by unfold IsOps at hl;subst hl;kernel_rfl)
theorem cj58 {Q:Exit→Act→World→Prop}{a0:Act}(hl:IsOps l)(h0:a0.tmps[0]?=some (ptrV n)):JobC n (cmdE n) (cmdK n) w0 Q l a0 58 (oprC l 58) :=
 have _:=h0
 jv_fa (jb:=57) (ob:=oprC l 57) (t:=52) (d:=53) (by unfold IsOps at hl;subst hl;kernel_rfl) (by unfold IsOps at hl;subst hl;kernel_rfl) rfl (by unfold IsOps at hl;subst hl;kernel_rfl) (by unfold IsOps at hl;subst hl;kernel_rfl) (by unfold IsOps at hl;subst hl;kernel_rfl) rfl (by unfold IsOps at hl;subst hl;kernel_rfl)
theorem cj59 {Q:Exit→Act→World→Prop}{a0:Act}(hl:IsOps l)(h0:a0.tmps[0]?=some (ptrV n)):JobC n (cmdE n) (cmdK n) w0 Q l a0 59 (oprC l 59) :=
 have _:=h0
 jv_mk (jb:=58) (ob:=oprC l 58) (t:=53) (d:=54) (by unfold IsOps at hl;subst hl;kernel_rfl) (by unfold IsOps at hl;subst hl;kernel_rfl) rfl (by unfold IsOps at hl;subst hl;kernel_rfl) (by unfold IsOps at hl;subst hl;kernel_rfl) (by unfold IsOps at hl;subst hl;kernel_rfl) rfl (by unfold IsOps at hl;subst hl;kernel_rfl)
theorem cj60 {Q:Exit→Act→World→Prop}{a0:Act}(hl:IsOps l)(h0:a0.tmps[0]?=some (ptrV n)):JobC n (cmdE n) (cmdK n) w0 Q l a0 60 (oprC l 60) :=
 have _:=h0
 jv_okof (ts:=#[108]) (jb:=59) (ob:=oprC l 59) (t:=54) (d:=55) (by unfold IsOps at hl;subst hl;kernel_rfl) (by unfold IsOps at hl;subst hl;kernel_rfl) rfl (by unfold IsOps at hl;subst hl;kernel_rfl) (by unfold IsOps at hl;subst hl;kernel_rfl) (by unfold IsOps at hl;subst hl;kernel_rfl) rfl (by unfold IsOps at hl;subst hl;kernel_rfl)
theorem cj61 {Q:Exit→Act→World→Prop}{a0:Act}(hl:IsOps l)(h0:a0.tmps[0]?=some (ptrV n)):JobC n (cmdE n) (cmdK n) w0 Q l a0 61 (oprC l 61) :=
 have _:=h0
 jv_bld (E:=(⟨⟨#[100,114,111,112]⟩,[.func (.func 37) #[] #[]],.okof 50⟩:EntC)) (js:=55) (os:=oprC l 55) (s:=50) (jb:=60) (ob:=oprC l 60) (t:=55) (d:=56) (by unfold IsOps at hl;subst hl;kernel_rfl) (by unfold IsOps at hl;subst hl;kernel_rfl) rfl (by unfold IsOps at hl;subst hl;kernel_rfl) (by unfold IsOps at hl;subst hl;kernel_rfl) (by unfold IsOps at hl;subst hl;kernel_rfl) rfl (by unfold IsOps at hl;subst hl;kernel_rfl) (by unfold IsOps at hl;subst hl;kernel_rfl) (by unfold IsOps at hl;subst hl;kernel_rfl) rfl (by unfold IsOps at hl;subst hl;kernel_rfl)
theorem cj62 {Q:Exit→Act→World→Prop}{a0:Act}(hl:IsOps l)(h0:a0.tmps[0]?=some (ptrV n)):JobC n (cmdE n) (cmdK n) w0 Q l a0 62 (oprC l 62) :=
 have _:=h0
 jb_ins (E:=(⟨⟨#[100,114,111,112]⟩,[.func (.func 37) #[] #[]],.okof 50⟩:EntC)) (j0:=0) (o0:=oprC l 0) (jb:=61) (ob:=oprC l 61) (t:=56) (e:=8) (by unfold IsOps at hl;subst hl;kernel_rfl) (by unfold IsOps at hl;subst hl;kernel_rfl) rfl (by unfold IsOps at hl;subst hl;kernel_rfl) (show ByteArray.size ⟨#[100,114,111,112]⟩≤1000 by decide) rfl (by unfold IsOps at hl;subst hl;kernel_rfl) (by unfold IsOps at hl;subst hl;kernel_rfl) rfl (by unfold IsOps at hl;subst hl;kernel_rfl) (by unfold IsOps at hl;subst hl;kernel_rfl) (by unfold IsOps at hl;subst hl;kernel_rfl) rfl (by unfold IsOps at hl;subst hl;kernel_rfl)
theorem cj63 {Q:Exit→Act→World→Prop}{a0:Act}(hl:IsOps l)(h0:a0.tmps[0]?=some (ptrV n)):JobC n (cmdE n) (cmdK n) w0 Q l a0 63 (oprC l 63) :=
 have _:=h0
 jv_sl0 (L:=[.func (.func 37) #[] #[]]) (parts:=#[(0,.func 37)]) (ps:=#[(0,.func (.func 37) #[] #[])]) (d:=57) (by unfold IsOps at hl;subst hl;kernel_rfl) (by unfold IsOps at hl;subst hl;kernel_rfl) rfl (by unfold IsOps at hl;subst hl;kernel_rfl) (fun _=>by simp only [List.map_toArray,List.map_cons,List.map_nil];rfl) (by simp) (by simp) (by kernel_rfl)
theorem cj64 {Q:Exit→Act→World→Prop}{a0:Act}(hl:IsOps l)(h0:a0.tmps[0]?=some (ptrV n)):JobC n (cmdE n) (cmdK n) w0 Q l a0 64 (oprC l 64) :=
 have _:=h0
 jv_p0 (d:=58) (by unfold IsOps at hl;subst hl;kernel_rfl) (by unfold IsOps at hl;subst hl;kernel_rfl) rfl (by unfold IsOps at hl;subst hl;kernel_rfl) h0 (noZero hl)
theorem cj65 {Q:Exit→Act→World→Prop}{a0:Act}(hl:IsOps l)(h0:a0.tmps[0]?=some (ptrV n)):JobC n (cmdE n) (cmdK n) w0 Q l a0 65 (oprC l 65) :=
 have _:=h0
 jv_nil (jb:=64) (ob:=oprC l 64) (t:=58) (d:=59) (by unfold IsOps at hl;subst hl;kernel_rfl) (by unfold IsOps at hl;subst hl;kernel_rfl) rfl (by unfold IsOps at hl;subst hl;kernel_rfl) (by unfold IsOps at hl;subst hl;kernel_rfl) (by unfold IsOps at hl;subst hl;kernel_rfl) rfl (by unfold IsOps at hl;subst hl;kernel_rfl)
theorem cj66 {Q:Exit→Act→World→Prop}{a0:Act}(hl:IsOps l)(h0:a0.tmps[0]?=some (ptrV n)):JobC n (cmdE n) (cmdK n) w0 Q l a0 66 (oprC l 66) :=
 have _:=h0
 jv_fa (jb:=65) (ob:=oprC l 65) (t:=59) (d:=60) (by unfold IsOps at hl;subst hl;kernel_rfl) (by unfold IsOps at hl;subst hl;kernel_rfl) rfl (by unfold IsOps at hl;subst hl;kernel_rfl) (by unfold IsOps at hl;subst hl;kernel_rfl) (by unfold IsOps at hl;subst hl;kernel_rfl) rfl (by unfold IsOps at hl;subst hl;kernel_rfl)
theorem cj67 {Q:Exit→Act→World→Prop}{a0:Act}(hl:IsOps l)(h0:a0.tmps[0]?=some (ptrV n)):JobC n (cmdE n) (cmdK n) w0 Q l a0 67 (oprC l 67) :=
 have _:=h0
 jv_mk (jb:=66) (ob:=oprC l 66) (t:=60) (d:=61) (by unfold IsOps at hl;subst hl;kernel_rfl) (by unfold IsOps at hl;subst hl;kernel_rfl) rfl (by unfold IsOps at hl;subst hl;kernel_rfl) (by unfold IsOps at hl;subst hl;kernel_rfl) (by unfold IsOps at hl;subst hl;kernel_rfl) rfl (by unfold IsOps at hl;subst hl;kernel_rfl)
theorem cj68 {Q:Exit→Act→World→Prop}{a0:Act}(hl:IsOps l)(h0:a0.tmps[0]?=some (ptrV n)):JobC n (cmdE n) (cmdK n) w0 Q l a0 68 (oprC l 68) :=
 have _:=h0
 jv_okof (ts:=#[108]) (jb:=67) (ob:=oprC l 67) (t:=61) (d:=62) (by unfold IsOps at hl;subst hl;kernel_rfl) (by unfold IsOps at hl;subst hl;kernel_rfl) rfl (by unfold IsOps at hl;subst hl;kernel_rfl) (by unfold IsOps at hl;subst hl;kernel_rfl) (by unfold IsOps at hl;subst hl;kernel_rfl) rfl (by unfold IsOps at hl;subst hl;kernel_rfl)
theorem cj69 {Q:Exit→Act→World→Prop}{a0:Act}(hl:IsOps l)(h0:a0.tmps[0]?=some (ptrV n)):JobC n (cmdE n) (cmdK n) w0 Q l a0 69 (oprC l 69) :=
 have _:=h0
 jv_bld (E:=(⟨⟨#[116,119,105,99,101]⟩,[.func (.func 37) #[] #[]],.okof 51⟩:EntC)) (js:=63) (os:=oprC l 63) (s:=57) (jb:=68) (ob:=oprC l 68) (t:=62) (d:=63) (by unfold IsOps at hl;subst hl;kernel_rfl) (by unfold IsOps at hl;subst hl;kernel_rfl) rfl (by unfold IsOps at hl;subst hl;kernel_rfl) (by unfold IsOps at hl;subst hl;kernel_rfl) (by unfold IsOps at hl;subst hl;kernel_rfl) rfl (by unfold IsOps at hl;subst hl;kernel_rfl) (by unfold IsOps at hl;subst hl;kernel_rfl) (by unfold IsOps at hl;subst hl;kernel_rfl) rfl (by unfold IsOps at hl;subst hl;kernel_rfl)
theorem cj70 {Q:Exit→Act→World→Prop}{a0:Act}(hl:IsOps l)(h0:a0.tmps[0]?=some (ptrV n)):JobC n (cmdE n) (cmdK n) w0 Q l a0 70 (oprC l 70) :=
 have _:=h0
 jb_ins (E:=(⟨⟨#[116,119,105,99,101]⟩,[.func (.func 37) #[] #[]],.okof 51⟩:EntC)) (j0:=0) (o0:=oprC l 0) (jb:=69) (ob:=oprC l 69) (t:=63) (e:=9) (by unfold IsOps at hl;subst hl;kernel_rfl) (by unfold IsOps at hl;subst hl;kernel_rfl) rfl (by unfold IsOps at hl;subst hl;kernel_rfl) (show ByteArray.size ⟨#[116,119,105,99,101]⟩≤1000 by decide) rfl (by unfold IsOps at hl;subst hl;kernel_rfl) (by unfold IsOps at hl;subst hl;kernel_rfl) rfl (by unfold IsOps at hl;subst hl;kernel_rfl) (by unfold IsOps at hl;subst hl;kernel_rfl) (by unfold IsOps at hl;subst hl;kernel_rfl) rfl (by unfold IsOps at hl;subst hl;kernel_rfl)
theorem cj71 {Q:Exit→Act→World→Prop}{a0:Act}(hl:IsOps l)(h0:a0.tmps[0]?=some (ptrV n)):JobC n (cmdE n) (cmdK n) w0 Q l a0 71 (oprC l 71) :=
 have _:=h0
 jv_p0 (d:=64) (by unfold IsOps at hl;subst hl;kernel_rfl) (by unfold IsOps at hl;subst hl;kernel_rfl) rfl (by unfold IsOps at hl;subst hl;kernel_rfl) h0 (noZero hl)
theorem cj72 {Q:Exit→Act→World→Prop}{a0:Act}(hl:IsOps l)(h0:a0.tmps[0]?=some (ptrV n)):JobC n (cmdE n) (cmdK n) w0 Q l a0 72 (oprC l 72) :=
 have _:=h0
 jv_mkd (jb:=71) (ob:=oprC l 71) (t:=64) (d:=65) (by unfold IsOps at hl;subst hl;kernel_rfl) (by unfold IsOps at hl;subst hl;kernel_rfl) rfl (by unfold IsOps at hl;subst hl;kernel_rfl) (by unfold IsOps at hl;subst hl;kernel_rfl) (by unfold IsOps at hl;subst hl;kernel_rfl) rfl (by unfold IsOps at hl;subst hl;kernel_rfl)
theorem cj73 {Q:Exit→Act→World→Prop}{a0:Act}(hl:IsOps l)(h0:a0.tmps[0]?=some (ptrV n)):JobC n (cmdE n) (cmdK n) w0 Q l a0 73 (oprC l 73) :=
 have _:=h0
 jv_bld0 (E:=(⟨⟨#[110,101,116]⟩,[],.bound 52⟩:EntC)) (jb:=72) (ob:=oprC l 72) (t:=65) (d:=66) (by unfold IsOps at hl;subst hl;kernel_rfl) (by unfold IsOps at hl;subst hl;kernel_rfl) rfl (by unfold IsOps at hl;subst hl;kernel_rfl) rfl (by unfold IsOps at hl;subst hl;kernel_rfl) (by unfold IsOps at hl;subst hl;kernel_rfl) rfl (by unfold IsOps at hl;subst hl;kernel_rfl)
theorem cj74 {Q:Exit→Act→World→Prop}{a0:Act}(hl:IsOps l)(h0:a0.tmps[0]?=some (ptrV n)):JobC n (cmdE n) (cmdK n) w0 Q l a0 74 (oprC l 74) :=
 have _:=h0
 jb_ins (E:=(⟨⟨#[110,101,116]⟩,[],.bound 52⟩:EntC)) (j0:=0) (o0:=oprC l 0) (jb:=73) (ob:=oprC l 73) (t:=66) (e:=10) (by unfold IsOps at hl;subst hl;kernel_rfl) (by unfold IsOps at hl;subst hl;kernel_rfl) rfl (by unfold IsOps at hl;subst hl;kernel_rfl) (show ByteArray.size ⟨#[110,101,116]⟩≤1000 by decide) rfl (by unfold IsOps at hl;subst hl;kernel_rfl) (by unfold IsOps at hl;subst hl;kernel_rfl) rfl (by unfold IsOps at hl;subst hl;kernel_rfl) (by unfold IsOps at hl;subst hl;kernel_rfl) (by unfold IsOps at hl;subst hl;kernel_rfl) rfl (by unfold IsOps at hl;subst hl;kernel_rfl)
theorem cj75 {Q:Exit→Act→World→Prop}{a0:Act}(hl:IsOps l)(h0:a0.tmps[0]?=some (ptrV n)):JobC n (cmdE n) (cmdK n) w0 Q l a0 75 (oprC l 75) :=
 have _:=h0
 jv_p0 (d:=67) (by unfold IsOps at hl;subst hl;kernel_rfl) (by unfold IsOps at hl;subst hl;kernel_rfl) rfl (by unfold IsOps at hl;subst hl;kernel_rfl) h0 (noZero hl)
theorem cj76 {Q:Exit→Act→World→Prop}{a0:Act}(hl:IsOps l)(h0:a0.tmps[0]?=some (ptrV n)):JobC n (cmdE n) (cmdK n) w0 Q l a0 76 (oprC l 76) :=
 have _:=h0
 jv_mkd (jb:=75) (ob:=oprC l 75) (t:=67) (d:=68) (by unfold IsOps at hl;subst hl;kernel_rfl) (by unfold IsOps at hl;subst hl;kernel_rfl) rfl (by unfold IsOps at hl;subst hl;kernel_rfl) (by unfold IsOps at hl;subst hl;kernel_rfl) (by unfold IsOps at hl;subst hl;kernel_rfl) rfl (by unfold IsOps at hl;subst hl;kernel_rfl)
theorem cj77 {Q:Exit→Act→World→Prop}{a0:Act}(hl:IsOps l)(h0:a0.tmps[0]?=some (ptrV n)):JobC n (cmdE n) (cmdK n) w0 Q l a0 77 (oprC l 77) :=
 have _:=h0
 jv_bld0 (E:=(⟨⟨#[116,114,101,101]⟩,[],.bound 53⟩:EntC)) (jb:=76) (ob:=oprC l 76) (t:=68) (d:=69) (by unfold IsOps at hl;subst hl;kernel_rfl) (by unfold IsOps at hl;subst hl;kernel_rfl) rfl (by unfold IsOps at hl;subst hl;kernel_rfl) rfl (by unfold IsOps at hl;subst hl;kernel_rfl) (by unfold IsOps at hl;subst hl;kernel_rfl) rfl (by unfold IsOps at hl;subst hl;kernel_rfl)
theorem cj78 {Q:Exit→Act→World→Prop}{a0:Act}(hl:IsOps l)(h0:a0.tmps[0]?=some (ptrV n)):JobC n (cmdE n) (cmdK n) w0 Q l a0 78 (oprC l 78) :=
 have _:=h0
 jb_ins (E:=(⟨⟨#[116,114,101,101]⟩,[],.bound 53⟩:EntC)) (j0:=0) (o0:=oprC l 0) (jb:=77) (ob:=oprC l 77) (t:=69) (e:=11) (by unfold IsOps at hl;subst hl;kernel_rfl) (by unfold IsOps at hl;subst hl;kernel_rfl) rfl (by unfold IsOps at hl;subst hl;kernel_rfl) (show ByteArray.size ⟨#[116,114,101,101]⟩≤1000 by decide) rfl (by unfold IsOps at hl;subst hl;kernel_rfl) (by unfold IsOps at hl;subst hl;kernel_rfl) rfl (by unfold IsOps at hl;subst hl;kernel_rfl) (by unfold IsOps at hl;subst hl;kernel_rfl) (by unfold IsOps at hl;subst hl;kernel_rfl) rfl (by unfold IsOps at hl;subst hl;kernel_rfl)
theorem cj79 {Q:Exit→Act→World→Prop}{a0:Act}(hl:IsOps l)(h0:a0.tmps[0]?=some (ptrV n)):JobC n (cmdE n) (cmdK n) w0 Q l a0 79 (oprC l 79) :=
 have _:=h0
 jb_res (d:=70) (t:=3) (jb:=0) (ob:=oprC l 0) (by unfold IsOps at hl;subst hl;kernel_rfl) (by unfold IsOps at hl;subst hl;kernel_rfl) (by decide) rfl (Or.inl (by unfold IsOps at hl;subst hl;kernel_rfl)) (by unfold IsOps at hl;subst hl;kernel_rfl) (by unfold IsOps at hl;subst hl;kernel_rfl) (Or.inl ⟨rfl,rfl⟩) (by unfold IsOps at hl;subst hl;kernel_rfl)
theorem cj80 {Q:Exit→Act→World→Prop}{a0:Act}(hl:IsOps l)(h0:a0.tmps[0]?=some (ptrV n)):JobC n (cmdE n) (cmdK n) w0 Q l a0 80 (oprC l 80) :=
 have _:=h0
 jb_res (d:=2) (t:=70) (jb:=79) (ob:=oprC l 79) (by unfold IsOps at hl;subst hl;kernel_rfl) (by unfold IsOps at hl;subst hl;kernel_rfl) (by decide) rfl (Or.inr (by unfold IsOps at hl;subst hl;kernel_rfl)) (by unfold IsOps at hl;subst hl;kernel_rfl) (by unfold IsOps at hl;subst hl;kernel_rfl) (Or.inr rfl) (by unfold IsOps at hl;subst hl;kernel_rfl)
end
end
end Go.Proofs.YtodldddakjmonaaGreatDoor
