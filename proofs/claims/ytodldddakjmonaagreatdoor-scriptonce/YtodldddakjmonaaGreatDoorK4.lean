import Derived.Maps.Ext
import Derived.Maps.OwnSet
import Derived.Test.YtodldddakjmonaaGreatDoorK0
import Derived.Deep.OwnRows
namespace Go.Proofs.YtodldddakjmonaaGreatDoor
section
open Go Go.RowKit Go.Maps
structure Ent where
 s:List UInt8
 i:Nat
 c:Nat
def entV (i c:Nat):DataW Unit := .agg [.lit (.int .i64 i),.lit (.int .i64 c)]
def entP (e:Ent):Lit×DataW Unit:=(.string e.s,entV e.i e.c)
def entD (l:List Ent):DataW Unit := .map (l.map entP)
def findE (l:List Ent)(s:List UInt8):Option Ent:=l.find? (fun e=>e.s==s)
def insE (x:Ent):List Ent→List Ent
 | []=>[x]
 | y::r=>if bytesBefore x.s y.s then x::y::r else y::insE x r
def dropE (l:List Ent)(s:List UInt8):List Ent:=l.filter (fun e=>!(e.s==s))
theorem has_entD (l:List Ent)(s:List UInt8):has (entD l) (.string s)=(findE l s).isSome:=by
 show (l.map entP).any _=_
 induction l with
 | nil=>rfl
 | cons x l ih =>
  rw [List.map_cons,List.any_cons,ih];unfold findE;rw [List.find?_cons];show (x.s==s || _)=_
  cases x.s==s<;>rfl
theorem at_entD (l:List Ent)(s:List UInt8)(z:DataW Unit):(entD l).atKey (.string s) z=match findE l s with | some e=>entV e.i e.c | none=>z:=by
 have h:(l.map entP).find? (fun p=>p.1.sameKey (.string s))=(findE l s).map entP:=by
  unfold findE;rw [List.find?_map];rfl
 unfold entD DataW.atKey;simp only [h]
 cases findE l s<;>rfl
theorem insE_map (x:Ent)(l:List Ent):DataW.insert (entP x) (l.map entP)=(insE x l).map entP:=by
 induction l with
 | nil=>rfl
 | cons y l ih =>
  show (if bytesBefore x.s y.s then _ else _)=_;unfold insE
  split
  · rfl
  · rw [List.map_cons,ih]
theorem dropE_map (l:List Ent)(s:List UInt8):(l.map entP).filter (fun p=>!p.1.sameKey (.string s))=(dropE l s).map entP:=by
 unfold dropE;rw [List.filter_map];rfl
theorem put_entD (l:List Ent)(x:Ent):(entD l).put (.string x.s) (entV x.i x.c)=entD (insE x (dropE l x.s)):=by
 show DataW.map (DataW.insert (entP x) ((l.map entP).filter _))=_;rw [dropE_map,insE_map];rfl
theorem size_entD (l:List Ent):Maps.size (entD l)=l.length:=by
 show (l.map entP).length=_;simp
theorem dropE_none {l:List Ent}{s:List UInt8}(h:findE l s=none):dropE l s=l:=by
 unfold dropE;rw [List.filter_eq_self];intro e he;have:=List.find?_eq_none.1 h e he
 simpa using this
theorem length_insE (x:Ent)(l:List Ent):(insE x l).length=l.length+1:=by
 induction l with
 | nil=>rfl
 | cons y l ih =>
  unfold insE
  split
  · rfl
  · simp [ih]
theorem mem_insE {x y:Ent}{l:List Ent}:y∈insE x l↔y=x∨y∈l:=by
 induction l with
 | nil=>simp [insE]
 | cons z l ih =>
  unfold insE
  split
  · simp
  · rw [List.mem_cons,ih,List.mem_cons]
    constructor
    · rintro (h | h | h)
      · exact Or.inr (Or.inl h)
      · exact Or.inl h
      · exact Or.inr (Or.inr h)
    · rintro (h | h | h)
      · exact Or.inr (Or.inl h)
      · exact Or.inl h
      · exact Or.inr (Or.inr h)
theorem findE_ins_same {l:List Ent}(x:Ent)(h:findE l x.s=none):findE (insE x l) x.s=some x:=by
 induction l with
 | nil=>simp [insE,findE]
 | cons y l ih =>
  unfold findE at h;rw [List.find?_cons] at h
  cases hy:y.s==x.s with
  | true=>rw [hy] at h;cases h
  | false =>
   rw [hy] at h;unfold insE
   split
   · simp [findE]
   · unfold findE
     rw [List.find?_cons,hy];exact ih h
theorem findE_ins_other (l:List Ent)(x:Ent){s:List UInt8}(h:s≠x.s):findE (insE x l) s=findE l s:=by
 have hx:(x.s==s)=false:=by simpa using fun e:x.s=s=>h e.symm
 induction l with
 | nil=>simp [insE,findE,hx]
 | cons y l ih =>
  unfold insE
  split
  · unfold findE
    rw [List.find?_cons,hx]
  · unfold findE
    rw [List.find?_cons,List.find?_cons]
    cases y.s==s
    · exact ih
    · rfl
structure Reads {K V:Type}(key:K→Lit)(val:V→DataW Unit)(D:DataW Unit)(f:K→Option V):Prop where
 keys:∀ kl,has D kl=true→∃ k v,kl=key k∧f k=some v
 gone:∀ k,f k=none→has D (key k)=false
 there:∀ k v,f k=some v→has D (key k)=true∧∀ z,D.atKey (key k) z=val v
section
variable {K V:Type}{key:K→Lit}{val:V→DataW Unit}{D:DataW Unit}{f f':K→Option V}
theorem Reads.empty:Reads key val (.map []) (fun _=>none):=⟨fun kl h=>by simp [has] at h,fun k _=>by simp [has],fun k v h=>by cases h⟩
theorem Reads.isSome (h:Reads key val D f)(k:K):has D (key k)=(f k).isSome:=by
 cases e:f k with
 | none=>rw [h.gone k e];rfl
 | some v=>rw [(h.there k v e).1];rfl
theorem Reads.look (h:Reads key val D f)(k:K)(z:DataW Unit):D.atKey (key k) z=match f k with | some v=>val v | none=>z:=by
 cases e:f k with
 | none=>exact atKey_of_not_has (h.gone k e) _
 | some v=>exact (h.there k v e).2 _
theorem Reads.put (h:Reads key val D f)(hD:IsMap D)(hk:∀ k,WideAt.IsKeyLit (key k)){k:K}{v:V}(hinj:∀ j,key j=key k→j=k)(h1:f' k=some v)(h2:∀ j,j≠k→f' j=f j):Reads key val (D.put (key k) (val v)) f':=by
 refine ⟨fun kl hh=>?_,fun j hj=>?_,fun j u hj=>?_⟩
 · by_cases e:kl=key k
   · exact ⟨k,v,e,h1⟩
   · rw [has_put_other e] at hh
     obtain ⟨j,u,rfl,hj⟩:=h.keys kl hh;exact ⟨j,u,rfl,by rw [h2 j (fun x=>e (by rw [x]))];exact hj⟩
 · have e:j≠k:=fun x=>by rw [x,h1] at hj;cases hj
   rw [has_put_other (fun x=>e (hinj _ x))];exact h.gone j (by rw [← h2 j e];exact hj)
 · by_cases e:j=k
   · subst e
     rw [h1] at hj
     cases hj
     exact ⟨has_put_same hD (hk j) _,fun z=>atKey_put_same hD (hk j) _ z⟩
   · rw [h2 j e] at hj
     obtain ⟨a,b⟩:=h.there j u hj;exact ⟨by rw [has_put_other (fun x=>e (hinj _ x))];exact a,fun z=>by rw [atKey_put_other (fun x=>e (hinj _ x))];exact b z⟩
theorem Reads.del (h:Reads key val D f){k:K}(hinj:∀ j,key j=key k→j=k)(h1:f' k=none)(h2:∀ j,j≠k→f' j=f j):Reads key val (D.del (key k)) f':=by
 refine ⟨fun kl hh=>?_,fun j hj=>?_,fun j u hj=>?_⟩
 · by_cases e:kl=key k
   · rw [e,has_del_same] at hh;cases hh
   · rw [has_del_other e] at hh
     obtain ⟨j,u,rfl,hj⟩:=h.keys kl hh;exact ⟨j,u,rfl,by rw [h2 j (fun x=>e (by rw [x]))];exact hj⟩
 · by_cases e:j=k
   · rw [e];exact has_del_same
   · rw [has_del_other (fun x=>e (hinj _ x))]
     exact h.gone j (by rw [← h2 j e];exact hj)
 · have e:j≠k:=fun x=>by rw [x,h1] at hj;cases hj
   rw [h2 j e] at hj;obtain ⟨a,b⟩:=h.there j u hj;exact ⟨by rw [has_del_other (fun x=>e (hinj _ x))];exact a,fun z=>by rw [atKey_del_other (fun x=>e (hinj _ x))];exact b z⟩
theorem Reads.congr (h:Reads key val D f)(e:∀ k,f' k=f k):Reads key val D f':=by
 have:f'=f:=funext e;rw [this];exact h
end
end
section
open Go Go.RowKit
structure Only (L:List Nat)(w w':World):Prop where
 os:w'.os=w.os
 tape:w'.tape=w.tape
 output:w'.output=w.output
 size:w.heap.size≤w'.heap.size
 block:∀ k,k < w.heap.size→k∉L→w'.heap[k]?=w.heap[k]?
theorem Only.refl (L:List Nat)(w:World):Only L w w:=⟨rfl,rfl,rfl,Nat.le_refl _,fun _ _ _=>rfl⟩
theorem Only.of_below {w w':World}(h:Below w.heap.size w w')(L:List Nat):Only L w w':=⟨h.os,h.tape,h.output,h.size,fun k hk _=>h.block k hk⟩
theorem Only.to_below {L:List Nat}{w w':World}{B:Nat}(h:Only L w w')(hB:B≤w.heap.size)(hL:∀ k∈L,B≤k):Below B w w' :=
 ⟨h.os,h.tape,h.output,h.size,fun k hk=>h.block k (Nat.lt_of_lt_of_le hk hB) fun hm=>absurd (hL k hm) (by omega)⟩
theorem Only.trans {L L':List Nat}{a b c:World}(h:Only L a b)(k:Only L' b c)(hL:∀ i∈L',i∈L∨a.heap.size≤i):Only L a c :=
 ⟨k.os.trans h.os,k.tape.trans h.tape,k.output.trans h.output,Nat.le_trans h.size k.size,fun i hi hn =>
  (k.block i (Nat.lt_of_lt_of_le hi h.size) fun hm=>(hL i hm).elim hn (fun x=>absurd x (by omega))).trans (h.block i hi hn)⟩
theorem Only.mono {L L':List Nat}{a b:World}(h:Only L a b)(hL:∀ i∈L,i∈L'∨a.heap.size≤i):Only L' a b :=
 ⟨h.os,h.tape,h.output,h.size,fun i hi hn=>h.block i hi fun hm=>(hL i hm).elim hn (fun x=>absurd x (by omega))⟩
theorem Only.alloc {L:List Nat}{a w:World}(h:Only L a w)(o:Obj):Only L a (w.alloc o) :=
 h.trans (Only.of_below ((Below.refl _ _).alloc (Nat.le_refl _) o) []) (fun _ k=>by cases k)
theorem Only.drew {L:List Nat}{a w:World}(h:Only L a w):Only L a w.drew:=⟨h.os,h.tape,h.output,h.size,h.block⟩
theorem Only.setCell {L:List Nat}{a w:World}(h:Only L a w){p:Addr}(hp:p.block∈L∨a.heap.size≤p.block)(u:Value):Only L a (w.setCell p u):=by
 have hb:Below 0 w (w.setCell p u):=(Below.refl _ _).setCell (Nat.zero_le _) u;exact ⟨hb.os.trans h.os,hb.tape.trans h.tape,hb.output.trans h.output,Nat.le_trans h.size hb.size,fun i hi hn=>(Below.heap_setCell w p u i (fun e=>hp.elim (fun x=>hn (e ▸ x)) (fun x=>absurd x (by omega)))).trans (h.block i hi hn)⟩
theorem Only.grown {L:List Nat}{a w w':World}{row:Option Nat}(h:Only L a w)(hg:w.grownBy w' row)(hr:∀ k,row=some k→k∈L∨a.heap.size≤k):Only L a w' :=
 ⟨hg.os.trans h.os,hg.tape.trans h.tape,hg.output.trans h.output,Nat.le_trans h.size hg.size,fun i hi hn =>
  (hg.block i (Nat.lt_of_lt_of_le hi h.size) fun e=>(hr i e.symm).elim hn (fun x=>absurd x (by omega))).trans (h.block i hi hn)⟩
theorem Only.cell {L:List Nat}{w w':World}(h:Only L w w'){p:Addr}(hp:p.block < w.heap.size)(hn:p.block∉L):w'.cell? p=w.cell? p:=World.cell?_of_block (w:=w) (h.block p.block hp hn)
theorem Only.frozen {L:List Nat}{w w':World}(h:Only L w w'){p:Addr}(hp:p.block < w.heap.size)(hn:p.block∉L):w'.frozen? p=w.frozen? p:=World.frozen?_of_block (w:=w) (h.block p.block hp hn)
theorem Only.owns {L:List Nat}{w w':World}{base:Nat}{e:TypeId}{size:Nat}{v:Value}{n:Nat}{xs:List Value}(h:Only L w w')(ho:w.ownsRow base e size v n xs)(hn:∀ k,v.ownBlock=some k→k∉L):w'.ownsRow base e size v n xs:=by
 obtain ⟨h1,h2⟩:=ho;refine ⟨h1,?_⟩;rcases h2 with h2 | ⟨g,cap,cur,hv,hg,hh,r⟩
 · exact Or.inl h2
 · have hlt:g < w.heap.size:=(Array.getElem?_eq_some_iff.1 hh).1
   exact Or.inr ⟨g,cap,cur,hv,hg,(h.block g hlt (hn g (by rw [hv];rfl))).trans hh,r⟩
end
end Go.Proofs.YtodldddakjmonaaGreatDoor
