import Derived.Maps.Ext
import Derived.Maps.OwnSet
import Derived.Test.YtmnidbnaneagjaaGreatDoorK0
namespace Go.Proofs.YtmnidbnaneagjaaGreatDoor
section
open Go Go.RowKit Go.Maps
structure Ent where
 s:List UInt8
 i:Nat
 c:Nat
def entV (i c:Nat):DataW Unit := .agg [.lit (.int .i64 i),.lit (.int .i64 c)]
def entP (e:Ent):Lit×DataW Unit:=(.string e.s,entV e.i e.c)
def entD (l:List Ent):DataW Unit := .map (l.map entP)
def findE (l:List Ent)(s:List UInt8):Option Ent:=l.find? (fun e=>e.s==s)
def insE (x:Ent):List Ent→List Ent
 | []=>[x]
 | y::r=>if bytesBefore x.s y.s then x::y::r else y::insE x r
def dropE (l:List Ent)(s:List UInt8):List Ent:=l.filter (fun e=>!(e.s==s))
theorem has_entD (l:List Ent)(s:List UInt8):has (entD l) (.string s)=(findE l s).isSome:=by
 show (l.map entP).any _=_
 induction l with
 | nil=>rfl
 | cons x l ih =>
  rw [List.map_cons,List.any_cons,ih];unfold findE;rw [List.find?_cons];show (x.s==s || _)=_
  cases x.s==s<;>rfl
theorem at_entD (l:List Ent)(s:List UInt8)(z:DataW Unit):(entD l).atKey (.string s) z=match findE l s with | some e=>entV e.i e.c | none=>z:=by
 have h:(l.map entP).find? (fun p=>p.1.sameKey (.string s))=(findE l s).map entP:=by
  unfold findE;rw [List.find?_map];rfl
 unfold entD DataW.atKey;simp only [h]
 cases findE l s<;>rfl
theorem insE_map (x:Ent)(l:List Ent):DataW.insert (entP x) (l.map entP)=(insE x l).map entP:=by
 induction l with
 | nil=>rfl
 | cons y l ih =>
  show (if bytesBefore x.s y.s then _ else _)=_;unfold insE
  split
  · rfl
  · rw [List.map_cons,ih]
theorem dropE_map (l:List Ent)(s:List UInt8):(l.map entP).filter (fun p=>!p.1.sameKey (.string s))=(dropE l s).map entP:=by
 unfold dropE;rw [List.filter_map];rfl
theorem put_entD (l:List Ent)(x:Ent):(entD l).put (.string x.s) (entV x.i x.c)=entD (insE x (dropE l x.s)):=by
 show DataW.map (DataW.insert (entP x) ((l.map entP).filter _))=_;rw [dropE_map,insE_map];rfl
theorem size_entD (l:List Ent):Maps.size (entD l)=l.length:=by
 show (l.map entP).length=_;simp
theorem length_insE (x:Ent)(l:List Ent):(insE x l).length=l.length+1:=by
 induction l with
 | nil=>rfl
 | cons y l ih =>
  unfold insE
  split
  · rfl
  · simp [ih]
theorem mem_insE {x y:Ent}{l:List Ent}:y∈insE x l↔y=x∨y∈l:=by
 induction l with
 | nil=>simp [insE]
 | cons z l ih =>
  unfold insE
  split
  · simp
  · rw [List.mem_cons,ih,List.mem_cons]
    constructor
    · rintro (h | h | h)
      · exact Or.inr (Or.inl h)
      · exact Or.inl h
      · exact Or.inr (Or.inr h)
    · rintro (h | h | h)
      · exact Or.inr (Or.inl h)
      · exact Or.inl h
      · exact Or.inr (Or.inr h)
structure Reads {K V:Type}(key:K→Lit)(val:V→DataW Unit)(D:DataW Unit)(f:K→Option V):Prop where
 keys:∀ kl,has D kl=true→∃ k v,kl=key k∧f k=some v
 gone:∀ k,f k=none→has D (key k)=false
 there:∀ k v,f k=some v→has D (key k)=true∧∀ z,D.atKey (key k) z=val v
section
variable {K V:Type}{key:K→Lit}{val:V→DataW Unit}{D:DataW Unit}{f f':K→Option V}
theorem Reads.empty:Reads key val (.map []) (fun _=>none):=⟨fun kl h=>by simp [has] at h,fun k _=>by simp [has],fun k v h=>by cases h⟩
theorem Reads.isSome (h:Reads key val D f)(k:K):has D (key k)=(f k).isSome:=by
 cases e:f k with
 | none=>rw [h.gone k e];rfl
 | some v=>rw [(h.there k v e).1];rfl
theorem Reads.look (h:Reads key val D f)(k:K)(z:DataW Unit):D.atKey (key k) z=match f k with | some v=>val v | none=>z:=by
 cases e:f k with
 | none=>exact atKey_of_not_has (h.gone k e) _
 | some v=>exact (h.there k v e).2 _
theorem Reads.put (h:Reads key val D f)(hD:IsMap D)(hk:∀ k,WideAt.IsKeyLit (key k)){k:K}{v:V}(hinj:∀ j,key j=key k→j=k)(h1:f' k=some v)(h2:∀ j,j≠k→f' j=f j):Reads key val (D.put (key k) (val v)) f':=by
 refine ⟨fun kl hh=>?_,fun j hj=>?_,fun j u hj=>?_⟩
 · by_cases e:kl=key k
   · exact ⟨k,v,e,h1⟩
   · rw [has_put_other e] at hh
     obtain ⟨j,u,rfl,hj⟩:=h.keys kl hh;exact ⟨j,u,rfl,by rw [h2 j (fun x=>e (by rw [x]))];exact hj⟩
 · have e:j≠k:=fun x=>by rw [x,h1] at hj;cases hj
   rw [has_put_other (fun x=>e (hinj _ x))];exact h.gone j (by rw [← h2 j e];exact hj)
 · by_cases e:j=k
   · subst e
     rw [h1] at hj
     cases hj
     exact ⟨has_put_same hD (hk j) _,fun z=>atKey_put_same hD (hk j) _ z⟩
   · rw [h2 j e] at hj
     obtain ⟨a,b⟩:=h.there j u hj;exact ⟨by rw [has_put_other (fun x=>e (hinj _ x))];exact a,fun z=>by rw [atKey_put_other (fun x=>e (hinj _ x))];exact b z⟩
theorem Reads.congr (h:Reads key val D f)(e:∀ k,f' k=f k):Reads key val D f':=by
 have:f'=f:=funext e;rw [this];exact h
end
end
section
open Go
def readB (S:ByteArray)(a n:Int):ByteArray×Bool×Int :=
 if a < 0∨n < 0 then (⟨#[]⟩,false,2) else if (S.size:Int)≤a then (⟨#[]⟩,true,0) else if (S.size:Int) - a≤n then (S.extract a.toNat S.size,true,0) else (S.extract a.toNat (a+n).toNat,false,0)
def zer (k:Nat):ByteArray:=bs (List.replicate k 0)
theorem zer_size (k:Nat):(zer k).size=k:=by unfold zer;rw [bs_size];simp
def shrinkTo (H:List Bool)(n j:Nat):List Bool:=H.mapIdx fun k x=>if k < j then x || decide (n≤k*64) else x
theorem shrinkTo_len (H:List Bool)(n j:Nat):(shrinkTo H n j).length=H.length:=by simp [shrinkTo]
def resizeS (S:ByteArray)(n:Nat):ByteArray:=if S.size≤n then S++zer (n - S.size) else S.extract 0 n
def resizeH (S:ByteArray)(H:List Bool)(n:Nat):List Bool:=if S.size≤n then H else shrinkTo H n H.length
def padS (S:ByteArray)(a:Nat):ByteArray:=if S.size < a then S++zer (a - S.size) else S
def tailS (P:ByteArray)(k:Nat):ByteArray:=if k < P.size then P.extract k P.size else ⟨#[]⟩
def writeS (S:ByteArray)(a:Nat)(s:ByteArray):ByteArray:=(padS S a).extract 0 a++s++tailS (padS S a) (a+s.size)
def moreH (H:List Bool)(i:Nat):List Bool:=H++List.replicate i true
theorem moreH_len (H:List Bool)(i:Nat):(moreH H i).length=H.length+i:=by simp [moreH]
def markH (H:List Bool)(k:Nat):List Bool:=(moreH H (k+1 - H.length)).set k false
def marksH (H:List Bool)(k:Nat):Nat→List Bool
 | 0=>H
 | i+1=>markH (marksH H k i) (k+i)
theorem markH_len (H:List Bool)(k:Nat):(markH H k).length=max H.length (k+1):=by simp [markH,moreH_len];omega
theorem marksH_len (H:List Bool)(k i:Nat):(marksH H k i).length≤max H.length (k+i):=by
 induction i with
 | zero=>simp [marksH];omega
 | succ i ih=>rw [marksH,markH_len];omega
end
end Go.Proofs.YtmnidbnaneagjaaGreatDoor
