import Derived.Lib.ItoaNum
import Derived.Test.YtccikgogjfbpeaaGreatDoorQl
open Option renaming some->I,none->S
open List renaming map_cons->J,any_cons->P,length_eq_zero_iff->Y,getElem_of_mem->Z,length_cons->U,cons_append->K,map_append->O,replicate->E
open Nat renaming zero_add->V
namespace Go.Proofs.YtccikgogjfbpeaaGreatDoor
set_option maxRecDepth 30000
set_option maxHeartbeats 8000000
abbrev Fa:=Option (Nat×Nat)
def ZW (f:Fa)(a:Bool)(k b:Nat):Fa:=
 match f with
 |some x=>I x
 |none=>if a then I (k,b)else S
theorem ZM (x:Nat×Nat)(b:Bool)(k l:Nat):ZW (I x) b k l=I x:=rfl
theorem Yu (k l:Nat):ZW S true k l=I (k,l):=rfl
theorem Z7 (k l:Nat):ZW S false k l=S:=rfl
def Yn (b:ByteArray)(a:Nat)(f:Fa):List ByteArray->Fa
 |[]=>f
 |x::xs=>Yn b a (ZW f (x.toList==b.toList) 4 a) xs
theorem WM (b:ByteArray)(a:Nat)(x:Nat×Nat)(l:List ByteArray):Yn b a (I x) l=I x:=by
 induction l with
 |nil=>rfl
 |cons y d c=>exact c
theorem SF (b:ByteArray)(a:Nat)(l:List ByteArray):Yn b a S l=if l.any (fun x=>x.toList==b.toList)then I (4,a)else S:=by
 induction l with
 |nil=>rfl
 |cons y d f=>
  show Yn b a (ZW S (y.toList==b.toList) 4 a) d=_
  by_cases c:(y.toList==b.toList)=true
  ·rw[if_pos (by rw[P,c];rfl),c,Yu,WM]
  ·rw[Bool.not_eq_true]at c
   have e:(y::d).any (fun x=>x.toList==b.toList)=d.any (fun x=>x.toList==b.toList):=by rw[P,c];rfl
   simp only[e];rw[c,Z7,f]
def Yc (a:Nat)(k:Nat)(f:Fa):List Tk->Fa
 |[]=>f
 |t::r=>Yc a (k+1) (ZW (ZW f (decide (4<k)) 6 t.line) (decide (a<Ze t)) 5 t.line) r
theorem ZQ (a k:Nat)(x:Nat×Nat)(l:List Tk):Yc a k (I x) l=I x:=by
 induction l generalizing k with
 |nil=>rfl
 |cons y c b=>exact b (k+1)
def MV {α:Type}:Except (Nat×Nat) α->Fa
 | .error f=>I f
 | .ok _=>S
theorem Wo (a:Nat):∀(l:List Tk)(i:Nat),i<=4->Yc a (i+1) S l=MV (Zr a i l)/\∀ns,Zr a i l=.ok ns->ns=l.map Ze
 |[],i,_=>⟨rfl,fun ns h=>by simp[Zr]at h;simp[h]⟩
 |t::r,i,hi=>by
  by_cases d:i=4
  ·subst d
   refine⟨?_,fun ns h=>by simp[Zr]at h⟩;simp only[Yc,Zr];rw[show decide (4<4+1)=true from rfl,Yu,ZM,ZQ];rfl
  have g:decide (4<i+1)=false:=by simp;omega
  by_cases c:a<Ze t
  ·have b:decide (a<Ze t)=true:=by simpa using c
   refine⟨?_,fun ns h=>by simp[Zr,d,c]at h⟩;simp only[Yc,Zr];rw[g,Z7,b,Yu,ZQ,if_neg d,if_pos c];rfl
  ·have b:decide (a<Ze t)=false:=by simpa using c
   obtain⟨j,k⟩:=Wo a r (i+1) (by omega);refine⟨?_,fun ns h=>?_⟩
   ·simp only[Yc,Zr]
    rw[g,Z7,b,Z7,j,if_neg d,if_neg c]
    cases Zr a (i+1) r<;>rfl
   ·simp only[Zr]at h
    rw[if_neg d,if_neg c]at h
    cases e:Zr a (i+1) r with
    |error f=>rw[e]at h;cases h
    |ok m=>
     rw[e]at h;injection h with h;rw[<-h,J,k m e]
def ZB (b:ByteArray)(a:Int)(i:Nat):List Zd->Int
 |[]=>a
 |x::xs=>ZB b (if(x.name.toList==b.toList)=true then(i:Int)else a) (i+1) xs
def Xz:List ByteArray->Prop
 |[]=>True
 |x::xs=>(∀y,y∈xs->(y.toList==x.toList)=false)/\Xz xs
theorem P2 (b:ByteArray)(a:Int)(l:List Zd):∀i,(∀y,y∈l.map Zd.name->(y.toList==b.toList)=false)->ZB b a i l=a:=by
 induction l with
 |nil=>intro i _;rfl
 |cons x e d=>
  intro i h;simp only[ZB];rw[if_neg (by have:=h x.name (by simp);rw[this];decide)];exact d (i+1) (fun y c=>h y (by simp at c ⊢;exact Or.inr c))
theorem MW (a:ByteArray)(l:List Zd)(d:Xz (l.map Zd.name)):∀i,ZB a (-1) i l=Zk a i l:=by
 induction l with
 |nil=>intro i;rfl
 |cons x c f=>
  intro i;simp only[ZB,Zk];have b:(∀y,y∈c.map Zd.name->(y.toList==x.name.toList)=false)/\Xz (c.map Zd.name):=d;by_cases h:(x.name.toList==a.toList)=true
  ·rw[if_pos h,if_pos h]
   refine P2 a _ c _ (fun y g=>?_);have j:=b.1 y g
   have e:x.name.toList=a.toList:=by simpa using h
   rw[<-e];exact j
  ·rw[if_neg h,if_neg h]
   exact f b.2 (i+1)
def Y9 (a:List Zd)(k:Nat)(f:Fa):List Tk->Fa
 |[]=>f
 |t::r=>Y9 a (k+1) (ZW (ZW f (decide (4<k)) 6 t.line) (decide (ZB t.text (-1) 0 a<0)) 4 t.line) r
theorem XU (a:List Zd)(k:Nat)(x:Nat×Nat)(l:List Tk):Y9 a k (I x) l=I x:=by
 induction l generalizing k with
 |nil=>rfl
 |cons y c b=>exact b (k+1)
theorem P3 (a:List Zd)(k:Xz (a.map Zd.name)):∀(l:List Tk)(i:Nat),i<=4->Y9 a (i+1) S l=MV (ZC a i l)/\∀ns,ZC a i l=.ok ns->ns.map (fun n:Nat=>(n:Int))=l.map fun t=>ZB t.text (-1) 0 a
 |[],i,_=>⟨rfl,fun ns h=>by simp[ZC]at h;simp[h]⟩
 |t::r,i,hi=>by
  have g:=MW t.text a k 0;by_cases d:i=4
  ·subst d
   refine⟨?_,fun ns h=>by simp[ZC]at h⟩;simp only[Y9,ZC];rw[show decide (4<4+1)=true from rfl,Yu,ZM,XU];rfl
  have e:decide (4<i+1)=false:=by simp;omega
  by_cases c:Zk t.text 0 a<0
  ·have b:decide (ZB t.text (-1) 0 a<0)=true:=by rw[g];simpa using c
   refine⟨?_,fun ns h=>by simp[ZC,d,c]at h⟩;simp only[Y9,ZC];rw[e,Z7,b,Yu,XU,if_neg d,if_pos c];rfl
  ·have b:decide (ZB t.text (-1) 0 a<0)=false:=by rw[g];simpa using c
   obtain⟨m,o⟩:=P3 a k r (i+1) (by omega);refine⟨?_,fun ns h=>?_⟩
   ·simp only[Y9,ZC]
    rw[e,Z7,b,Z7,m,if_neg d,if_neg c]
    cases ZC a (i+1) r<;>rfl
   ·simp only[ZC]at h
    rw[if_neg d,if_neg c]at h
    cases j:ZC a (i+1) r with
    |error f=>rw[j]at h;cases h
    |ok p=>
     rw[j]at h;injection h with h;rw[<-h,J,J,o p j,g]
     congr 1
     omega
def X5 (a:List Zd)(f:Fa)(r:Vp):Fa:=
 ZW (ZW (Yn r.name.text r.name.line (ZW f (decide (6<=a.length)) 6 r.name.line) (a.map Zd.name)) (decide (1000000<Ze r.base)) 5 r.base.line) (decide (1000<Ze r.rate)) 5 r.rate.line
theorem NR (a:ByteArray)(l:List Zd):∀i,(0<=Zk a i l)↔(l.map Zd.name).any (fun x=>x.toList==a.toList)=true:=by
 induction l with
 |nil=>intro i;simp[Zk]
 |cons x c b=>
  intro i;simp only[Zk,J,P]
  cases(x.name.toList==a.toList)with
  |true=>simp
  |false=>simpa using b (i+1)
theorem UQ (a:List Zd)(r:Vp)(i:a.length<=6):X5 a S r=MV (ZJ a r)/\∀t,ZJ a r=.ok t->t=⟨r.name.text,Ze r.base,Ze r.rate⟩:=by
 unfold X5 ZJ;by_cases f:a.length=6
 ·have e:decide (6<=a.length)=true:=by simp;omega
  rw[e,Yu,WM,if_pos f];exact⟨rfl,fun t h=>by cases h⟩
 have e:decide (6<=a.length)=false:=by simp;omega
 rw[e,Z7,SF,if_neg f];have g:=NR r.name.text a 0;by_cases b:0<=Zk r.name.text 0 a
 ·rw[if_pos (g.1 b),if_pos b]
  exact⟨rfl,fun t h=>by cases h⟩
 rw[if_neg (fun h=>b (g.2 h)),if_neg b];by_cases c:1000000<Ze r.base
 ·rw[show decide (1000000<Ze r.base)=true from by simpa using c,if_pos c]
  exact⟨rfl,fun t h=>by cases h⟩
 rw[show decide (1000000<Ze r.base)=false from by simpa using c,if_neg c];by_cases d:1000<Ze r.rate
 ·rw[show decide (1000<Ze r.rate)=true from by simpa using d,if_pos d]
  exact⟨rfl,fun t h=>by cases h⟩
 rw[show decide (1000<Ze r.rate)=false from by simpa using d,if_neg d];exact⟨rfl,fun t h=>by injection h with h;exact h.symm⟩
structure Z8 where
 name:ByteArray
 rank:Nat
 width:Nat
 lo:Nat
 hi:Nat
 mcc:List Nat
 cur:List Nat
 am:Option (Nat×Nat)
 routes:List Int
 decline:Bool
 cheapest:Bool
def WR (a:List Zd)(r:XX):Z8:=
 ⟨r.name.text,Ze r.rank,r.bin.1.text.size,Ze r.bin.1,Ze r.bin.2,r.mcc.map Ze,r.cur.map Ze,r.amount.map (fun b=>(Ze b.1,Ze b.2)),r.act.routes.map (fun t=>ZB t.text (-1) 0 a),r.act.decline,r.act.cheapest⟩
def Y3 (f:Fa):Option (Tk×Tk)->Fa
 |none=>f
 |some a=>ZW (ZW f (decide (1000000000<Ze a.1)) 5 a.1.line) (decide (1000000000<Ze a.2)||decide (Ze a.2<Ze a.1)) 5 a.2.line
def Xm (b:List Zd)(a:List ByteArray)(f:Fa)(r:XX):Fa:=
  Y9 b 1 (Yc 999 1 (Y3 (Yc 9999 1
    (ZW (ZW (ZW (Yn r.name.text r.name.line (ZW f (decide (8<=a.length)) 6 r.name.line) a)
      (decide (1000<Ze r.rank)) 5 r.rank.line) (decide (6<r.bin.1.text.size)) 5 r.bin.1.line)
      (decide (6<r.bin.2.text.size)||decide (r.bin.2.text.size≠r.bin.1.text.size)||decide (Ze r.bin.2<Ze r.bin.1)) 5 r.bin.2.line)
    r.mcc) r.amount) r.cur) r.act.routes
theorem LY (a:ByteArray)(l:List Zc):XT a l=(l.map Zc.name).any (fun x=>x.toList==a.toList):=by
 induction l with
 |nil=>rfl
 |cons x c b=>
  simp only[XT,J,P]
  cases(x.name.toList==a.toList)with
  |true=>rfl
  |false=>simpa using b
theorem Px:∀(l:List UInt8)(n:Nat),(∀c,c∈l->c.toNat<=57)->l.foldl (fun n c=>n*10+(c.toNat-48)) n<(n+1)*10^l.length
 |[],n,_=>by simp
 |c::r,n,h=>by
  have a:=Px r (n*10+(c.toNat-48)) (fun d b=>h d (by simp[b]));have e:=h c (by simp);simp only[List.foldl_cons,U];refine nL a ?_;rw[Nat.pow_succ,Nat.mul_comm (10^r.length) 10,<-Nat.mul_assoc];exact Nat.mul_le_mul_right _ (by omega)
theorem XY (t:Tk)(b:Dg t.text):Ze t<1000000000:=by
 have h:=Px t.text.data.toList 0 (fun c f=>by
  obtain⟨k,d,e⟩:=Z f;have a:=(b.2 k (by simpa using d)).2;unfold Zv at a;rw[gD,gE d,e]at a;simp at a
  omega)
 have g:t.text.data.toList.length<=9:=by have:=b.1;simpa using this
 have i:10^t.text.data.toList.length<=10^9:=Nat.pow_le_pow_right (by omega) g;unfold Ze Yt;omega
def Zc.ref (r:Zc):Z8:=⟨r.name,r.rank,r.digits,r.lo,r.hi,r.mcc,r.cur,r.am,r.routes.map (fun n:Nat=>(n:Int)),r.decline,r.cheapest⟩
theorem JE (a:List Zd)(d:List Zc)(r:XX)(L:d.length<=8)(o:Xz (a.map Zd.name))(z:∀c,r.amount=I c->Dg c.1.text/\Dg c.2.text):
  Xm a (d.map Zc.name) S r=MV (Ym a d r)/\∀t,Ym a d r=.ok t->t.ref=WR a r/\t.ahead=a.length:=by
 unfold Xm Ym
 have b:∀x:Nat×Nat,Y9 a 1 (Yc 999 1 (Y3 (I x) r.amount) r.cur) r.act.routes=I x:=fun x=>by
  cases r.amount with
  |none=>simp only[Y3];rw[ZQ,XU]
  |some c=>simp only[Y3];rw[ZM,ZM,ZQ,XU]
 rw[List.length_map];by_cases u:d.length=8
 ·have o:decide (8<=d.length)=true:=by simp;omega
  rw[o,Yu,WM,ZM,ZM,ZM,ZQ,b,if_pos u];exact⟨rfl,fun t h=>by cases h⟩
 rw[show decide (8<=d.length)=false from by simp;omega,Z7,SF,if_neg u,<-LY];by_cases k:XT r.name.text d=true
 ·rw[if_pos k,if_pos k,ZM,ZM,ZM,ZQ,b]
  exact⟨rfl,fun t h=>by cases h⟩
 rw[if_neg k,if_neg k];by_cases l:1000<Ze r.rank
 ·rw[show decide (1000<Ze r.rank)=true from by simpa using l,if_pos l,Yu,ZM,ZM,ZQ,b]
  exact⟨rfl,fun t h=>by cases h⟩
 rw[show decide (1000<Ze r.rank)=false from by simpa using l,if_neg l,Z7];by_cases m:6<r.bin.1.text.size
 ·rw[show decide (6<r.bin.1.text.size)=true from by simpa using m,if_pos m,Yu,ZM,ZQ,b]
  exact⟨rfl,fun t h=>by cases h⟩
 rw[show decide (6<r.bin.1.text.size)=false from by simpa using m,if_neg m,Z7];by_cases p:r.bin.2.text.size≠r.bin.1.text.size
 ·rw[show(decide (6<r.bin.2.text.size)||decide (r.bin.2.text.size≠r.bin.1.text.size)||decide (Ze r.bin.2<Ze r.bin.1))=true from by simp[p],if_pos p,Yu,ZQ,b]
  exact⟨rfl,fun t h=>by cases h⟩
 have A:r.bin.2.text.size=r.bin.1.text.size:=by omega
 rw[if_neg p];by_cases v:¬Ze r.bin.1<=Ze r.bin.2
 ·rw[show(decide (6<r.bin.2.text.size)||decide (r.bin.2.text.size≠r.bin.1.text.size)||decide (Ze r.bin.2<Ze r.bin.1))=true from by simp;omega,if_pos v,Yu,ZQ,b]
  exact⟨rfl,fun t h=>by cases h⟩
 rw[show(decide (6<r.bin.2.text.size)||decide (r.bin.2.text.size≠r.bin.1.text.size)||decide (Ze r.bin.2<Ze r.bin.1))=false from by simp;omega,if_neg v,Z7];obtain⟨w,B⟩:=Wo 9999 r.mcc 0 (by omega);rw[V]at w;rw[w]
 cases C:Zr 9999 0 r.mcc with
 |error f=>
  simp only[MV];rw[b];exact⟨rfl,fun t h=>by cases h⟩
 |ok g=>
  have D:=B g C;simp only[MV];obtain⟨c1,E⟩:=Wo 999 r.cur 0 (by omega);rw[V]at c1;obtain⟨y,F⟩:=P3 a o r.act.routes 0 (by omega);rw[V]at y;have i:∀(n:Option (Nat×Nat)),n=r.amount.map (fun c=>(Ze c.1,Ze c.2))->Y9 a 1 (Yc 999 1 S r.cur) r.act.routes=
    MV (match Zr 999 0 r.cur with
     | .error f=>(.error f:Except (Nat×Nat) Zc)
     | .ok e=>match ZC a 0 r.act.routes with
      | .error f=>.error f
      | .ok j=>.ok ⟨r.name.text,Ze r.rank,r.bin.1.text.size,Ze r.bin.1,Ze r.bin.2,g,n,e,r.act.decline,r.act.cheapest,j,a.length⟩)/\
    ∀t,(match Zr 999 0 r.cur with
     | .error f=>(.error f:Except (Nat×Nat) Zc)
     | .ok e=>match ZC a 0 r.act.routes with
      | .error f=>.error f
      | .ok j=>.ok ⟨r.name.text,Ze r.rank,r.bin.1.text.size,Ze r.bin.1,Ze r.bin.2,g,n,e,r.act.decline,r.act.cheapest,j,a.length⟩)=.ok t->t.ref=WR a r/\t.ahead=a.length:=by
   intro n q;rw[c1]
   cases G:Zr 999 0 r.cur with
   |error f=>
    simp only[MV];rw[XU];exact⟨rfl,fun t h=>by cases h⟩
   |ok e=>
    simp only[MV];rw[y]
    cases H:ZC a 0 r.act.routes with
    |error f=>exact⟨rfl,fun t h=>by cases h⟩
    |ok j=>
     refine⟨rfl,fun t h=>?_⟩;injection h with h;subst h;refine⟨?_,rfl⟩;simp only[Zc.ref,WR];rw[D,E e G,F j H,q]
  cases s:r.amount with
  |none=>
   have h:=i S (by rw[s];rfl);simp only[Y3,Option.any,Option.map];exact h
  |some c=>
   obtain⟨J,K⟩:=z c s;have v1:=XY c.1 J;have v2:=XY c.2 K;simp only[Y3,Option.any,Option.map];rw[show decide (1000000000<Ze c.1)=false from by simp;omega,Z7,show decide (1000000000<Ze c.2)=false from by simp;omega,Bool.false_or];by_cases M:Ze c.1<=Ze c.2
   ·have h:=i (I (Ze c.1,Ze c.2)) (by rw[s];rfl)
    rw[show decide (Ze c.2<Ze c.1)=false from by simp;omega,Z7,if_neg (by simp;omega)];exact h
   ·rw[show decide (Ze c.2<Ze c.1)=true from by simp;omega,Yu,ZQ,XU,if_pos (by simp;omega)]
    exact⟨rfl,fun t h=>by cases h⟩
def Yh:List UInt8->List UInt8
 |48::c::r=>Yh (c::r)
 |l=>l
theorem Vi (c:UInt8)(r:List UInt8):Yh (48::c::r)=Yh (c::r):=by rw[Yh]
theorem VU (c:UInt8):Yh [c]=[c]:=by
 unfold Yh;split
 ·rename_i h;simp at h
 ·rfl
theorem Vx (b:UInt8)(r:List UInt8)(h:b≠48):Yh (b::r)=b::r:=by
 unfold Yh;split
 ·rename_i a;simp at a;exact absurd a.1 h
 ·rfl
theorem Ra (l:List UInt8)(h:l≠[]):Yh l≠[]/\(Yh l).length<=l.length:=by
 induction l with
 |nil=>exact absurd rfl h
 |cons b r d=>
  by_cases a:b=48
  ·subst a
   cases r with
   |nil=>rw[VU];simp
   |cons c r=>
    rw[Vi];have:=d (by simp);exact⟨this.1,by have:=this.2;simp at this ⊢;omega⟩
  ·rw[Vx b r a];simp
theorem GA (l:List UInt8)(h:l≠[]):E (l.length-(Yh l).length) 48++Yh l=l:=by
 induction l with
 |nil=>exact absurd rfl h
 |cons b r d=>
  by_cases a:b=48
  ·subst a
   cases r with
   |nil=>rw[VU];simp
   |cons c r=>
    rw[Vi];have f:=d (by simp);have g:=(Ra (c::r) (by simp)).2
    have e:(48::c::r).length-(Yh (c::r)).length=((c::r).length-(Yh (c::r)).length)+1:=by
     simp only[U]at g ⊢;omega
    rw[e,List.replicate_succ,K,f]
  ·rw[Vx b r a];simp
theorem LZ (m:List UInt8)(c:UInt8)(e:m≠[]):Yh (m++[c])=if Yh m=[48]then[c]else Yh m++[c]:=by
 induction m with
 |nil=>exact absurd rfl e
 |cons b r f=>
  by_cases a:b=48
  ·subst a
   cases r with
   |nil=>rw[VU,if_pos rfl];show Yh [48,c]=_;rw[Vi,VU]
   |cons d r=>
    rw[Vi]
    show Yh (48::d::(r++[c]))=_
    rw[Vi];exact f (by simp)
  ·rw[Vx b r a,K,Vx b _ a]
   rw[if_neg (by simp;intro h;exact absurd h a)]
def CH (l:List UInt8):Prop:=∀c,c∈l->48<=c.toNat/\c.toNat<=57
theorem P4 (c:UInt8)(h:48<=c.toNat/\c.toNat<=57):UInt8.ofNat (48+(c.toNat-48))=c:=by
 rw[show 48+(c.toNat-48)=c.toNat from by omega];exact UInt8.ofNat_toNat
theorem Ur {u:Nat}(h:u<10):Lib.decDigits u=[UInt8.ofNat (48+u)]:=by rw[Lib.decDigits,dif_pos h]
theorem Py {u:Nat}(h:¬u<10):Lib.decDigits u=Lib.decDigits (u/10)++[UInt8.ofNat (48+u % 10)]:=by rw[Lib.decDigits,dif_neg h]
theorem MX (u:Nat):Lib.decDigits u≠[]:=by
 by_cases h:u<10
 ·rw[Ur h];simp
 ·rw[Py h];simp
theorem L0 (u:Nat):Lib.decDigits u=[48]↔u=0:=by
 constructor
 ·intro h
  by_cases b:u<10
  ·rw[Ur b]at h
   injection h with h _;have:=congrArg UInt8.toNat h;simp at this;omega
  ·rw[Py b]at h
   have c:=congrArg List.length h
   have d:1<=(Lib.decDigits (u/10)).length:=by
    rcases Nat.eq_zero_or_pos (Lib.decDigits (u/10)).length with a|a
    ·exact absurd (Y.1 a) (MX _)
    ·exact a
   simp at c;exact absurd c (MX _)
 ·intro h;subst h;rw[Ur (by omega)];rfl
theorem GB:∀(n:Nat)(l:List UInt8),l.length=n->l≠[]->CH l->Yh l=Lib.decDigits (Yt l):=by
 intro n
 induction n with
 |zero=>intro l b h _;exact absurd (Y.1 b) h
 |succ n o=>
  intro l b a k;obtain⟨m,c,rfl⟩:∃m c,l=m++[c]:=⟨l.dropLast,l.getLast a,(List.dropLast_concat_getLast a).symm⟩;have f:=k c (by simp);rw[UA];by_cases g:m=[]
  ·subst g
   show Yh [c]=Lib.decDigits (Yt []*10+(c.toNat-48))
   have e:Yt []*10+(c.toNat-48)=c.toNat-48:=by simp[Yt]
   rw[e,VU,Ur (by omega),P4 c f]
  ·have p:=o m (by simp at b;exact b) g (fun d i=>k d (by simp[i]))
   rw[LZ m c g,p];by_cases j:Yt m=0
   ·rw[if_pos ((L0 _).2 j),j,Ur (by omega),Nat.zero_mul,V,P4 c f]
   ·rw[if_neg (fun h=>j ((L0 _).1 h)),Py (u:=Yt m*10+(c.toNat-48)) (by omega)]
    rw[show(Yt m*10+(c.toNat-48))/10=Yt m from by omega,show(Yt m*10+(c.toNat-48))% 10=c.toNat-48 from by omega,P4 c f]
theorem Er {t:ByteArray}(h:Dg t):CH t.data.toList:=fun c d=>by
 obtain⟨k,b,e⟩:=Z d;have a:=h.2 k (by simpa using b);unfold Zv at a;rw[gD,gE b,e]at a;simp at a;omega
theorem P5 {t:ByteArray}(h:1<=t.size):t.data.toList≠[]:=fun e=>by
 have a:t.data.toList.length=t.size:=by simp
 rw[e]at a;simp at a;omega
theorem NS (t:Tk)(h:Dg t.text)(a:1<=t.text.size):Yh t.text.data.toList=Lib.decDigits (Ze t):=
 GB _ _ rfl (P5 a) (Er h)
theorem RK (t:Tk)(h:Dg t.text)(b:1<=t.text.size):E (t.text.size-(Lib.decDigits (Ze t)).length) 48++Lib.decDigits (Ze t)=t.text.data.toList/\(Lib.decDigits (Ze t)).length<=t.text.size:=by
 have a:t.text.data.toList≠[]:=P5 b;have f:=NS t h b;have c:=GA _ a;have d:=(Ra _ a).2
 have e:t.text.data.toList.length=t.text.size:=by simp
 rw[f,e]at c d;exact⟨c,d⟩
def YV (a:List Zd)(b:List Z8):List Yk->Except (Nat×Nat) (List Zd×List Z8)
 |[]=>.ok (a,b)
 | .route r::xs=>match X5 a S r with
  |some f=>.error f
  |none=>YV (a++[⟨r.name.text,Ze r.base,Ze r.rate⟩]) b xs
 | .rule r::xs=>match Xm a (b.map Z8.name) S r with
  |some f=>.error f
  |none=>YV a (b++[WR a r]) xs
theorem Nw {l:List ByteArray}{x:ByteArray}(h:Xz l)(c:l.any (fun y=>y.toList==x.toList)=false):Xz (l++[x]):=by
 induction l with
 |nil=>exact⟨fun y b=>by simp at b,trivial⟩
 |cons a r f=>
  have d:(∀y,y∈r->(y.toList==a.toList)=false)/\Xz r:=h;rw[P,Bool.or_eq_false_iff]at c;refine⟨fun y b=>?_,f d.2 c.2⟩;rcases List.mem_append.1 b with b|b
  ·exact d.1 y b
  ·simp at b
   subst b;rw[Bool.eq_false_iff]at c ⊢;intro e;apply c.1;simp at e ⊢;exact e.symm
theorem Vy {a:List Zd}{r:Vp}{t:Zd}(b:a.length<=6)(c:Xz (a.map Zd.name))(h:ZJ a r=.ok t):Xz ((a++[t]).map Zd.name)/\(a++[t]).length<=6:=by
 have e:=(UQ a r b).2 t h;unfold ZJ at h
 split at h
 ·cases h
 rename_i i
 split at h
 ·cases h
 rename_i d;have f:=NR r.name.text a 0;subst e;rw[O];refine⟨Nw c ?_,by simp;omega⟩;rw[Bool.eq_false_iff]
 exact fun g=>d (f.2 g)
theorem QS {b:List Zd}{a:List Zc}{r:XX}{t:Zc}(c:a.length<=8)(h:Ym b a r=.ok t):(a++[t]).length<=8:=by
 unfold Ym at h
 split at h
 ·cases h
 ·simp;omega
theorem Es (a:List Zc):(a.map Zc.ref).map Z8.name=a.map Zc.name:=by
 rw[List.map_map];rfl
theorem T3:∀(d:List Yk)(a:List Zd)(b:List Zc),a.length<=6->b.length<=8->Xz (a.map Zd.name)->(∀x,x∈d->WL x)->
  YV a (b.map Zc.ref) d=(match ZZ a b d with
   | .error f=>.error f
   | .ok p=>.ok (p.1,p.2.map Zc.ref))
 |[],a,b,_,_,_,_=>rfl
 | .route r::d,a,b,h6,h8,hd,ho=>by
  obtain⟨h,i⟩:=UQ a r h6;simp only[YV];rw[h]
  cases c:ZJ a r with
  |error f=>rw[Xr (f:=f) (by simp only[VT,c])];rfl
  |ok t=>
   rw[X4 (p:=(a++[t],b)) (by simp only[VT,c])];have e:=i t c;have g:=Vy h6 hd c;have:=T3 d (a++[t]) b g.2 h8 g.1 (fun x j=>ho x (by simp[j]));rw[e]at this ⊢;exact this
 | .rule r::d,a,b,h6,h8,hd,ho=>by
  have k:WL (.rule r):=ho _ (by simp);obtain⟨h,i⟩:=JE a b r h8 hd k.2.2.2.2.2.2.1;simp only[YV];rw[Es,h]
  cases c:Ym a b r with
  |error f=>rw[Xr (f:=f) (by simp only[VT,c])];rfl
  |ok t=>
   rw[X4 (p:=(a,b++[t])) (by simp only[VT,c])];have e:=(i t c).1;have:=T3 d a (b++[t]) h6 (QS h8 c) hd (fun x j=>ho x (by simp[j]));rw[O,J,List.map_nil,e]at this;exact this
def No (t:Tk)(l:List UInt8):Bool:=t.text.toList==l
def TK (ts:List Tk)(k:Nat):Bool:=
 (decide (0<k)&&No (Zs ts (k-1)) [98,105,110])||(decide (2<k)&&No (Zs ts (k-1)) [46,46]&&No (Zs ts (k-3)) [98,105,110])
def Y4 (ts:List Tk)(k:Nat):List UInt8:=
 if decide ((Zs ts k).sort=1)&&!TK ts k then Yh (Zs ts k).text.data.toList else(Zs ts k).text.data.toList
def Ug (s:List UInt8):Bool:=s==[59]||s==[44]||s==[58]||s==[46,46]
def ZT:Bool->Bool->List (List UInt8)->List UInt8
 |_,_,[]=>[]
 |first,glued,s::r=>(if !first&&!glued&&!Ug s then[32]else[])++(s++(if s==[59]then 10::ZT true (s==[46,46]) r else ZT false (s==[46,46]) r))
def Yo (ts:List Tk):Nat->Nat->List (List UInt8)
 |_,0=>[]
 |k,n+1=>Y4 ts k::Yo ts (k+1) n
def Vz (ts:List Tk)(n:Nat):List UInt8:=ZT true false (Yo ts 0 n)
structure C0 (body:List Tk)(i:Nat)(l:List Tk):Prop where
 it:∀j t,l[j]?=I t->body[i+1+2*j]?=I t
 cm:∀j,0<j->j<l.length->∃t,body[i+2*j]?=I t/\(t.text.toList==[44])=true
 en:∃t,body[i+2*l.length]?=I t/\(t.text.toList==[44])=false
 ps:0<l.length
def AQ (t:Tk)(l:List UInt8):Prop:=(t.text.toList==l)=true
def C1 (body:List Tk)(i:Nat)(kw:List UInt8)(l:List Tk):Prop:=
 ∃t,body[i]?=I t/\(((t.text.toList==kw)=true/\C0 body i l)\/((t.text.toList==kw)=false/\l=[]))
def BN (body:List Tk)(i:Nat)(kw:List UInt8)(o:Option (Tk×Tk)):Prop:=
 ∃t,body[i]?=I t/\match o with
  |some a=>(t.text.toList==kw)=true/\body[i+1]?=I a.1/\body[i+3]?=I a.2
  |none=>(t.text.toList==kw)=false
def TF (o:Option (Tk×Tk)):Nat:=match o with|some _=>4|none=>0
def CI (body:List Tk)(c:Nat)(a:Rv)(j:Nat):Prop:=
  ∃ t,body[c+1]?=I t/\
    ((a=⟨true,false,[]⟩/\(t.text.toList==[100,101,99,108,105,110,101])=true/\j=c+2)\/
     (a.decline=false/\(t.text.toList==[100,101,99,108,105,110,101])=false/\(t.text.toList==[99,104,101,97,112,101,115,116])=a.cheapest/\
       ∃b,(c+1=if a.cheapest then b else b+1)/\C0 body b a.routes/\j=b+2*a.routes.length))
structure MY (body:List Tk)(i:Nat)(r:XX)(j:Nat):Prop where
 nm:body[i+1]?=I r.name
 rk:body[i+2]?=I r.rank
 b1:body[i+5]?=I r.bin.1
 b2:body[i+7]?=I r.bin.2
 mc:C1 body (i+8) [109,99,99] r.mcc
 am:BN body (i+8+2*r.mcc.length) [97,109,111,117,110,116] r.amount
 cu:C1 body (i+8+2*r.mcc.length+TF r.amount) [99,117,114] r.cur
 ac:CI body (i+8+2*r.mcc.length+TF r.amount+2*r.cur.length) r.act j
 dg:Dg r.rank.text/\Dg r.bin.1.text/\Dg r.bin.2.text/\(∀t,t∈r.mcc->Dg t.text)/\(∀t,t∈r.cur->Dg t.text)/\(∀ab,r.amount=I ab->Dg ab.1.text/\Dg ab.2.text)
theorem P6 {ts:List Tk}{k n:Nat}(h:k<n):Yo ts k (n-k)=Y4 ts k::Yo ts (k+1) (n-(k+1)):=by
 rw[show n-k=(n-(k+1))+1 from by omega];rfl
theorem WS {ts:List Tk}{k:Nat}{t:Tk}(h:ts[k]?=I t):Zs ts k=t:=by
 unfold Zs;rw[gD,h];rfl
