import Derived.Test.YtccikgogjfbpeaaGreatDoorDa
open Go.Value renaming bool->I,int->V,pointer->U,slice->E,string->H,agg->F
open Option renaming some->J,none->S
open Go.IntKind renaming i64->Y,u8->L,u8->z0
open Go.Obj renaming cells->Z
open Go.RowKit renaming Hid->O
open Go.Proofs.Tryz renaming prog->G
open Go.Ending renaming returned->M
open Go renaming World->N,Calls->R
open Or renaming inr->C
namespace Go.Proofs.YtccikgogjfbpeaaGreatDoor
set_option maxRecDepth 30000
set_option maxHeartbeats 8000000
open Go.RowKit
structure TN (w:N)(TT Q:Nat)(rts:List Zd)(ra:Option Addr)(rc:Nat):Prop where
 c0:w.cell? ⟨TT,0,S⟩=J (E ra rts.length rc)
 nt:TT≠Q
 rt:∀i t,rts[i]?=J t->∃g,ra=J ⟨g,0,S⟩/\g≠Q/\w.cell? ⟨g,i*3,S⟩=J (H t.name)/\w.cell? ⟨g,i*3+1,S⟩=J (V Y (t.base:Nat))/\w.cell? ⟨g,i*3+2,S⟩=J (V Y (t.rate:Nat))
 sz:∀t,t∈rts->Nz t
theorem TN.fr {w w':N}{d Q:Nat}{a:List Zd}{f:Option Addr}{k:Nat}(h:TN w d Q a f k)(b:Fr (fun j=>j=Q) w w'):TN w' d Q a f k:=by
 refine⟨(b.cell (p:=⟨d,0,S⟩) (bL w _ h.c0) h.nt).trans h.c0,h.nt,fun i t m=>?_,h.sz⟩;obtain⟨g,n,c,l,o,q⟩:=h.rt i t m;have e:=bL w _ l;exact⟨g,n,c,(b.cell (p:=⟨g,i*3,S⟩) e c).trans l,(b.cell (p:=⟨g,i*3+1,S⟩) e c).trans o,(b.cell (p:=⟨g,i*3+2,S⟩) e c).trans q⟩
theorem Mi (w:N)(Q f k:Nat)(p:ZI)(y:Nat->Bool)(o:Nat×ByteArray×ByteArray)(z:Nat)(a:Option Addr)(n c i A:Nat)(q:ByteArray)(g m F:Nat)(l:List Zd)(ra:Option Addr)(I x:Nat)(t:Zd)(h:w.heap[Q]?=J (VD f p y k false o))(hn:Ri w f Q i q g m F)(K:TN w f Q l ra I)(s:l[x]?=J t):
  R G 209 #[U (J ⟨Q,0,S⟩),Mh z a n c i A,V Y (x:Nat)] w fun e w'=>e=M (.tuple #[])/\w'.heap[Q]?=J (VD f p y k true (0,q,t.name))/\Fr (fun j=>j=Q) w w':=by
 have P:O (F0 w (w.alloc (Z #[V L (z:Nat),E a n c,V Y (i:Nat),V Y (A:Nat)] 208))):=(Fr.refl _ _).alloc _;have HX:O ((w.alloc (Z #[V L (z:Nat),E a n c,V Y (i:Nat),V Y (A:Nat)] 208)).heap[w.heap.size]?=J (Z #[V L (z:Nat),E a n c,V Y (i:Nat),V Y (A:Nat)] 208)):=aN w _;have hQ:=(iA.1 h).1;have H1:=P.o.whole h (by simp)
 have B:Q≠w.heap.size:=by omega
 have HN:=Za (hn.fr (P.o.mono (by simp)));have HR:=Za (K.fr (P.o.mono (by simp)))
 have g0:(i:Int)<(m:Int):=by have:=hn.lt;omega
 have a0:(x:Int)<(l.length:Int):=by have:=(iG.1 s).1;omega
 have b0:=Za s;have d0:=Za ((K.sz t (mG s)).1);obtain⟨v,e0,_⟩:=K.rt x t s;subst e0;unfold Mh;clear h hn K s;go_enter Tryz.func209,Tryz.ntmps209;go_upto_region 1 with fail;generalize w.alloc (Z #[V L (z:Nat),E a n c,V Y (i:Nat),V Y (A:Nat)] 208)=W at*;obtain⟨X,hX⟩:∃X,w.heap.size=X:=⟨_,rfl⟩;rw[hX]at HX B;rw[hX]
 have u:O (∀b,Fr (fun j=>j=Q) W b->(∃d o',b.heap[Q]?=J (VD f p y k d o'))->b.cell? ⟨X,2,S⟩=J (V Y (i:Nat))/\b.cell? ⟨Q,0,S⟩=J (U (J ⟨f,0,S⟩))/\b.cell? ⟨f,1,S⟩=J (E (J ⟨g,0,S⟩) m F)/\b.cell? ⟨g,i,S⟩=J (H q)/\b.cell? ⟨f,0,S⟩=J (E (J ⟨v,0,S⟩) l.length I)/\b.cell? ⟨v,x*3,S⟩=J (H t.name)):=by
  intro b r ⟨d,o',hq⟩;have s:=r.whole HX.o (fun e=>B e.symm);obtain⟨h0,C,_,e3,_,_⟩:=(HR.o.fr r).rt x t b0.o;injection C with C;injection C with C _ _;subst C;exact⟨bC s 2 _ rfl,bC hq 0 _ rfl,(HN.o.fr r).c1,(HN.o.fr r).ce,(HR.o.fr r).c0,e3⟩
 have HG:O (∀b,O (F0 W b)->R G 208 #[U (J ⟨Q,0,S⟩),V Y 0,H q,H t.name] b fun e w'=>e=M (.tuple #[])/\O (w'.heap[Q]?=J (VD f p y k true (0,q,t.name))/\Fr (fun j=>j=Q) W w')/\w'.cell? ⟨X,2,S⟩=J (V Y (i:Nat))/\w'.cell? ⟨Q,0,S⟩=J (U (J ⟨f,0,S⟩))/\w'.cell? ⟨f,1,S⟩=J (E (J ⟨g,0,S⟩) m F)/\w'.cell? ⟨g,i,S⟩=J (H q)/\w'.cell? ⟨f,0,S⟩=J (E (J ⟨v,0,S⟩) l.length I)/\w'.cell? ⟨v,x*3,S⟩=J (H t.name)):=by
  intro b r;refine(RU b Q f k p y o 0 q t.name (r.o.whole H1 (by simp)) HN.o.sz d0.o).mono ?_;rintro e w' ⟨he,h2,h3⟩;have h4:=(r.o.mono (T:=fun j=>j=Q) (by simp)).trans h3;exact⟨he,⟨h2,h4⟩,u.o _ h4 ⟨_,_,h2⟩⟩
 have hS:=u.o W (Fr.refl _ _) ⟨_,_,H1⟩;have i0:O (F0 W W.drew):=(Fr.refl _ _).drew;obtain⟨rn,f0⟩:∃rn,l.length=rn:=⟨_,rfl⟩;rw[f0]at hS HG a0;clear H1 hX HX u
 go_region_held3 (fun b=>b.cell? ⟨X,2,S⟩=J (V Y (i:Nat))/\b.cell? ⟨Q,0,S⟩=J (U (J ⟨f,0,S⟩))/\b.cell? ⟨f,1,S⟩=J (E (J ⟨g,0,S⟩) m F)/\b.cell? ⟨g,i,S⟩=J (H q)/\b.cell? ⟨f,0,S⟩=J (E (J ⟨v,0,S⟩) rn I)/\b.cell? ⟨v,x*3,S⟩=J (H t.name)) (first|assumption|go_keep) (first
  |(go_at_call 208;refine(HG.o _ (by assumption)).mono ?_;rintro e w7 ⟨rfl,D,j0⟩))
 go_wp2_with fail
 go_end0
 exact⟨rfl,D.o.1,(P.o.mono (by simp)).trans D.o.2⟩
theorem Hj (w:N)(Q n k:Nat)(p:ZI)(C:Nat->Bool)(o:Nat×ByteArray×ByteArray)(f:List Zd)(D:Option Addr)(E x:Nat)(t:Zd)(h:w.heap[Q]?=J (VD n p C k false o))(m:TN w n Q f D E)(j:f[x]?=J t)(q:0<=p.am)(v:p.am<=1000000000):
  R G 211 #[U (J ⟨Q,0,S⟩),V Y (x:Nat)] w fun e w'=>e=M (V Y (Xe f p.am x))/\F0 w w':=by
 have l:O (Xe f p.am x=(t.base:Int)+(t.rate:Int)*p.am):=by show _=_;unfold Xe;rw[j]
 have i:=m.sz t (mG j)
 have F:(t.base:Int)<1000000000:=by have:=i.2.1;omega
 have I:(t.rate:Int)<1000000000:=by have:=i.2.2;omega
 have K:(0:Int)<=(t.rate:Int)*p.am:=Int.mul_nonneg (by omega) q
 have L:(t.rate:Int)*p.am<=1000000000000000000:=by
  have:=Int.mul_le_mul (a:=(t.rate:Int)) (b:=p.am) (c:=1000000000) (d:=1000000000) (by omega) v q (by omega);omega
 have r:(x:Int)<(f.length:Int):=by have:=(iG.1 j).1;omega
 have y:=m.c0;have P:w.cell? ⟨Q,0,S⟩=J (U (J ⟨n,0,S⟩)):=bC h 0 _ rfl;have z:w.cell? ⟨Q,3,S⟩=J (V Y p.am):=bC h 3 _ rfl;have T:=(iA.1 h).1;obtain⟨g,rfl,_,e3,e4,e5⟩:=m.rt x t j;obtain⟨A,s⟩:∃A,f.length=A:=⟨_,rfl⟩;rw[s]at y r;have B:O (F0 w (w.alloc (Z #[H t.name,V Y (t.base:Nat),V Y (t.rate:Nat)] 148))):=(Fr.refl _ _).alloc _;have u:=aN w (Z #[H t.name,V Y (t.base:Nat),V Y (t.rate:Nat)] 148);have x1:=bC u 1 _ rfl;have x2:=bC u 2 _ rfl;have a0:=(B.o.cell (p:=⟨Q,3,S⟩) T (by simp)).trans z;rw[l.o];clear h m j i u l q v;go_enter Tryz.func211,Tryz.ntmps211;go_upto_region 2 with fail;generalize w.alloc (Z #[H t.name,V Y (t.base:Nat),V Y (t.rate:Nat)] 148)=W at*;generalize w.heap.size=X at*;clear e3 e4 e5 y P z
 go_region
 go_wp2_with fail;go_ret;exact⟨rfl,B.o.drew⟩
def Qx (a:List Zd)(b:ByteArray):Option Nat->Nat×ByteArray×ByteArray
 |none=>(4,b,ByteArray.empty)
 |some x=>(0,b,OM a x)
theorem Hk {w:N}{Q b k:Nat}{p:ZI}{a:Nat->Bool}{d:Bool}{o:Nat×ByteArray×ByteArray}(h:w.heap[Q]?=J (VD b p a k d o))(x:Nat)(c:x<6):w.cell? ⟨Q,5+x,S⟩=J (I (a x)):=by
 have:x=0\/x=1\/x=2\/x=3\/x=4\/x=5:=by omega
 rcases this with rfl|rfl|rfl|rfl|rfl|rfl
 ·exact bC h 5 _ rfl
 ·exact bC h 6 _ rfl
 ·exact bC h 7 _ rfl
 ·exact bC h 8 _ rfl
 ·exact bC h 9 _ rfl
 ·exact bC h 10 _ rfl
theorem NE (w:N)(Q s k:Nat)(p:ZI)(f:Nat->Bool)(o:Nat×ByteArray×ByteArray)(v:Nat)(a:Option Addr)(l:List Nat)(c q y:Nat)(u:ByteArray)(g m nc:Nat)(b:List Zd)(ra:Option Addr)(rc:Nat)(h:w.heap[Q]?=J (VD s p f k false o))(hn:Ri w s Q q u g m nc)(hr:TN w s Q b ra rc)(hi:Zw w a l)(hl:l.length<=4000)(A:∀x,x∈l->x<b.length)(h6:b.length<=6)(K:0<=p.am/\p.am<=1000000000):
  R G 169 #[U (J ⟨Q,0,S⟩),Mh v a l.length c q y] w fun e w'=>e=M (.tuple #[])/\w'.heap[Q]?=J (VD s p f k true (Qx b u (Yv false (Xe b p.am) f l S)))/\Fr (fun j=>j=Q) w w':=by
 have B:O (F0 w (w.alloc (Z #[V L (v:Nat),E a l.length c,V Y (q:Nat),V Y (y:Nat)] 208))):=(Fr.refl _ _).alloc _;have I:O ((w.alloc (Z #[V L (v:Nat),E a l.length c,V Y (q:Nat),V Y (y:Nat)] 208)).heap[w.heap.size]?=J (Z #[V L (v:Nat),E a l.length c,V Y (q:Nat),V Y (y:Nat)] 208)):=aN w _;have HH:O ((w.alloc (Z #[V L (v:Nat),E a l.length c,V Y (q:Nat),V Y (y:Nat)] 208)).heap[Q]?=J (VD s p f k false o)):=B.o.whole h (by simp);have HI:O (Zw _ a l):=hi.fr B.o (by simp);have HN:O (Ri _ s Q q u g m nc):=hn.fr (B.o.mono (by simp));have HR:O (TN _ s Q b ra rc):=hr.fr (B.o.mono (by simp))
 have d0:O (∀x,x∈l->x<b.length/\x<6):=fun x h=>⟨A x h,by have:=A x h;omega⟩
 have g0:O (0<=p.am/\p.am<=1000000000):=K;obtain⟨n,C⟩:∃n,l.length=n:=⟨_,rfl⟩;have P:O (l.length=n):=C;rw[C]at B I HH HI HN HR hl ⊢;obtain⟨d,r⟩:∃d,Yv false (Xe b p.am) f l S=d:=⟨_,rfl⟩;have T:O (Yv false (Xe b p.am) f l S=d):=r;rw[r];unfold Mh;clear h hn hr hi C A h6 r K;go_enter Tryz.func169,Tryz.ntmps169;go_upto_region 1 with fail;generalize w.alloc (Z #[V L (v:Nat),E a n c,V Y (q:Nat),V Y (y:Nat)] 208)=W at*;obtain⟨X,hX⟩:∃X,w.heap.size=X:=⟨_,rfl⟩;rw[hX]at I;rw[hX];have x0:=bC I.o 0 _ rfl;have x1:=bC I.o 1 _ rfl;have x2:=bC I.o 2 _ rfl;have x3:=bC I.o 3 _ rfl;clear hX;go_wp2_with fail
 go_loop [5,9] (fun _ i=>∃j:Nat,j<=n/\i=V Y j/\O (Yv false (Xe b p.am) f (l.drop j) S=d)) (fun _ i=>n-(intOf i).toNat)
 case atStart=>exact⟨0,Nat.zero_le _,rfl,T⟩
 case round=>
  obtain⟨j,hj,rfl,HB⟩:=hrel;by_cases h0:j<n
  ·have e0:(j:Int)<(n:Int):=by omega
   obtain⟨x,A⟩:∃x,l[j]?=J x:=⟨_,gE (by have:=P.o;omega)⟩;obtain⟨ga,rfl,hc⟩:=HI.o j x A
   have hd:l.drop j=x::l.drop (j+1):=by
    obtain⟨D,H⟩:=iG.1 A;rw[dC D,H]
   rw[hd]at HB;obtain⟨a0,b0⟩:=d0.o x (mG A)
   have f0:(x:Int)<6:=by omega
   have c0:=Hk HH.o x b0;have z:O (Yv false (Xe b p.am) f (l.drop (j+1)) (if f x then S else J x)=d):=HB.o;clear A hd HB b0
   cases hq:f x with
   |true=>
    rw[hq]at c0 z;go_wp2_with fail;exact⟨⟨j+1,by omega,by go_num,z⟩,by simp[intOf];omega⟩
   |false=>
    rw[hq]at c0 z;obtain⟨t,ht⟩:∃t,b[x]?=J t:=⟨_,gE a0⟩;have HE:O (R G 209 #[U (J ⟨Q,0,S⟩),F #[V L (v:Nat),E (J ⟨ga,0,S⟩) n c,V Y (q:Nat),V Y (y:Nat)],V Y (x:Nat)] W fun e w'=>e=M (.tuple #[])/\w'.heap[Q]?=J (VD s p f k true (0,u,t.name))/\Fr (fun j=>j=Q) W w'):=Mi W Q s k p f o v _ n c q y u g m nc b ra rc x t HH.o HN.o HR.o ht
    have HO:O (Qx b u d=(0,u,t.name)):=by
     show _=_
     have e:=z.o;rw[if_neg (by simp),OL]at e;rw[<-e];simp only[Qx,OM,ht]
    clear ht a0;go_wp2_with fail;refine HE.o.mono ?_;rintro e w7 ⟨rfl,D,H⟩;have H1:=Za D;have H2:=Za ((B.o.mono (by simp)).trans H);clear D H;go_wp2_with fail
    (try simp only[Exit.inBlock,Exit.then])
    refine bodyPost_ret (results_none rfl _ _ _) rfl ?_;exact⟨rfl,by rw[HO.o];exact H1.o,H2.o⟩
  ·have e0:¬(j:Int)<(n:Int):=by omega
   have HE:=Za (Q6 W Q s k p f o v a n c q y u g m nc HH.o HN.o)
   have HO:O (Qx b u d=(4,u,ByteArray.empty)):=by
    show _=_
    have e:=HB.o;rw[dL (by have:=P.o;omega)]at e;rw[<-e];rfl
   go_wp2_with fail;refine HE.o.mono ?_;rintro e w7 ⟨rfl,D,H⟩;have H1:=Za D;have H2:=Za ((B.o.mono (by simp)).trans H);clear D H;go_wp2_with fail
   go_end0
   exact⟨rfl,by rw[HO.o];exact H1.o,H2.o⟩
def Vm:Option Nat->Int
 |none=> -1
 |some x=>(x:Nat)
theorem Qy (w:N)(Q u k:Nat)(p:ZI)(r:Nat->Bool)(o:Nat×ByteArray×ByteArray)(K:Nat)(a:Option Addr)(l:List Nat)(c D P:Nat)(nm:ByteArray)(g m nc:Nat)(d:List Zd)(ra:Option Addr)(rc:Nat)(h:w.heap[Q]?=J (VD u p r k false o))(hn:Ri w u Q D nm g m nc)(hr:TN w u Q d ra rc)(hi:Zw w a l)(hl:l.length<=4000)(T:∀x,x∈l->x<d.length)(h6:d.length<=6)(f0:0<=p.am/\p.am<=1000000000):
  R G 170 #[U (J ⟨Q,0,S⟩),Mh K a l.length c D P] w fun e w'=>e=M (.tuple #[])/\w'.heap[Q]?=J (VD u p r k true (Qx d nm (Yv true (Xe d p.am) r l S)))/\Fr (fun j=>j=Q) w w':=by
 have HF:O (F0 w (w.alloc (Z #[V L (K:Nat),E a l.length c,V Y (D:Nat),V Y (P:Nat)] 208))):=(Fr.refl _ _).alloc _;have HX:O ((w.alloc (Z #[V L (K:Nat),E a l.length c,V Y (D:Nat),V Y (P:Nat)] 208)).heap[w.heap.size]?=J (Z #[V L (K:Nat),E a l.length c,V Y (D:Nat),V Y (P:Nat)] 208)):=aN w _;have HH:O ((w.alloc (Z #[V L (K:Nat),E a l.length c,V Y (D:Nat),V Y (P:Nat)] 208)).heap[Q]?=J (VD u p r k false o)):=HF.o.whole h (by simp);have HI:O (Zw _ a l):=hi.fr HF.o (by simp);have HN:O (Ri _ u Q D nm g m nc):=hn.fr (HF.o.mono (by simp));have HR:O (TN _ u Q d ra rc):=hr.fr (HF.o.mono (by simp))
 have r0:O (∀x,x∈l->x<d.length/\x<6):=fun x h=>⟨T x h,by have:=T x h;omega⟩
 have F:O (0<=p.am/\p.am<=1000000000):=f0;obtain⟨n,a0⟩:∃n,l.length=n:=⟨_,rfl⟩;have g0:O (l.length=n):=a0;rw[a0]at HF HX HH HI HN HR hl ⊢;obtain⟨f,v⟩:∃f,Yv true (Xe d p.am) r l S=f:=⟨_,rfl⟩;have h0:O (Yv true (Xe d p.am) r l S=f):=v;rw[v];unfold Mh;clear h hn hr hi a0 T h6 v f0;go_enter Tryz.func170,Tryz.ntmps170;go_upto_region 1 with fail;generalize w.alloc (Z #[V L (K:Nat),E a n c,V Y (D:Nat),V Y (P:Nat)] 208)=W at*;obtain⟨X,hX⟩:∃X,w.heap.size=X:=⟨_,rfl⟩;rw[hX]at HX;rw[hX];have x1:=bC HX.o 1 _ rfl;clear hX;go_wp2_with fail;clear x1
 go_loopg [4,6,10] n (fun mm bb _ i wr=>∃j b,j<=n/\mm=n-j/\bb=V Y (Vm b)/\i=V Y (j:Nat)/\O (Yv true (Xe d p.am) r (l.drop j) b=f)/\O (F0 W wr)/\O (∀y,b=J y->y<d.length/\y<6))
 case atStart=>exact⟨0,S,Nat.zero_le _,rfl,rfl,rfl,h0,Fr.refl _ _,fun y h=>by cases h⟩
 case round=>
  obtain⟨j,b,hj,rfl,rfl,rfl,HB,q,H⟩:=hrel;have z:=Za (q.o.whole HH.o (by simp));have i0:=Za (HN.o.fr (q.o.mono (by simp)));have b0:=Za (HR.o.fr (q.o.mono (by simp)));have I:=Za (q.o.whole HX.o (by simp));by_cases A0:j<n
  ·have s0:(j:Int)<(n:Int):=by omega
   obtain⟨x,T⟩:∃x,l[j]?=J x:=⟨_,gE (by have:=g0.o;omega)⟩;obtain⟨ga,rfl,hc⟩:=(HI.o.fr q.o (by simp)) j x T
   have hd:l.drop j=x::l.drop (j+1):=by
    obtain⟨h1,h2⟩:=iG.1 T;rw[dC h1,h2]
   rw[hd]at HB;obtain⟨A,c0⟩:=r0.o x (mG T)
   have z0:(x:Int)<6:=by omega
   have j0:=Hk z.o x c0;have k0:O (x<d.length/\x<6):=⟨A,c0⟩;clear T hd c0
   cases hq:r x with
   |true=>
    have s:O (Yv true (Xe d p.am) r (l.drop (j+1)) b=f):=by have e:=HB.o;unfold Yv at e;rw[hq,if_pos rfl]at e;exact e
    rw[hq]at j0;clear A;obtain⟨bi,d0⟩:∃bi,Vm b=bi:=⟨_,rfl⟩;have t0:=Za d0;rw[d0];clear d0;go_wp2_with fail;go_roundg (n-(j+1))
    case measure=>omega
    case rel=>exact⟨j+1,b,by omega,rfl,by rw[t0.o],by go_num,s,q,H⟩
   |false=>
    rw[hq]at j0
    cases b with
    |none=>
     have s:O (Yv true (Xe d p.am) r (l.drop (j+1)) (J x)=f):=by have e:=HB.o;unfold Yv at e;rw[hq,if_neg (by simp)]at e;exact e
     unfold Vm;clear A;go_wp2_with fail;go_roundg (n-(j+1))
     case measure=>omega
     case rel=>exact⟨j+1,J x,by omega,rfl,rfl,by go_num,s,q,fun y h=>by injection h with h;subst h;exact k0.o⟩
    |some y=>
     have s:O (Yv true (Xe d p.am) r (l.drop (j+1)) (if decide (Xe d p.am x<Xe d p.am y)then J x else J y)=f):=by have e:=HB.o;unfold Yv at e;rw[hq,if_neg (by simp)]at e;exact e
     obtain⟨B,_⟩:=H.o y rfl;obtain⟨t,ht⟩:∃t,d[x]?=J t:=⟨_,gE A⟩;obtain⟨t2,l0⟩:∃t,d[y]?=J t:=⟨_,gE B⟩
     have v0:O (∀C,F0 wr C->R G 211 #[U (J ⟨Q,0,S⟩),V Y (x:Nat)] C fun e w'=>e=M (V Y (Xe d p.am x))/\F0 C w'):=fun C hf=>Hj C Q u k p r o d ra rc x t (hf.whole z.o (by simp)) (b0.o.fr (hf.mono (by simp))) ht F.o.1 F.o.2
     have w0:O (∀C,F0 wr C->R G 211 #[U (J ⟨Q,0,S⟩),V Y (y:Nat)] C fun e w'=>e=M (V Y (Xe d p.am y))/\F0 C w'):=fun C hf=>Hj C Q u k p r o d ra rc y t2 (hf.whole z.o (by simp)) (b0.o.fr (hf.mono (by simp))) l0 F.o.1 F.o.2
     unfold Vm
     have y0:¬(y:Int)<0:=by omega
     clear A B ht l0 HB;generalize Xe d p.am x=fx at*;generalize Xe d p.am y=fy at*;go_wp2_with fail;refine(v0.o _ (Fr.refl _ _)).mono ?_;rintro e w5 ⟨rfl,m0⟩;have n0:=Za m0;clear m0;go_wp2_with fail;refine(w0.o _ n0.o).mono ?_;rintro e w6 ⟨rfl,o0⟩;have p0:=Za ((q.o.trans n0.o).trans o0);clear o0;by_cases q0:fx<fy
     ·have e0:O (Yv true (Xe d p.am) r (l.drop (j+1)) (J x)=f):=by have e:=s.o;rw[if_pos (by simpa using q0)]at e;exact e
      clear s;go_wp2_with fail;go_roundg (n-(j+1))
      case measure=>omega
      case rel=>exact⟨j+1,J x,by omega,rfl,rfl,by go_num,e0,p0,fun y h=>by injection h with h;subst h;exact k0.o⟩
     ·have e0:O (Yv true (Xe d p.am) r (l.drop (j+1)) (J y)=f):=by have e:=s.o;rw[if_neg (by simpa using q0)]at e;exact e
      clear s;go_wp2_with fail;go_roundg (n-(j+1))
      case measure=>omega
      case rel=>exact⟨j+1,J y,by omega,rfl,rfl,by go_num,e0,p0,H⟩
  ·have s0:¬(j:Int)<(n:Int):=by omega
   have hb:b=f:=by
    have e:=HB.o;rw[dL (by have:=g0.o;omega)]at e;exact e
   subst hb;have x0:=bC I.o 0 _ rfl;have x1:=bC I.o 1 _ rfl;have x2:=bC I.o 2 _ rfl;have x3:=bC I.o 3 _ rfl
   cases b with
   |none=>
    have HE:=Za (Q6 wr Q u k p r o K a n c D P nm g m nc z.o i0.o);unfold Vm;go_wp2_with fail;refine HE.o.mono ?_;rintro e w7 ⟨rfl,h1,h2⟩;have H1:=Za h1;have H2:=Za (((HF.o.trans q.o).mono (by simp)).trans h2);clear h1 h2;go_wp2_with fail
    go_end0
    exact⟨rfl,H1.o,H2.o⟩
   |some y=>
    obtain⟨B,_⟩:=H.o y rfl;obtain⟨t,ht⟩:∃t,d[y]?=J t:=⟨_,gE B⟩;have HE:=Za (Mi wr Q u k p r o K a n c D P nm g m nc d ra rc y t z.o i0.o b0.o ht)
    have HO:O (Qx d nm (J y)=(0,nm,t.name)):=by
     show _=_
     simp only[Qx,OM,ht]
    unfold Vm
    have y0:¬(y:Int)<0:=by omega
    clear ht B;go_wp2_with fail;refine HE.o.mono ?_;rintro e w7 ⟨rfl,h1,h2⟩;have H1:=Za h1;have H2:=Za (((HF.o.trans q.o).mono (by simp)).trans h2);clear h1 h2;go_wp2_with fail
    go_end0
    exact⟨rfl,by rw[HO.o];exact H1.o,H2.o⟩
theorem Ut {s:ByteArray}(h:Xv s=true):6<=s.size/\s.size<=19/\∀c,c∈s.data.toList->48<=c.toNat/\c.toNat<=57:=by
 unfold Xv at h;simp only[Bool.and_eq_true,decide_eq_true_eq,List.all_eq_true]at h;exact⟨h.1,h.2.1,h.2.2⟩
theorem Bi {s:ByteArray}(h:Xv s=true)(n:Nat)(e:n<6):∃d:Nat,d<10/\Zv s n=48+(d:Int)/\J0 (Zz s) n=d:=by
 obtain⟨f,_,b⟩:=Ut h
 have g:6<=s.data.toList.length:=by simpa using f
 obtain⟨c,a⟩:∃c,s.data.toList[n]?=J c:=⟨_,gE (by omega)⟩;have i:=b c (mG a);refine⟨c.toNat-48,by omega,?_,Id b g n e c a⟩;unfold Zv;rw[gD,a];simp only[Option.getD_some];omega
theorem Ii (d:Nat)(h:d<10):z0.wrap (48+(d:Int)-48)=(d:Int):=by
 have:d=0\/d=1\/d=2\/d=3\/d=4\/d=5\/d=6\/d=7\/d=8\/d=9:=by omega
 rcases this with rfl|rfl|rfl|rfl|rfl|rfl|rfl|rfl|rfl|rfl<;>decide
def Cc (w:N)(d B o n:Nat)(t:Tr)(a b:Value)(e:Nat->Nat)(c:Nat):Prop:=
 w.cell? ⟨B,o,S⟩=J a/\w.cell? ⟨B,o+1,S⟩=J b/\VY w d t (F #[a,b])/\t.deep n/\t.find e n=c
theorem EZ (w:N)(x y:Nat)(t:Tr)(a b:Value)(s:ByteArray)(c:Nat)(h:Cc w x y 3 0 t a b (J0 (Zz s)) c)(z:Xv s=true):
  R G 65 #[U (J ⟨y,0,S⟩),H s] w fun e w'=>e=M (V Y (c:Nat))/\F0 w w':=by
 have HL:=Za h;have HP:=Za z;have a0:=(Ut z).1;clear h z;go_enter Tryz.func65,Tryz.ntmps65;go_wp2_with fail
 go_loopg [5,6] 7 (fun m A i wr=>∃B o n t a b,n<=6/\m=7-n/\A=U (J ⟨B,o,S⟩)/\i=V Y (n:Nat)/\O (Cc w x B o n t a b (J0 (Zz s)) c)/\O (F0 w wr))
 case atStart=>exact⟨y,3,0,t,a,b,by omega,rfl,rfl,rfl,HL,Fr.refl _ _⟩
 case round=>
  obtain⟨B,o,n,t,a,b,hn,rfl,rfl,rfl,C,u⟩:=hrel;obtain⟨v,c1,D,X,k⟩:=C.o;have l:B<w.heap.size:=bL w _ v;have d0:=(u.o.cell (p:=⟨B,o,S⟩) l (by simp)).trans v;have d1:=(u.o.cell (p:=⟨B,o+1,S⟩) l (by simp)).trans c1
  cases t with
  |leaf q=>
   have e:Value.agg #[a,b]=F #[U S,V Y (q:Nat)]:=D;injection e with e
   obtain⟨rfl,rfl⟩:a=U S/\b=V Y (q:Nat):=by simpa using e
   have hq:q=c:=k;subst hq;clear v c1 D X k e C;go_wp2_with fail;go_ret;exact⟨rfl,u.o⟩
  |node kk=>
   obtain⟨K,cs,e,E,I,L,f⟩:=D;injection e with e
   obtain⟨rfl,rfl⟩:a=U (J ⟨K,0,S⟩)/\b=V Y 0:=by simpa using e
   obtain⟨Q,g⟩:=X;obtain⟨d,j,hb,r⟩:=Bi HP.o n Q;obtain⟨a',b',e1,e2,e3⟩:=f d j
   have T:O (Cc w x K (d*2) (n+1) (kk d) a' b' (J0 (Zz s)) c):=by
    refine⟨bC I _ _ e1,bC I _ _ e2,e3,g d j,?_⟩;rw[<-k,Tr.find,r]
   have W:=fun w=>ZN (P:=G) Tryz.underlying9 s n (n:Int) rfl (by omega) w
   rw[hb]at W
   have b0:(n:Int)<(s.size:Int):=by omega
   have e0:(d:Int)<10:=by omega
   have f0:=Ii d j;clear v c1 k e C E I L f g hb r e1 e2 e3;go_wp2_with fail
   go_quiet (fail)
   go_wp2_with fail;go_roundg (7-(n+1))
   case measure=>omega
   case rel=>exact⟨K,d*2,n+1,kk d,a',b',by omega,rfl,rfl,by go_num,T,u.o.trans ⟨rfl,rfl,rfl,Nat.le_refl _,fun _ _ _=>rfl⟩⟩
theorem Ku (w:N)(D:Nat)(a:Option Addr)(c:Nat)(l:List ByteArray)(s:ByteArray)(i:w.cell? ⟨D,0,S⟩=J (E a l.length c))(h:Yz w a l)(f:l.length<=maxLen):
  R G 37 #[H s,U (J ⟨D,0,S⟩)] w fun e w'=>e=M (I (Lg l s))/\w'=w:=by
 have g:=Za (NB w a c l s h f);clear h f;generalize l.length=n at*;generalize Lg l s=b at*;go_enter Tryz.func37,Tryz.ntmps37;go_wp2_with fail;refine g.o.mono ?_;rintro e j ⟨rfl,d⟩;replace d:=d.symm;subst d;go_wp2_with fail;go_ret;exact⟨rfl,rfl⟩
def Vn (a:List Zd)(l:List ByteArray)(i:Nat):Bool:=match a[i]? with
 |none=>false
 |some t=>Lg l t.name
def OP (f:Nat->Bool)(i:Nat):Array Value:=((List.range 6).map fun j=>Value.bool (if j<i then f j else false)).toArray
theorem Fi (f:Nat->Bool)(i:Nat)(h:i<6):(OP f i).setIfInBounds i (I (f i))=OP f (i+1):=by
 have:i=0\/i=1\/i=2\/i=3\/i=4\/i=5:=by omega
 rcases this with rfl|rfl|rfl|rfl|rfl|rfl<;>rfl
theorem Fj (a:List Zd)(l:List ByteArray)(j:Nat)(b:j<6):(OP (Vn a l) a.length)[j]?=J (I (Vn a l j)):=by
 unfold OP;rw[List.getElem?_toArray,List.getElem?_map,List.getElem?_range b];simp only[Option.map_some];by_cases e:j<a.length
 ·rw[if_pos e]
 ·rw[if_neg e,Vn,List.getElem?_eq_none (by omega)]
theorem Ij (f:Nat->Bool)(i j:Nat)(a:j<6):∃v,(OP f i)[j]?=J v:=by
 unfold OP;rw[List.getElem?_toArray,List.getElem?_map,List.getElem?_range a];exact⟨_,rfl⟩
structure CQ (w:N)(A1 A2:Nat)(f:Nat->Bool)(i:Nat)(wx:N):Prop where
 fr:F0 w wx
 b1:wx.heap[A1]?=J (Z #[I false,I false,I false,I false,I false,I false] 124)
 b2:wx.heap[A2]?=J (Z (OP f i) 124)
theorem CQ.fr' {w b c:N}{d e:Nat}{f:Nat->Bool}{i:Nat}(h:CQ w d e f i b)(a:F0 b c):CQ w d e f i c:=
 ⟨h.fr.trans a,a.whole h.b1 (by simp),a.whole h.b2 (by simp)⟩
theorem CQ.step {w b:N}{c a:Nat}{f:Nat->Bool}{i:Nat}(h:CQ w c a f i b)(j:w.heap.size<=a)(d:c≠a)(g:i<6):CQ w c a f (i+1) (b.setCell ⟨a,i,S⟩ (I (f i)))/\(∃u,b.cell? ⟨a,i,S⟩=J u)/\b.frozen? ⟨a,i,S⟩=false:=by
 have l:Fr (fun k=>k=a) b (b.setCell ⟨a,i,S⟩ (I (f i))):=(Fr.refl (fun k=>k=a) b).setCell (p:=⟨a,i,S⟩) (Or.inl rfl) _;refine⟨⟨h.fr.setCell (p:=⟨a,i,S⟩) (C j) _,l.whole h.b1 d,?_⟩,?_,bF h.b2 i⟩
 ·have e:=heap_setCell_same b a i _ _ (I (f i)) h.b2
  rw[Fi f i g]at e;exact e
 ·obtain⟨v,m⟩:=Ij f i i g
  exact⟨v,bC h.b2 _ _ m⟩
theorem Fk (w:N)(L Q D:Nat)(b:List Zd)(ra:Option Addr)(rc:Nat)(a:Option Addr)(c:Nat)(l:List ByteArray)(K:TN w L Q b ra rc)(h6:b.length<=6)(P:w.cell? ⟨D,0,S⟩=J (E a l.length c))(h:Yz w a l)(hl:l.length<=maxLen):
  R G 63 #[U (J ⟨L,0,S⟩),.func (.func 37) #[] #[U (J ⟨D,0,S⟩)]] w fun e w'=>e=M (F #[I (Vn b l 0),I (Vn b l 1),I (Vn b l 2),I (Vn b l 3),I (Vn b l 4),I (Vn b l 5)])/\F0 w w':=by
 have HR:=Za K;have T:=K.c0;have x:=bL w _ P
 have HD:O (∀W s,F0 w W->R G 37 #[H s,U (J ⟨D,0,S⟩)] W fun e w'=>e=M (I (Lg l s))/\w'=W):=fun W s hf=>Ku W D a c l s ((hf.cell (p:=⟨D,0,S⟩) x (by simp)).trans P) (h.fr hf (by simp)) hl
 obtain⟨n,hn⟩:∃n,b.length=n:=⟨_,rfl⟩;have HN:=Za hn;rw[hn]at T h6;have a0:=Za (bL w _ K.c0)
 have r:O (CQ w w.heap.size (w.heap.size+1) (Vn b l) 0 ((w.alloc (Z #[I false,I false,I false,I false,I false,I false] 124)).alloc (Z #[I false,I false,I false,I false,I false,I false] 124))):=
  ⟨((Fr.refl _ _).alloc _).alloc _,((Fr.refl (fun _=>False) _).alloc _).whole (heap_alloc_new w _) (by simp),by have e:=heap_alloc_new (w.alloc (Z #[I false,I false,I false,I false,I false,I false] 124)) (Z #[I false,I false,I false,I false,I false,I false] 124);rw[show(w.alloc (Z #[I false,I false,I false,I false,I false,I false] 124)).heap.size=w.heap.size+1 from by simp]at e;exact e⟩
 have l0:=(r.o.fr.cell (p:=⟨L,0,S⟩) a0.o (by simp)).trans T;clear K P h hl x hn T;go_enter Tryz.func63,Tryz.ntmps63;go_upto_region 2 with fail;generalize(w.alloc (Z #[I false,I false,I false,I false,I false,I false] 124)).alloc (Z #[I false,I false,I false,I false,I false,I false] 124)=W at*;obtain⟨A,q⟩:∃A,w.heap.size=A:=⟨_,rfl⟩;have HA:=Za q;rw[q]at r;rw[q];clear q;go_wp2_with fail
 go_loopg [6,7,13] n (fun m _ _ kv wx=>∃i,i<=n/\m=n-i/\kv=V Y (i:Nat)/\O (CQ w A (A+1) (Vn b l) i wx))
 case atStart=>exact⟨0,Nat.zero_le _,rfl,rfl,r⟩
 case round=>
  obtain⟨i,hi,rfl,rfl,f⟩:=hrel;by_cases m0:i<n
  ·have g0:(i:Int)<(n:Int):=by omega
   have n0:(i:Int)<6:=by omega
   obtain⟨t,ht⟩:∃t,b[i]?=J t:=⟨_,gE (by have:=HN.o;omega)⟩;obtain⟨g,rfl,_,e0,e1,e2⟩:=(HR.o.fr (f.o.fr.mono (by simp))).rt i t ht
   have i0:O (Vn b l i=Lg l t.name):=by show _=_;unfold Vn;rw[ht]
   have j0:O (F0 wr (wr.alloc (Z #[H t.name,V Y (t.base:Nat),V Y (t.rate:Nat)] 148))):=(Fr.refl _ _).alloc _;have hX:=aN wr (Z #[H t.name,V Y (t.base:Nat),V Y (t.rate:Nat)] 148);have x0:=bC hX 0 _ rfl;clear ht hX;go_upto_region 5 with fail;generalize wr.alloc (Z #[H t.name,V Y (t.base:Nat),V Y (t.rate:Nat)] 148)=W1 at*;generalize wr.heap.size=X at*;have y:=Za (f.o.fr' j0.o);obtain⟨z,⟨u,hu⟩,o0⟩:=y.o.step (by have:=HA.o;omega) (by omega) (by omega);have B:=Za z;rw[i0.o]at B;clear z e0 e1 e2;go_wp2_with fail;refine(HD.o _ _ y.o.fr).mono ?_;rintro e w2 ⟨rfl,hw⟩;replace hw:=hw.symm;subst hw;go_wp2_with fail;go_roundg (n-(i+1))
   case measure=>omega
   case rel=>exact⟨i+1,by omega,rfl,by go_num,B⟩
  ·have g0:¬(i:Int)<(n:Int):=by omega
   have k0:i=n:=by omega
   subst k0
   have d:=fun j hj=>bC f.o.b2 j _ (by have e:=Fj b l j hj;rw[HN.o]at e;exact e)
   have d0:=d 0 (by omega);have d1:=d 1 (by omega);have d2:=d 2 (by omega);have d3:=d 3 (by omega);have d4:=d 4 (by omega);have d5:=d 5 (by omega);have b0:wr.cell? ⟨A,0,S⟩=J (I false):=bC f.o.b1 0 _ rfl;have f0:=bF f.o.b1 0;have b1:wr.cell? ⟨A,1,S⟩=J (I false):=bC f.o.b1 1 _ rfl;have f1:=bF f.o.b1 1;have b2:wr.cell? ⟨A,2,S⟩=J (I false):=bC f.o.b1 2 _ rfl;have f2:=bF f.o.b1 2;have b3:wr.cell? ⟨A,3,S⟩=J (I false):=bC f.o.b1 3 _ rfl;have f3:=bF f.o.b1 3;have b4:wr.cell? ⟨A,4,S⟩=J (I false):=bC f.o.b1 4 _ rfl;have f4:=bF f.o.b1 4;have b5:wr.cell? ⟨A,5,S⟩=J (I false):=bC f.o.b1 5 _ rfl;have f5:=bF f.o.b1 5;clear d;have e6:=heap_setCell_same _ A 5 _ _ (I (Vn b l 5)) (heap_setCell_same _ A 4 _ _ (I (Vn b l 4)) (heap_setCell_same _ A 3 _ _ (I (Vn b l 3)) (heap_setCell_same _ A 2 _ _ (I (Vn b l 2)) (heap_setCell_same _ A 1 _ _ (I (Vn b l 1)) (heap_setCell_same wr A 0 _ _ (I (Vn b l 0)) f.o.b1)))));have k:O _:=e6;clear e6;go_wp2_with fail;have s0:=bC k.o 0 (I (Vn b l 0)) rfl;have s1:=bC k.o 1 (I (Vn b l 1)) rfl;have s2:=bC k.o 2 (I (Vn b l 2)) rfl;have s3:=bC k.o 3 (I (Vn b l 3)) rfl;have s4:=bC k.o 4 (I (Vn b l 4)) rfl;have s5:=bC k.o 5 (I (Vn b l 5)) rfl;have q:w.heap.size<=A:=Nat.le_of_eq HA.o;refine bodyPost_ret (v:=F #[I (Vn b l 0),I (Vn b l 1),I (Vn b l 2),I (Vn b l 3),I (Vn b l 4),I (Vn b l 5)]) (by simp[results,Tryz.results63,go_sem,s0,s1,s2,s3,s4,s5]) rfl ⟨rfl,?_⟩;exact(((((f.o.fr.setCell (p:=⟨A,0,S⟩) (C q) _).setCell (p:=⟨A,1,S⟩) (C q) _).setCell (p:=⟨A,2,S⟩) (C q) _).setCell (p:=⟨A,3,S⟩) (C q) _).setCell (p:=⟨A,4,S⟩) (C q) _).setCell (p:=⟨A,5,S⟩) (C q) _
