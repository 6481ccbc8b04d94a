import Derived.Test.YtccikgogjfbpeaaGreatDoorAf
import Derived.Test.YtccikgogjfbpeaaGreatDoorAd
import Derived.Laws.Tables
import Derived.Lib.RowBridge
open Option renaming none->V,some->U
open Go.Value renaming int->O,slice->z4,bool->z5,string->z6,pointer->y4,agg->x8,slice->v5,oneCell'->k4,int->p7,string->r9
open Go.IntKind renaming i64->G,u8->n5,u8->l6
open Go.Proofs.Tryz renaming prog->z7
open Go.Obj renaming cells->z8
open Go.Ending renaming returned->z9
open Go.RowKit renaming Hid->y5
open Go.AllReadyH renaming nil->y6
open Or renaming inr->y7,inl->j0
open Go renaming World->y8,Calls->x5,Value->x7
open _root_.ByteArray renaming empty->y9
open List renaming mem_flatMap->q8,mem_cons->j4,take_of_length_le->j6,mem_map->j8,mem_append->j9,take_add_one->v4,eq_nil_of_length_eq_zero->v7,getElem?_map->v8,length_cons->k5,length_take->k7,length_map->g8,any_eq_true->g9,getElem?_toArray->p4,length_append->b7,flatMap_cons->b9,getElem_mem->m0,length_eq_zero_iff->m4,filter_eq_nil_iff->m5,length_mergeSort->m7,mem_iff_getElem?->m8,mem_of_mem_take->m9,mem_iff_getElem->n3,getElem?_range->n4,mem_mergeSort->n7,mem_singleton->n8,append_assoc->n9,append_nil->r4,replicate->r7,getD->l0
open Bool renaming and_eq_true->j1,false_eq_true->n6,eq_iff_iff->r5
open Go.World renaming putObj_heap_other->j2,news_of_block->k8,ownsRow->b8,putObj_heap_same->m6
open Nat renaming le_trans->j3,le_refl->j5,zero_add->j7,mul_le_mul->p6,zero_le->s8,le_of_eq->r8,mul_one->h8
open Go.Proofs.Tryz
namespace Go.Proofs.YtccikgogjfbpeaaGreatDoor
set_option linter.defProp false
set_option maxRecDepth 30000
set_option maxHeartbeats 8000000
open Go.RowKit
structure R6 (w:y8)(TT Q:Nat)(rts:List Zf)(ra:Option Addr)(rc:Nat):Prop where
 c0:w.cell? ⟨TT,0,V⟩=U (z4 ra rts.length rc)
 nt:TT≠Q
 rt:∀i t,rts[i]?=U t->∃g,ra=U ⟨g,0,V⟩/\g≠Q/\w.cell? ⟨g,i*3,V⟩=U (z6 t.name)/\w.cell? ⟨g,i*3+1,V⟩=U (O G (t.base:Nat))/\w.cell? ⟨g,i*3+2,V⟩=U (O G (t.rate:Nat))
 sz:∀t,t∈rts->Kr t
def R6.fr {w w' d Q a f k}(h:R6 w d Q a f k)(b:Fr (fun j=>j=Q) w w'):R6 w' d Q a f k:=by
 refine⟨(b.cell (p:=⟨d,0,V⟩) (bL w _ h.c0) h.nt).trans h.c0,h.nt,fun i t m=>?_,h.sz⟩;obtain⟨g,n,c,l,o,q⟩:=h.rt i t m;have e:=bL w _ l;exact⟨g,n,c,(b.cell (p:=⟨g,i*3,V⟩) e c).trans l,(b.cell (p:=⟨g,i*3+1,V⟩) e c).trans o,(b.cell (p:=⟨g,i*3+2,V⟩) e c).trans q⟩
def Jl (w Q f k p y o R a n c q S r g m D i ra E x t)(h:w.heap[Q]?=U (UK f p y k false o))(Y:Nz w f Q q r g m D)(H:R6 w f Q i ra E)(u:i[x]?=U t):
  x5 z7 209 #[y4 (U ⟨Q,0,V⟩),Ki R a n c q S,O G (x:Nat)] w fun e l=>e=z9 (.tuple #[])/\l.heap[Q]?=U (UK f p y k true (0,r,t.name))/\Fr (fun j=>j=Q) w l:=by
 obtain⟨F,Z⟩:=WM w (z8 #[O n5 (R:Nat),z4 a n c,O G (q:Nat),O G (S:Nat)] 208);have hQ:=(iA.1 h).1;have H1:=F.o.whole h;have z:Q≠w.heap.size:=az;have I:=Za (Y.fr (F.o.mono));have HR:=Za (H.fr (F.o.mono));have a0:(q:Int)<(m:Int):=aj Y.lt;have J:(x:Int)<(i.length:Int):=aj (iG.1 u).1;have K:=Za u;have L:=Za ((H.sz t (mG u)).1);obtain⟨v,M,_⟩:=H.rt x t u;subst M;unfold Ki;go_enter func209,ntmps209;go_upto_region 1 with fail;generalize w.alloc _=W at*;obtain⟨X,hX⟩:=ad w.heap.size;rw[hX]at Z z;rw[hX]
 have A:y5 (∀b,Fr (fun j=>j=Q) W b->(∃d o',b.heap[Q]?=U (UK f p y k d o'))->b.cell? ⟨X,2,V⟩=U (O G (q:Nat))/\b.cell? ⟨Q,0,V⟩=U (y4 (U ⟨f,0,V⟩))/\b.cell? ⟨f,1,V⟩=U (z4 (U ⟨g,0,V⟩) m D)/\b.cell? ⟨g,q,V⟩=U (z6 r)/\b.cell? ⟨f,0,V⟩=U (z4 (U ⟨v,0,V⟩) i.length E)/\b.cell? ⟨v,x*3,V⟩=U (z6 t.name)):=by
  intro b s ⟨d,o',hq⟩;have u:=s.whole Z.o (fun e=>z e.symm);obtain⟨b0,B,_,e3,_,_⟩:=(HR.o.fr s).rt x t K.o;injection B with B;injection B with B _ _;subst B;exact⟨Zc u 2,Zc hq 0,(I.o.fr s).c1,(I.o.fr s).ce,(HR.o.fr s).c0,e3⟩
 have HG:y5 (∀b,y5 (F0 W b)->x5 z7 208 #[y4 (U ⟨Q,0,V⟩),O G 0,z6 r,z6 t.name] b fun e l=>e=z9 (.tuple #[])/\y5 (l.heap[Q]?=U (UK f p y k true (0,r,t.name))/\Fr (fun j=>j=Q) W l)/\l.cell? ⟨X,2,V⟩=U (O G (q:Nat))/\l.cell? ⟨Q,0,V⟩=U (y4 (U ⟨f,0,V⟩))/\l.cell? ⟨f,1,V⟩=U (z4 (U ⟨g,0,V⟩) m D)/\l.cell? ⟨g,q,V⟩=U (z6 r)/\l.cell? ⟨f,0,V⟩=U (z4 (U ⟨v,0,V⟩) i.length E)/\l.cell? ⟨v,x*3,V⟩=U (z6 t.name)):=by
  intro b s;refine(PL b Q f k p y o 0 r t.name (s.o.whole H1) I.o.sz L.o).mono ?_;rintro e l ⟨he,h2,h3⟩;have h4:=(s.o.mono (T:=fun j=>j=Q)).trans h3;exact⟨he,⟨h2,h4⟩,A.o _ h4 ⟨_,_,h2⟩⟩
 have hS:=A.o W Zo ⟨_,_,H1⟩;have d0:y5 (F0 W W.drew):=Zo.drew;obtain⟨N,P⟩:=ad i.length;rw[P]at hS HG J
 go_region_held3 (fun b=>b.cell? ⟨X,2,V⟩=U (O G (q:Nat))/\b.cell? ⟨Q,0,V⟩=U (y4 (U ⟨f,0,V⟩))/\b.cell? ⟨f,1,V⟩=U (z4 (U ⟨g,0,V⟩) m D)/\b.cell? ⟨g,q,V⟩=U (z6 r)/\b.cell? ⟨f,0,V⟩=U (z4 (U ⟨v,0,V⟩) N E)/\b.cell? ⟨v,x*3,V⟩=U (z6 t.name)) (first|assumption|go_keep) (first
  |(go_at_call 208;refine(HG.o _ aG).mono ?_;rintro e w7 ⟨rfl,C,e0⟩))
 go_wp2
 go_end0
 exact⟨rfl,C.o.1,(F.o.mono).trans C.o.2⟩
def CD (w Q l k p z o f A B x t)(h:w.heap[Q]?=U (UK l p z k false o))(m:R6 w l Q f A B)(j:f[x]?=U t)(s:0<=p.am)(C:p.am<=1000000000):
  x5 z7 211 #[y4 (U ⟨Q,0,V⟩),O G (x:Nat)] w fun e D=>e=z9 (O G (XZ f p.am x))/\F0 w D:=by
 have n:y5 (XZ f p.am x=(t.base:Int)+(t.rate:Int)*p.am):=by show _=_;unfold XZ;rw[j]
 have i:=m.sz t (mG j);have E:(t.base:Int)<1000000000:=aj i.2.1;have F:(t.rate:Int)<1000000000:=aj i.2.2;have H:(0:Int)<=(t.rate:Int)*p.am:=Int.mul_nonneg az s
 have I:(t.rate:Int)*p.am<=1000000000000000000:=by
  have:=Int.mul_le_mul (a:=(t.rate:Int)) (b:=p.am) (c:=1000000000) (d:=1000000000) az C s az;omega
 have q:(x:Int)<(f.length:Int):=aj (iG.1 j).1;have J:=m.c0;have N:w.cell? ⟨Q,0,V⟩=U (y4 (U ⟨l,0,V⟩)):=Zc h 0;have K:w.cell? ⟨Q,3,V⟩=U (O G p.am):=Zc h 3;have L:=(iA.1 h).1;obtain⟨g,rfl,_,P,R,S⟩:=m.rt x t j;obtain⟨u,r⟩:=ad f.length;rw[r]at J q;have v:=(WM w (z8 #[z6 t.name,O G (t.base:Nat),O G (t.rate:Nat)] 148)).1;have y:=aN w (z8 #[z6 t.name,O G (t.base:Nat),O G (t.rate:Nat)] 148);have T:=Zc y 1;have Y:=Zc y 2;have M:=(v.o.cell (p:=⟨Q,3,V⟩) L).trans K;rw[n.o];go_enter func211,ntmps211;go_upto_region 2 with fail;generalize w.alloc _=W at*;generalize w.heap.size=X at*
 go_region
 go_wp2;go_ret;exact⟨rfl,v.o.drew⟩
def Lc (a:List Zf)(b:ByteArray):Option Nat->Nat×ByteArray×ByteArray
 |none=>(4,b,y9)
 |some x=>(0,b,M3 a x)
def CE {w:y8}{Q b k p a d o}(h:w.heap[Q]?=U (UK b p a k d o))(x)(c:x<6):w.cell? ⟨Q,5+x,V⟩=U (z5 (a x)):=by
 have:x=0\/x=1\/x=2\/x=3\/x=4\/x=5:=z;rcases this with rfl|rfl|rfl|rfl|rfl|rfl
 ·exact Zc h 5
 ·exact Zc h 6
 ·exact Zc h 7
 ·exact Zc h 8
 ·exact Zc h 9
 exact Zc h 10
def Kz (w:y8)(Q u k:Nat)(p:XQ)(f:Nat->Bool)(o:Nat×ByteArray×ByteArray)(B:Nat)(a:Option Addr)(l:List Nat)(c y C:Nat)(q:ByteArray)(g m M:Nat)(b:List Zf)(ra:Option Addr)(rc:Nat)(h:w.heap[Q]?=U (UK u p f k false o))(hn:Nz w u Q y q g m M)(hr:R6 w u Q b ra rc)(hi:Zv w a l)(hl:l.length<=4000)(z:∀x,x∈l->x<b.length)(h6:b.length<=6)(N:0<=p.am/\p.am<=1000000000):
  x5 z7 169 #[y4 (U ⟨Q,0,V⟩),Ki B a l.length c y C] w fun e D=>e=z9 (.tuple #[])/\D.heap[Q]?=U (UK u p f k true (Lc b q (YS false (XZ b p.am) f l V)))/\Fr (fun j=>j=Q) w D:=by
 obtain⟨v,A⟩:=WM w (z8 #[O n5 (B:Nat),z4 a l.length c,O G (y:Nat),O G (C:Nat)] 208);have L:=Za (v.o.whole h);have HI:=Za (hi.fr v.o);have P:=Za (hn.fr (v.o.mono));have HR:=Za (hr.fr (v.o.mono))
 have R:y5 (∀x,x∈l->x<b.length/\x<6):=fun x h=>⟨z x h,aj (z x h)⟩
 have b0:=Za N;obtain⟨n,E⟩:=ad l.length;have F:=Za E;rw[E]at v A L HI P HR hl ⊢;obtain⟨d,s⟩:=ad (YS false (XZ b p.am) f l V);have H:=Za s;rw[s];unfold Ki;go_enter func169,ntmps169;go_upto_region 1 with fail;generalize w.alloc _=W at*;obtain⟨X,hX⟩:=ad w.heap.size;rw[hX]at A;rw[hX];obtain⟨x0,x1,x2,x3⟩:=au A.o;go_wp2
 go_loop [5,9] (fun _ i=>∃j:Nat,j<=n/\i=O G j/\y5 (YS false (XZ b p.am) f (l.drop j) V=d)) (fun _ i=>n-(intOf i).toNat)
 case atStart=>exact⟨0,s8 _,rfl,H⟩
 obtain⟨j,hj,rfl,S⟩:=hrel;by_cases c0:j<n
 ·have T:=af j n;obtain⟨x,z⟩:∃x,l[j]?=U x:=⟨_,gE (aj F.o)⟩;obtain⟨ga,rfl,hc⟩:=HI.o j x z
  have hd:l.drop j=x::l.drop (j+1):=by
   obtain⟨I,J⟩:=iG.1 z;rw[dC I,J]
  rw[hd]at S;obtain⟨Y,Z⟩:=R.o x (mG z);have a0:(x:Int)<6:=az;have K:=CE L.o x Z;have r:y5 (YS false (XZ b p.am) f (l.drop (j+1)) (if f x then V else U x)=d):=S.o
  cases hq:f x with
  |true=>
   rw[hq]at K r;go_wp2_with fail;exact⟨⟨j+1,az,aE,r⟩,by simp[intOf];omega⟩
  |false=>
   rw[hq]at K r;obtain⟨t,ht⟩:∃t,b[x]?=U t:=⟨_,gE Y⟩;have HE:y5 (x5 z7 209 #[y4 (U ⟨Q,0,V⟩),x8 #[O n5 (B:Nat),z4 (U ⟨ga,0,V⟩) n c,O G (y:Nat),O G (C:Nat)],O G (x:Nat)] W fun e D=>e=z9 (.tuple #[])/\D.heap[Q]?=U (UK u p f k true (0,q,t.name))/\Fr (fun j=>j=Q) W D):=Jl W Q u k p f o B _ n c y C q g m M b ra rc x t L.o P.o HR.o ht
   have HO:y5 (Lc b q d=(0,q,t.name)):=by
    show _=_
    have e:=r.o;rw[if_neg aA,M0]at e;rw[<-e];simp only[Lc,M3,ht]
   go_wp2_with fail;refine HE.o.mono ?_;rintro e w7 ⟨rfl,I,J⟩;have H1:=Za I;have H2:=Za ((v.o.mono).trans J);go_wp2_with fail
   (try simp only[Exit.inBlock,Exit.then])
   refine bodyPost_ret (results_none rfl _ _ _) rfl ?_;exact⟨rfl,by rw[HO.o];exact H1.o,H2.o⟩
 have T:=ai j n;have HE:=Za (Nb W Q u k p f o B a n c y C q g m M L.o P.o)
 have HO:y5 (Lc b q d=(4,q,y9)):=by
  show _=_
  have e:=S.o;rw[dL (aj F.o)]at e;rw[<-e];rfl
 go_wp2_with fail;refine HE.o.mono ?_;rintro e w7 ⟨rfl,I,J⟩;have H1:=Za I;have H2:=Za ((v.o.mono).trans J);go_wp2
 go_end0
 exact⟨rfl,by rw[HO.o];exact H1.o,H2.o⟩
def V2:Option Nat->Int
 |none=> -1
 |some x=>(x:Nat)
def Ov (w:y8)(Q C k:Nat)(p:XQ)(r:Nat->Bool)(o:Nat×ByteArray×ByteArray)(so:Nat)(a:Option Addr)(l:List Nat)(c M sk:Nat)(J:ByteArray)(g m nc:Nat)(d:List Zf)(ra:Option Addr)(rc:Nat)(h:w.heap[Q]?=U (UK C p r k false o))(hn:Nz w C Q M J g m nc)(hr:R6 w C Q d ra rc)(hi:Zv w a l)(hl:l.length<=4000)(K:∀x,x∈l->x<d.length)(h6:d.length<=6)(i0:0<=p.am/\p.am<=1000000000):
  x5 z7 170 #[y4 (U ⟨Q,0,V⟩),Ki so a l.length c M sk] w fun e L=>e=z9 (.tuple #[])/\L.heap[Q]?=U (UK C p r k true (Lc d J (YS true (XZ d p.am) r l V)))/\Fr (fun j=>j=Q) w L:=by
 obtain⟨E,HX⟩:=WM w (z8 #[O n5 (so:Nat),z4 a l.length c,O G (M:Nat),O G (sk:Nat)] 208);have HH:=Za (E.o.whole h);have HI:=Za (hi.fr E.o);have HN:=Za (hn.fr (E.o.mono));have HR:=Za (hr.fr (E.o.mono))
 have j0:y5 (∀x,x∈l->x<d.length/\x<6):=fun x h=>⟨K x h,aj (K x h)⟩
 have z:=Za i0;obtain⟨n,N⟩:=ad l.length;have P:=Za N;rw[N]at E HX HH HI HN HR hl ⊢;obtain⟨q,D⟩:=ad (YS true (XZ d p.am) r l V);have R:=Za D;rw[D];unfold Ki;go_enter func170,ntmps170;go_upto_region 1 with fail;generalize w.alloc _=W at*;obtain⟨X,hX⟩:=ad w.heap.size;rw[hX]at HX;rw[hX];have x1:=Zc HX.o 1;go_wp2
 go_loopg [4,6,10] n (fun mm bb _ i wr=>∃j b,j<=n/\mm=n-j/\bb=O G (V2 b)/\i=O G (j:Nat)/\y5 (YS true (XZ d p.am) r (l.drop j) b=q)/\y5 (F0 W wr)/\y5 (∀y,b=U y->y<d.length/\y<6))
 case atStart=>exact⟨0,V,s8 _,rfl,rfl,rfl,R,Zo,fun y h=>by cases h⟩
 obtain⟨j,b,hj,rfl,rfl,rfl,S,f,A⟩:=hrel;have u:=Za (f.o.whole HH.o);have T:=Za (HN.o.fr (f.o.mono));have F:=Za (HR.o.fr (f.o.mono));have B:=Za (f.o.whole HX.o);by_cases t0:j<n
 ·have k0:=af j n;obtain⟨x,K⟩:∃x,l[j]?=U x:=⟨_,gE (aj P.o)⟩;obtain⟨ga,rfl,hc⟩:=(HI.o.fr f.o) j x K
  have hd:l.drop j=x::l.drop (j+1):=by
   obtain⟨Y,Z⟩:=iG.1 K;rw[dC Y,Z]
  rw[hd]at S;obtain⟨a0,b0⟩:=j0.o x (mG K);have s0:(x:Int)<6:=az
  have c0:=CE u.o x b0;have d0:y5 (x<d.length/\x<6):=⟨a0,b0⟩
  cases hq:r x with
  |true=>
   have s:y5 (YS true (XZ d p.am) r (l.drop (j+1)) b=q):=by have e:=S.o;unfold YS at e;rw[hq,if_pos rfl]at e;exact e
   rw[hq]at c0;obtain⟨bi,e0⟩:=ad (V2 b);have l0:=Za e0;rw[e0];go_wp2;go_roundg (n-(j+1))
   case measure=>omega
   exact⟨j+1,b,az,rfl,by rw[l0.o],aE,s,f,A⟩
  |false=>
   rw[hq]at c0
   cases b with
   |none=>
    have s:y5 (YS true (XZ d p.am) r (l.drop (j+1)) (U x)=q):=by have e:=S.o;unfold YS at e;rw[hq,if_neg aA]at e;exact e
    unfold V2;go_wp2;go_roundg (n-(j+1))
    case measure=>omega
    exact⟨j+1,U x,az,rfl,rfl,aE,s,f,fun y h=>by injection h with h;subst h;exact d0.o⟩
   |some y=>
    have s:y5 (YS true (XZ d p.am) r (l.drop (j+1)) (if decide (XZ d p.am x<XZ d p.am y)then U x else U y)=q):=by have e:=S.o;unfold YS at e;rw[hq,if_neg aA]at e;exact e
    obtain⟨H,_⟩:=A.o y rfl;obtain⟨t,ht⟩:∃t,d[x]?=U t:=⟨_,gE a0⟩;obtain⟨t2,m0⟩:∃t,d[y]?=U t:=⟨_,gE H⟩
    have n0:y5 (∀v,F0 wr v->x5 z7 211 #[y4 (U ⟨Q,0,V⟩),O G (x:Nat)] v fun e L=>e=z9 (O G (XZ d p.am x))/\F0 v L):=fun v hf=>CD v Q C k p r o d ra rc x t (hf.whole u.o) (F.o.fr (hf.mono)) ht z.o.1 z.o.2
    have o0:y5 (∀v,F0 wr v->x5 z7 211 #[y4 (U ⟨Q,0,V⟩),O G (y:Nat)] v fun e L=>e=z9 (O G (XZ d p.am y))/\F0 v L):=fun v hf=>CD v Q C k p r o d ra rc y t2 (hf.whole u.o) (F.o.fr (hf.mono)) m0 z.o.1 z.o.2
    unfold V2;have p0:¬(y:Int)<0:=az;generalize XZ d p.am x=fx at*;generalize XZ d p.am y=fy at*;go_wp2_with fail;refine(n0.o _ Zo).mono ?_;rintro e w5 ⟨rfl,q0⟩;have f0:=Za q0;go_wp2_with fail;refine(o0.o _ f0.o).mono ?_;rintro e w6 ⟨rfl,r0⟩;have g0:=Za ((f.o.trans f0.o).trans r0);by_cases h0:fx<fy
    ·have I:y5 (YS true (XZ d p.am) r (l.drop (j+1)) (U x)=q):=by have e:=s.o;rw[if_pos (by simpa using h0)]at e;exact e
     go_wp2;go_roundg (n-(j+1))
     case measure=>omega
     exact⟨j+1,U x,az,rfl,rfl,aE,I,g0,fun y h=>by injection h with h;subst h;exact d0.o⟩
    have I:y5 (YS true (XZ d p.am) r (l.drop (j+1)) (U y)=q):=by have e:=s.o;rw[if_neg (by simpa using h0)]at e;exact e
    go_wp2;go_roundg (n-(j+1))
    case measure=>omega
    exact⟨j+1,U y,az,rfl,rfl,aE,I,g0,A⟩
 have k0:=ai j n
 have hb:b=q:=by
  have e:=S.o;rw[dL (aj P.o)]at e;exact e
 subst hb;obtain⟨x0,x1,x2,x3⟩:=au B.o
 cases b with
 |none=>
  have HE:=Za (Nb wr Q C k p r o so a n c M sk J g m nc u.o T.o);unfold V2;go_wp2_with fail;refine HE.o.mono ?_;rintro e w7 ⟨rfl,Y,Z⟩;have H1:=Za Y;have H2:=Za (((E.o.trans f.o).mono).trans Z);go_wp2
  go_end0
  exact⟨rfl,H1.o,H2.o⟩
 |some y=>
  obtain⟨H,_⟩:=A.o y rfl;obtain⟨t,ht⟩:∃t,d[y]?=U t:=⟨_,gE H⟩;have HE:=Za (Jl wr Q C k p r o so a n c M sk J g m nc d ra rc y t u.o T.o F.o ht)
  have HO:y5 (Lc d J (U y)=(0,J,t.name)):=by
   show _=_
   simp only[Lc,M3,ht]
  unfold V2;have p0:¬(y:Int)<0:=az;go_wp2_with fail;refine HE.o.mono ?_;rintro e w7 ⟨rfl,Y,Z⟩;have H1:=Za Y;have H2:=Za (((E.o.trans f.o).mono).trans Z);go_wp2
  go_end0
  exact⟨rfl,by rw[HO.o];exact H1.o,H2.o⟩
def UW {s}(h:X0 s=true):6<=s.size/\s.size<=19/\∀c,c∈s.data.toList->48<=c.toNat/\c.toNat<=57:=by
 unfold X0 at h;simp only[j1,decide_eq_true_eq,List.all_eq_true]at h;exact⟨h.1,h.2.1,h.2.2⟩
def sy {s}(h:X0 s=true)(n)(e:n<6):∃d:Nat,d<10/\Zy s n=48+(d:Int)/\In (Zw s) n=d:=by
 obtain⟨f,_,b⟩:=UW h
 have g:6<=s.data.toList.length:=by simpa using f
 obtain⟨c,a⟩:∃c,s.data.toList[n]?=U c:=⟨_,gE z⟩;have i:=b c (mG a);refine⟨c.toNat-48,z,?_,EO b g n e c a⟩;unfold Zy;rw[gD,a];simp only[Option.getD_some];omega
def EV (d:Nat)(h:d<10):l6.wrap (48+(d:Int)-48)=(d:Int):=by
 have:d=0\/d=1\/d=2\/d=3\/d=4\/d=5\/d=6\/d=7\/d=8\/d=9:=z
 rcases this with rfl|rfl|rfl|rfl|rfl|rfl|rfl|rfl|rfl|rfl<;>decide
def vR (w:y8)(d B o n:Nat)(t:Tr)(a b:x7)(e:Nat->Nat)(c:Nat):Prop:=
 w.cell? ⟨B,o,V⟩=U a/\w.cell? ⟨B,o+1,V⟩=U b/\Xm w d t (x8 #[a,b])/\t.deep n/\t.find e n=c
def yY (w u v t a b s f)(h:vR w u v 3 0 t a b (In (Zw s)) f)(D:X0 s=true):
  x5 z7 65 #[y4 (U ⟨v,0,V⟩),z6 s] w fun e M=>e=z9 (O G (f:Nat))/\F0 w M:=by
 have N:=Za h;have Q:=Za D;have R:=(UW D).1;go_enter func65,ntmps65;go_wp2
 go_loopg [5,6] 7 (fun m x i wr=>∃B o n t a b,n<=6/\m=7-n/\x=y4 (U ⟨B,o,V⟩)/\i=O G (n:Nat)/\y5 (vR w u B o n t a b (In (Zw s)) f)/\y5 (F0 w wr))
 case atStart=>exact⟨v,3,0,t,a,b,az,rfl,rfl,rfl,N,Zo⟩
 obtain⟨B,o,n,t,a,b,hn,rfl,rfl,rfl,S,r⟩:=hrel;obtain⟨E,T,F,W,k⟩:=S.o;have l:=bL w _ E;have d0:=(r.o.cell (p:=⟨B,o,V⟩) l).trans E;have d1:=(r.o.cell (p:=⟨B,o+1,V⟩) l).trans T
 cases t with
 |leaf q=>
  have e:=F;injection e with e
  obtain⟨rfl,rfl⟩:a=y4 V/\b=O G (q:Nat):=by simpa using e
  have X:=k;subst X;go_wp2;go_ret;exact⟨rfl,r.o⟩
 |node H=>
  obtain⟨K,cs,e,Y,I,Z,g⟩:=F;injection e with e
  obtain⟨rfl,rfl⟩:a=y4 (U ⟨K,0,V⟩)/\b=O G 0:=by simpa using e
  obtain⟨y,j⟩:=W;obtain⟨d,c,hb,z⟩:=sy Q.o n y;obtain⟨J,L,e1,e2,e3⟩:=g d c
  have A:y5 (vR w u K (d*2) (n+1) (H d) J L (In (Zw s)) f):=by
   refine⟨bC I _ _ e1,bC I _ _ e2,e3,j d c,?_⟩;rw[<-k,Tr.find,z]
  have C:=fun w=>Xf (P:=z7) underlying9 s n (n:Int) rfl az w
  rw[hb]at C;have a0:=af n s.size;have b0:(d:Int)<10:=az;have e0:=EV d c;go_wp2
  go_quiet (fail)
  go_wp2;go_roundg (7-(n+1))
  case measure=>omega
  exact⟨K,d*2,n+1,H d,J,L,az,rfl,rfl,aE,A,r.o.trans ⟨rfl,rfl,rfl,j5 _,fun _ _ _=>rfl⟩⟩
def GA (w D a c l s)(j:w.cell? ⟨D,0,V⟩=U (z4 a l.length c))(h:ZX w a l)(f:l.length<=maxLen):
  x5 z7 37 #[z6 s,y4 (U ⟨D,0,V⟩)] w fun e g=>e=z9 (z5 (Ny l s))/\g=w:=by
 have i:=o (Kw w a c l s h f);clear h f;generalize l.length=n at*;generalize Ny l s=b at*;go_enter func37,ntmps37;go_wp2_with fail;refine i.o.mono ?_;rintro e k ⟨rfl,d⟩;replace d:=d.symm;subst d;go_wp2;go_ret;exact⟨rfl,rfl⟩
def UX (rts:List Zf)(l:List ByteArray)(i:Nat):Bool:=match rts[i]? with
 |none=>false
 |some t=>Ny l t.name
def Ld (f:Nat->Bool)(i:Nat):Array x7:=((List.range 6).map fun j=>Value.bool (if j<i then f j else false)).toArray
def Ai (f i)(h:i<6):(Ld f i).setIfInBounds i (z5 (f i))=Ld f (i+1):=by
 have:i=0\/i=1\/i=2\/i=3\/i=4\/i=5:=z
 rcases this with rfl|rfl|rfl|rfl|rfl|rfl<;>rfl
def Aj {d:Nat->Bool}{n}(h:∀i,n<=i->d i=false)(j)(a:j<6):(Ld d n)[j]?=U (z5 (d j)):=by
 unfold Ld;rw[p4,v8,n4 a];simp only[Option.map_some];by_cases e:j<n
 ·rw[if_pos e]
 rw[if_neg e,h j z]
def EW (f i j)(a:j<6):∃v,(Ld f i)[j]?=U v:=by
 unfold Ld;rw[p4,v8,n4 a];exact⟨_,rfl⟩
structure uZ (w:y8)(A1 A2:Nat)(f:Nat->Bool)(i:Nat)(wx:y8):Prop where
 fr:F0 w wx
 b1:wx.heap[A1]?=U (z8 #[z5 false,z5 false,z5 false,z5 false,z5 false,z5 false] 124)
 b2:wx.heap[A2]?=U (z8 (Ld f i) 124)
def uZ.fr' {w b c d e f i}(h:uZ w d e f i b)(a:F0 b c):uZ w d e f i c:=
 ⟨h.fr.trans a,a.whole h.b1,a.whole h.b2⟩
def uZ.step {w b c a f i}(h:uZ w c a f i b)(j:w.heap.size<=a)(d:c≠a)(g:i<6):uZ w c a f (i+1) (b.setCell ⟨a,i,V⟩ (z5 (f i)))/\(∃u,b.cell? ⟨a,i,V⟩=U u)/\b.frozen? ⟨a,i,V⟩=false:=by
 have l:Fr (fun k=>k=a) b (b.setCell ⟨a,i,V⟩ (z5 (f i))):=(Fr.refl (fun k=>k=a) b).setCell (p:=⟨a,i,V⟩) (j0 rfl) _;refine⟨⟨h.fr.setCell (p:=⟨a,i,V⟩) (y7 j) _,l.whole h.b1 d,?_⟩,?_,bF h.b2 i⟩
 ·have e:=heap_setCell_same b a i _ _ (z5 (f i)) h.b2;rw[Ai f i g]at e;exact e
 obtain⟨v,m⟩:=EW f i i g;exact⟨v,bC h.b2 _ _ m⟩
def CF (w D Q)(F:Nat)(first l:Array x7)(K:ByteArray->Bool)(d:Nat->Bool)(b ra rc)(hF:∀h W,(callFunc F h).run z7 W=.ok (.enter F h) W)(B:R6 w D Q b ra rc)(h6:b.length<=6)(T:∀i t,b[i]?=U t->d i=K t.name)(q:∀i,b.length<=i->d i=false)(Y:∀W s,F0 w W->s.size<=3000->x5 z7 F (first++#[z6 s]++l) W fun e E=>e=z9 (z5 (K s))/\F0 W E):
  x5 z7 63 #[y4 (U ⟨D,0,V⟩),.func (.func F) first l] w fun e E=>e=z9 (x8 #[z5 (d 0),z5 (d 1),z5 (d 2),z5 (d 3),z5 (d 4),z5 (d 5)])/\F0 w E:=by
 have Z:=o B;have H:=B.c0;have HD:=o Y;have HE:=o (⟨T,q⟩:_/\_);obtain⟨n,I⟩:=ad b.length;have HN:=o I;rw[I]at H h6;have J:=o (bL w _ B.c0)
 have k:y5 (uZ w w.heap.size (w.heap.size+1) d 0 ((w.alloc (z8 #[z5 false,z5 false,z5 false,z5 false,z5 false,z5 false] 124)).alloc (z8 #[z5 false,z5 false,z5 false,z5 false,z5 false,z5 false] 124))):=
  ⟨(Zo.alloc _).alloc _,((Fr.refl (fun _=>False) _).alloc _).whole (aN w _),by have e:=aN (w.alloc (z8 #[z5 false,z5 false,z5 false,z5 false,z5 false,z5 false] 124)) (z8 #[z5 false,z5 false,z5 false,z5 false,z5 false,z5 false] 124);rw[show(w.alloc (z8 #[z5 false,z5 false,z5 false,z5 false,z5 false,z5 false] 124)).heap.size=w.heap.size+1 from aA]at e;exact e⟩
 have a0:=(k.o.fr.cell (p:=⟨D,0,V⟩) J.o).trans H;clear B I H T q Y;go_enter func63,ntmps63;go_upto_region 2 with fail;generalize(w.alloc _).alloc _=W at*;obtain⟨A,f⟩:=ad w.heap.size;have HA:=o f;rw[f]at k;rw[f];clear f;go_wp2
 go_loopg [6,7,13] n (fun m _ _ kv wx=>∃i,i<=n/\m=n-i/\kv=O G (i:Nat)/\y5 (uZ w A (A+1) d i wx))
 case atStart=>exact⟨0,s8 _,rfl,rfl,k⟩
 obtain⟨i,hi,rfl,rfl,a⟩:=hrel;by_cases g0:i<n
 ·have L:=af i n;have h0:(i:Int)<6:=az;obtain⟨t,C⟩:∃t,b[i]?=U t:=⟨_,gE (aj HN.o)⟩;obtain⟨g,rfl,_,e0,e1,e2⟩:=(Z.o.fr (a.o.fr.mono)).rt i t C;have M:=o (HE.o.1 i t C);have N:y5 (t.name.size<=3000):=((Z.o).sz t (mG C)).1;have P:=(WM wr (z8 #[z6 t.name,O G (t.base:Nat),O G (t.rate:Nat)] 148)).1;have hX:=aN wr (z8 #[z6 t.name,O G (t.base:Nat),O G (t.rate:Nat)] 148);have x0:=Zc hX 0;clear C hX;go_upto_region 5 with fail;generalize wr.alloc _=W1 at*;generalize wr.heap.size=X at*;have r:=o (a.o.fr' P.o);clear e0 e1 e2;go_wp2_with fail;refine(HD.o _ _ r.o.fr N.o).mono ?_;rintro e w2 ⟨rfl,x⟩;have R:=o (r.o.fr' x);obtain⟨y,⟨u,hu⟩,i0⟩:=R.o.step (aj HA.o) az az;have z:=o y;rw[M.o]at z;clear y x;go_wp2;go_roundg (n-(i+1))
  case measure=>omega
  exact⟨i+1,az,rfl,aE,z⟩
 have L:=ai i n;have S:i=n:=az;subst S
 have d:=fun j hj=>bC a.o.b2 j _ (by have e:=Aj HE.o.2 j hj;rw[HN.o]at e;exact e)
 have d0:=d 0 az;have d1:=d 1 az;have d2:=d 2 az;have d3:=d 3 az;have d4:=d 4 az;have d5:=d 5 az;have b0:wr.cell? ⟨A,0,V⟩=U (z5 false):=bC a.o.b1 0 _ rfl;have f0:=bF a.o.b1 0;have b1:wr.cell? ⟨A,1,V⟩=U (z5 false):=bC a.o.b1 1 _ rfl;have f1:=bF a.o.b1 1;have b2:wr.cell? ⟨A,2,V⟩=U (z5 false):=bC a.o.b1 2 _ rfl;have f2:=bF a.o.b1 2;have b3:wr.cell? ⟨A,3,V⟩=U (z5 false):=bC a.o.b1 3 _ rfl;have f3:=bF a.o.b1 3;have b4:wr.cell? ⟨A,4,V⟩=U (z5 false):=bC a.o.b1 4 _ rfl;have f4:=bF a.o.b1 4;have b5:wr.cell? ⟨A,5,V⟩=U (z5 false):=bC a.o.b1 5 _ rfl;have f5:=bF a.o.b1 5;clear d;have e6:=heap_setCell_same _ A 5 _ _ (z5 (d 5)) (heap_setCell_same _ A 4 _ _ (z5 (d 4)) (heap_setCell_same _ A 3 _ _ (z5 (d 3)) (heap_setCell_same _ A 2 _ _ (z5 (d 2)) (heap_setCell_same _ A 1 _ _ (z5 (d 1)) (heap_setCell_same wr A 0 _ _ (z5 (d 0)) a.o.b1)))));have c:=o e6;clear e6;go_wp2_with fail;have s0:=bC c.o 0 (z5 (d 0)) rfl;have s1:=bC c.o 1 (z5 (d 1)) rfl;have s2:=bC c.o 2 (z5 (d 2)) rfl;have s3:=bC c.o 3 (z5 (d 3)) rfl;have s4:=bC c.o 4 (z5 (d 4)) rfl;have s5:=bC c.o 5 (z5 (d 5)) rfl;have f:w.heap.size<=A:=r8 HA.o;refine bodyPost_ret (v:=x8 #[z5 (d 0),z5 (d 1),z5 (d 2),z5 (d 3),z5 (d 4),z5 (d 5)]) (by simp[results,results63,go_sem,s0,s1,s2,s3,s4,s5]) rfl ⟨rfl,?_⟩;exact(((((a.o.fr.setCell (p:=⟨A,0,V⟩) (y7 f) _).setCell (p:=⟨A,1,V⟩) (y7 f) _).setCell (p:=⟨A,2,V⟩) (y7 f) _).setCell (p:=⟨A,3,V⟩) (y7 f) _).setCell (p:=⟨A,4,V⟩) (y7 f) _).setCell (p:=⟨A,5,V⟩) (y7 f) _
def Ak (w d Q D b f g a c l)(n:R6 w d Q b f g)(o:b.length<=6)(j:w.cell? ⟨D,0,V⟩=U (z4 a l.length c))(h:ZX w a l)(q:l.length<=maxLen):
  x5 z7 63 #[y4 (U ⟨d,0,V⟩),.func (.func 37) #[] #[y4 (U ⟨D,0,V⟩)]] w fun e k=>e=z9 (x8 #[z5 (UX b l 0),z5 (UX b l 1),z5 (UX b l 2),z5 (UX b l 3),z5 (UX b l 4),z5 (UX b l 5)])/\F0 w k:=
 CF w d Q 37 #[] #[y4 (U ⟨D,0,V⟩)] (Ny l) (UX b l) b f g (fun _ _=>aC) n o (fun i t r=>by rw[UX,r]) (fun i u=>by rw[UX,List.getElem?_eq_none u]) fun W s m _=>(GA W D a c l s ((m.cell (p:=⟨D,0,V⟩) (bL w _ j)).trans j) (h.fr m) q).mono fun e k ⟨v,x⟩=>⟨v,x▸Zo⟩
def EX (w):x5 z7 112 #[] w fun e f=>e=z9 (x8 #[.func (.func 165) #[] #[],.func (.func 166) #[] #[],.func (.func 167) #[] #[],.func (.func 168) #[] #[],.func (.func 169) #[] #[],.func (.func 170) #[] #[],.func (.func 171) #[] #[]])/\F0 w f:=by
 have g:=fun(w:y8)(a:Addr)(m:Mode)(h:Fn)(x y:Array x7)=>run_store z7 w a (.func h x y) m rfl
 go_enter func112,ntmps112;have b:=aN w (z8 #[.nilFunc,.nilFunc,.nilFunc,.nilFunc,.nilFunc,.nilFunc,.nilFunc] 204);have i:=(WM w (z8 #[.nilFunc,.nilFunc,.nilFunc,.nilFunc,.nilFunc,.nilFunc,.nilFunc] 204)).1;go_upto_region 1 with fail;generalize w.alloc _=W at*;obtain⟨A,c⟩:=ad w.heap.size;have j:=o c;rw[c]at b;rw[c];have u:W.cell? ⟨A,0,V⟩=U .nilFunc:=bC b 0 _ rfl;have z:=bF b 0;have B:W.cell? ⟨A,1,V⟩=U .nilFunc:=bC b 1 _ rfl;have C:=bF b 1;have D:W.cell? ⟨A,2,V⟩=U .nilFunc:=bC b 2 _ rfl;have E:=bF b 2;have F:W.cell? ⟨A,3,V⟩=U .nilFunc:=bC b 3 _ rfl;have G:=bF b 3;have H:W.cell? ⟨A,4,V⟩=U .nilFunc:=bC b 4 _ rfl;have I:=bF b 4;have J:W.cell? ⟨A,5,V⟩=U .nilFunc:=bC b 5 _ rfl;have K:=bF b 5;have L:W.cell? ⟨A,6,V⟩=U .nilFunc:=bC b 6 _ rfl;have M:=bF b 6;have d:=o (heap_setCell_same _ A 6 _ _ (.func (.func 171) #[] #[]) (heap_setCell_same _ A 5 _ _ (.func (.func 170) #[] #[]) (heap_setCell_same _ A 4 _ _ (.func (.func 169) #[] #[]) (heap_setCell_same _ A 3 _ _ (.func (.func 168) #[] #[]) (heap_setCell_same _ A 2 _ _ (.func (.func 167) #[] #[]) (heap_setCell_same _ A 1 _ _ (.func (.func 166) #[] #[]) (heap_setCell_same W A 0 _ _ (.func (.func 165) #[] #[]) b)))))));go_wp2_with fail;have k:=bC d.o 0 (.func (.func 165) #[] #[]) rfl;have l:=bC d.o 1 (.func (.func 166) #[] #[]) rfl;have n:=bC d.o 2 (.func (.func 167) #[] #[]) rfl;have q:=bC d.o 3 (.func (.func 168) #[] #[]) rfl;have r:=bC d.o 4 (.func (.func 169) #[] #[]) rfl;have s:=bC d.o 5 (.func (.func 170) #[] #[]) rfl;have t:=bC d.o 6 (.func (.func 171) #[] #[]) rfl;have b:w.heap.size<=A:=r8 j.o;refine bodyPost_ret (v:=x8 #[.func (.func 165) #[] #[],.func (.func 166) #[] #[],.func (.func 167) #[] #[],.func (.func 168) #[] #[],.func (.func 169) #[] #[],.func (.func 170) #[] #[],.func (.func 171) #[] #[]]) (by simp[results,results112,go_sem,k,l,n,q,r,s,t]) rfl ⟨rfl,?_⟩;exact((((((i.o.setCell (p:=⟨A,0,V⟩) (y7 b) _).setCell (p:=⟨A,1,V⟩) (y7 b) _).setCell (p:=⟨A,2,V⟩) (y7 b) _).setCell (p:=⟨A,3,V⟩) (y7 b) _).setCell (p:=⟨A,4,V⟩) (y7 b) _).setCell (p:=⟨A,5,V⟩) (y7 b) _).setCell (p:=⟨A,6,V⟩) (y7 b) _
def Le (w:y8)(Q:Nat)(c:Option Addr)(l:List Zl):Prop:=
 ∀k s,l[k]?=U s->∃g a d,c=U ⟨g,0,V⟩/\g≠Q/\w.cell? ⟨g,k*4,V⟩=U (O n5 (s.sort:Nat))/\w.cell? ⟨g,k*4+1,V⟩=U (z4 a s.nums.length d)/\w.cell? ⟨g,k*4+2,V⟩=U (O G (s.rule:Nat))/\w.cell? ⟨g,k*4+3,V⟩=U (O G (s.skip:Nat))/\Zv w a s.nums/\∀b,a=U ⟨b,0,V⟩->b≠Q
def Le.fr {w w' Q d l}(h:Le w Q d l)(a:Fr (fun j=>j=Q) w w'):Le w' Q d l:=by
 intro k s i;obtain⟨g,m,n,o,b,e,q,r,t,u,f⟩:=h k s i;have c:=bL w _ e;exact⟨g,m,n,o,b,(a.cell (p:=⟨g,k*4,V⟩) c b).trans e,(a.cell (p:=⟨g,k*4+1,V⟩) c b).trans q,(a.cell (p:=⟨g,k*4+2,V⟩) c b).trans r,(a.cell (p:=⟨g,k*4+3,V⟩) c b).trans t,u.fr a f,f⟩
def sA (s:Zl):Prop:=s.nums.length<=4000/\s.skip<=255/\(s.sort=1->∃x y,s.nums=[x,y])
def Td (a:List Zf)(b:ByteArray)(s:Zl)(c:Nat->Bool)(d:Int):Nat×ByteArray×ByteArray:=
 if s.sort=3 then(3,b,y9)else if s.sort=4 then Lc a b (YS false (XZ a d) c s.nums V)else if s.sort=5 then Lc a b (YS true (XZ a d) c s.nums V)else(2,y9,y9)
def yZ (w:y8)(b Q:Nat)(a:List Zf)(c:ByteArray)(s:Zl):Prop:=
 s.sort=6\/((s.sort=3\/s.sort=4\/s.sort=5)/\s.nums.length<=4000/\(∀x,x∈s.nums->x<a.length)/\∃g m d,Nz w b Q s.rule c g m d)
def yZ.fr {w w' b Q a c s}(h:yZ w b Q a c s)(d:Fr (fun j=>j=Q) w w'):yZ w' b Q a c s:=by
 rcases h with h|⟨e,f,i,g,m,k,l⟩
 ·exact j0 h
 exact y7 ⟨e,f,i,g,m,k,l.fr d⟩
def rM (W:y8)(Q b:Nat)(p:XQ)(c:Nat->Bool)(o:Nat×ByteArray×ByteArray)(l:List Zl)(d:Zl)(a:Nat×ByteArray×ByteArray)(m:Nat)(wr:y8):Prop:=
 Fr (fun j=>j=Q) W wr/\((∃k,wr.heap[Q]?=U (UK b p c k false o)/\XY (Qo p) l m k=U d)\/∃k,wr.heap[Q]?=U (UK b p c k true a))
def Al {c l m k d}(h:XY c l m k=U d):∃b s,m=b+1/\l[k]?=U s/\(s.sort<3/\XY c l b (if c s then k+1 else k+s.skip)=U d\/¬s.sort<3/\s=d):=by
 cases m with
 |zero=>simp[XY]at h
 |succ b=>
  unfold XY at h
  cases e:l[k]? with
  |none=>rw[e]at h;cases h
  |some s=>
   rw[e]at h
   dsimp only at h
   refine⟨b,s,rfl,rfl,?_⟩
   split at h
   ·rename_i a;exact j0 ⟨a,h⟩
   rename_i a;injection h with h;exact y7 ⟨a,h⟩
def GB (w Q t p u o pa pc l R C ra rc nm)(h:w.heap[Q]?=U (UK t p u 0 false o))(v0:Le w Q pa l)(w0:∀s,s∈l->s.sort<3->sA s)(hl:l.length<=1000)(hm:∃n,XY (Qo p) l n 0=U R)(x0:yZ w t Q C nm R)(hr:R6 w t Q C ra rc)(h6:C.length<=6)(y0:0<=p.am/\p.am<=1000000000):
  x5 z7 64 #[y4 (U ⟨Q,0,V⟩),z4 pa l.length pc] w fun e q=>e=z9 (.tuple #[])/\(∃k,q.heap[Q]?=U (UK t p u k true (Td C nm R u p.am)))/\Fr (fun j=>j=Q) w q:=by
 obtain⟨n0,hm⟩:=hm;obtain⟨z,S⟩:=ad (Td C nm R u p.am);have h0:=Za S;have HH:=Za h;have z0:=Za v0;have A0:=Za w0;have HM:=Za hm;have B0:=Za x0;have HR:=Za hr;have H6:=Za h6;have i0:=Za y0;obtain⟨n,hn⟩:=ad l.length;have HN:=Za hn;rw[hn]at hl;rw[hn,S]
 have V0:=fun(w:y8)(a:Addr)(m:Mode)(fn:Fn)(x y:Array x7)=>run_store z7 w a (.func fn x y) m rfl
 go_enter func64,ntmps64;go_wp2_with fail;refine(EX w).mono ?_;rintro e w1 ⟨rfl,k0⟩;have K:=Za (k0.alloc (z8 #[.func (.func 165) #[] #[],.func (.func 166) #[] #[],.func (.func 167) #[] #[],.func (.func 168) #[] #[],.func (.func 169) #[] #[],.func (.func 170) #[] #[],.func (.func 171) #[] #[]] 204));have HA:=(WM w1 (z8 #[.func (.func 165) #[] #[],.func (.func 166) #[] #[],.func (.func 167) #[] #[],.func (.func 168) #[] #[],.func (.func 169) #[] #[],.func (.func 170) #[] #[],.func (.func 171) #[] #[]] 204)).2
 have l0:y5 (w1.heap.size≠Q):=by have:=(iA.1 HH.o).1;have:=k0.size;show _≠_;omega
 go_upto_region 1 with fail;generalize w1.alloc _=W at*;generalize w1.heap.size=A at*;have C0:y5 (rM W Q t p u o l R z n0 W):=⟨Zo,j0 ⟨0,K.o.whole HH.o,HM.o⟩⟩;have m0:=Za (z0.o.fr (K.o.mono));have o0:=Za (B0.o.fr (K.o.mono));have p0:=Za (HR.o.fr (K.o.mono))
 go_loopg [5] n0 (fun m _ wr=>y5 (rM W Q t p u o l R z m wr))
 case atStart=>exact C0
 obtain⟨Z,⟨k,hq,D0⟩|⟨k,hq⟩⟩:=hrel.o
 ·obtain⟨m',s,rfl,hs,a0⟩:=Al D0;obtain⟨g,D,H,rfl,W0,e0,e1,e2,e3,E0,G0⟩:=(m0.o.fr Z) k s hs;have H0:=Zc hq 12;have X0:=Zc hq 11;have Y0:k<n:=ak (iG.1 hs).1 HN.o;have Z0:=af k n;have HK:y5 (k<=100000):=aS;have M:=Za Z;have HQ:=Za hq;have I0:y5 (Q<wr.heap.size):=(iA.1 hq).1;have HS:=Za (mG hs);have J0:=Za a0;have K0:y5 (Zv wr D s.nums/\∀g',D=U ⟨g',0,V⟩->g'≠Q):=⟨E0,G0⟩;obtain⟨N,L0⟩:=WM wr (z8 #[O n5 (s.sort:Nat),z4 D s.nums.length H,O G (s.rule:Nat),O G (s.skip:Nat)] 208);have q0:y5 (wr.heap.size≠Q/\A≠Q):=⟨aj I0.o,l0.o⟩;go_upto_region 3 with fail;generalize wr.alloc _=J at*;generalize wr.heap.size=X at*;have M0:=Za (N.o.whole HQ.o);have b0:=N.o.whole (M.o.whole HA.o l0.o);have b0:=Za b0;have r0:=Za (M.o.trans (N.o.mono));have N0:=Za (K0.o.1.fr N.o)
  have O0:y5 (∃F,(∀b,Fr (fun j=>j=Q) J b->b.cell? ⟨A,s.sort,V⟩=U (.func (.func F) #[] #[]))/\s.sort<7/\(∀Y W,(callFunc F Y).run z7 W=.ok (.enter F Y) W)/\∀b,F0 J b->x5 z7 F #[y4 (U ⟨Q,0,V⟩),x8 #[O n5 (s.sort:Nat),z4 D s.nums.length H,O G (s.rule:Nat),O G (s.skip:Nat)]] b fun e q=>e=z9 (.tuple #[])/\rM W Q t p u o l R z m' q/\Fr (fun j=>j=Q) b q):=by
   have cA:=fun i v hv b (d:Fr (fun j=>j=Q) J b)=>bC (d.whole b0.o (fun e=>q0.o.2 e)) i v hv
   have r:=fun b (d:F0 J b)=>r0.o.trans (d.mono (T:=fun j=>j=Q))
   have hQ:=fun b (d:F0 J b)=>d.whole M0.o
   have hI:=fun b (d:F0 J b)=>N0.o.fr d
   rcases J0.o with⟨P0,I⟩|⟨a1,Q0⟩
   ·obtain⟨L,b1,R0⟩:=A0.o s HS.o P0;have f:s.sort=0\/s.sort=1\/s.sort=2:=az;rcases f with c|c|c
    ·refine⟨165,c▸cA 0 _ rfl,az,fun _ _=>aC,fun b d=>?_⟩;rw[c];refine(yT _ p.mcc b Q t k p u o 0 D s.nums H s.rule s.skip (hQ b d) HK.o az (hI b d) L (j0 ⟨rfl,rfl⟩)).mono ?_;rintro e q ⟨E,B,f⟩;rw[show Qo p s=Us s.nums p.mcc from by unfold Qo;rw[if_pos c]]at I;exact⟨E,⟨(r b d).trans f,j0 ⟨_,B,I⟩⟩,f⟩
    ·refine⟨166,c▸cA 1 _ rfl,az,fun _ _=>aC,fun b d=>?_⟩;obtain⟨x,y,c0⟩:=R0 c;have hi:=hI b d;rw[c0]at hi;rw[c,show s.nums.length=2 from by rw[c0];rfl];refine(Kx b Q t k p u o 1 D x y H s.rule s.skip (hQ b d) HK.o az hi).mono ?_;rintro e q ⟨E,B,f⟩;rw[show Qo p s=(decide ((x:Int)<=p.am)&&decide (p.am<=(y:Int)))from by unfold Qo;rw[if_neg az,if_pos c,c0];rfl]at I;exact⟨E,⟨(r b d).trans f,j0 ⟨_,B,I⟩⟩,f⟩
    refine⟨167,c▸cA 2 _ rfl,az,fun _ _=>aC,fun b d=>?_⟩;rw[c];refine(yT _ p.cur b Q t k p u o 2 D s.nums H s.rule s.skip (hQ b d) HK.o az (hI b d) L (y7 ⟨rfl,rfl⟩)).mono ?_;rintro e q ⟨E,B,f⟩;rw[show Qo p s=Us s.nums p.cur from by unfold Qo;rw[if_neg az,if_neg az]]at I;exact⟨E,⟨(r b d).trans f,j0 ⟨_,B,I⟩⟩,f⟩
   have P:=h0.o;subst Q0;unfold Td at P
   have hE:∀{v:Nat×ByteArray×ByteArray}{b q:y8},F0 J b->q.heap[Q]?=U (UK t p u k true v)->v=z->Fr (fun j=>j=Q) b q->rM W Q t p u o l s z m' q:=fun d B ev f=>⟨(r _ d).trans f,y7 ⟨k,ev▸B⟩⟩
   rcases o0.o with c|⟨c,L,s0,ng,d0,f0,g0⟩
   ·refine⟨171,c▸cA 6 _ rfl,az,fun _ _=>aC,fun b d=>?_⟩;simp only[c]at P ⊢
    exact(M5 b Q t k p u o 6 D s.nums.length H s.rule s.skip (hQ b d)).mono fun e q ⟨E,B,f⟩=>⟨E,hE d B (by simpa using P) f,f⟩
   rcases c with c|c|c
   ·refine⟨168,c▸cA 3 _ rfl,az,fun _ _=>aC,fun b d=>?_⟩;simp only[c]at P ⊢
    exact(It b Q t k p u o 3 D s.nums.length H s.rule s.skip nm ng d0 f0 (hQ b d) (g0.fr (r b d))).mono fun e q ⟨E,B,f⟩=>⟨E,hE d B (by simpa using P) f,f⟩
   ·refine⟨169,c▸cA 4 _ rfl,az,fun _ _=>aC,fun b d=>?_⟩;simp only[c]at P ⊢
    exact(Kz b Q t k p u o 4 D s.nums H s.rule s.skip nm ng d0 f0 C ra rc (hQ b d) (g0.fr (r b d)) (p0.o.fr (r b d)) (hI b d) L s0 H6.o i0.o).mono fun e q ⟨E,B,f⟩=>⟨E,hE d B (by simpa using P) f,f⟩
   refine⟨170,c▸cA 5 _ rfl,az,fun _ _=>aC,fun b d=>?_⟩;simp only[c]at P ⊢
   exact(Ov b Q t k p u o 5 D s.nums H s.rule s.skip nm ng d0 f0 C ra rc (hQ b d) (g0.fr (r b d)) (p0.o.fr (r b d)) (hI b d) L s0 H6.o i0.o).mono fun e q ⟨E,B,f⟩=>⟨E,hE d B (by simpa using P) f,f⟩
  obtain⟨F,hF,c1,d1,hC⟩:=O0.o
  have t0:y5 (∀b,Fr (fun j=>j=Q) J b->b.cell? ⟨X,0,V⟩=U (O n5 (s.sort:Nat))/\b.cell? ⟨X,1,V⟩=U (z4 D s.nums.length H)/\b.cell? ⟨X,2,V⟩=U (O G (s.rule:Nat))/\b.cell? ⟨X,3,V⟩=U (O G (s.skip:Nat))/\b.cell? ⟨A,s.sort,V⟩=U (.func (.func F) #[] #[])):=fun b d=>by
   have hx:=d.whole L0.o (fun e=>q0.o.1 e);exact⟨Zc hx 0,Zc hx 1,Zc hx 2,Zc hx 3,hF b d⟩
  have HC:y5 (∀b,y5 (F0 J b)->x5 z7 F #[y4 (U ⟨Q,0,V⟩),x8 #[O n5 (s.sort:Nat),z4 D s.nums.length H,O G (s.rule:Nat),O G (s.skip:Nat)]] b fun e q=>e=z9 (.tuple #[])/\y5 (rM W Q t p u o l R z m' q)/\q.cell? ⟨X,0,V⟩=U (O n5 (s.sort:Nat))/\q.cell? ⟨X,1,V⟩=U (z4 D s.nums.length H)/\q.cell? ⟨X,2,V⟩=U (O G (s.rule:Nat))/\q.cell? ⟨X,3,V⟩=U (O G (s.skip:Nat))/\q.cell? ⟨A,s.sort,V⟩=U (.func (.func F) #[] #[])):=fun b d=>(hC b d.o).mono fun e q ⟨E,B,f⟩=>⟨E,B,t0.o _ ((d.o.mono).trans f)⟩
  have hS:=t0.o J Zo;have f1:y5 (F0 J J.drew):=Zo.drew;have T0:(s.sort:Int)<7:=az
  go_region_held3 (fun b=>b.cell? ⟨X,0,V⟩=U (O n5 (s.sort:Nat))/\b.cell? ⟨X,1,V⟩=U (z4 D s.nums.length H)/\b.cell? ⟨X,2,V⟩=U (O G (s.rule:Nat))/\b.cell? ⟨X,3,V⟩=U (O G (s.skip:Nat))/\b.cell? ⟨A,s.sort,V⟩=U (.func (.func F) #[] #[])) (first|assumption|go_keep) (first
   |(refine(HC.o _ aG).mono ?_;rintro e w7 ⟨rfl,S0,g1⟩))
  go_wp2;go_roundg m'
  case measure=>omega
  exact S0
 have H0:=Zc hq 12;have HQ:=Za hq;have M:=Za ((K.o.mono).trans Z);go_wp2
 go_end0
 exact⟨rfl,⟨k,HQ.o⟩,M.o⟩
def Fr.setRow {S a w}(h:Fr S a w){g}(b:S g\/a.heap.size<=g)(cs):Fr S a (w.setRow g cs):=
 h.monoNew (T:=fun k=>k=g) ⟨rfl,rfl,rfl,y,fun k _ c=>setRow_other w g k cs c⟩ (fun k d=>by subst d;exact b)
def SB (R:List Ze)(a:Nat):∀L:List Nat,(ZL R a L).length<=L.length*4+1
 |[]=>by simp[ZL]
 |i::L=>by
  have b:=SB R a L;simp only[ZL,k5]
  split
  ·cases c:R[i]? with
   |none=>dsimp only;omega
   |some r=>
    dsimp only
    split
    ·simp
    have d:=TB r;rw[lA,k5,Sz,VO];omega
  omega
def Jm {m:Nat}:∀{l:List Zl}{a:Nat}{s:Zl},s∈ZP m a l->∃b,b∈l/\s.sort=b.sort/\s.nums=b.nums/\s.skip<=m+1
 |[],_,_,h=>by cases h
 |x::r,a,s,h=>by
  rcases j4.1 h with e|h
  ·subst e;exact⟨x,y,rfl,rfl,by show m-a+1<=m+1;omega⟩
  obtain⟨b,c,d⟩:=Jm h;exact⟨b,by simp[c],d⟩
def Am {n r}(h:Ts n r):∀s,s∈Z8 r->s.nums.length<=4000/\(s.sort=1->∃x y,s.nums=[x,y]):=by
 intro s a;unfold Z8 at a;rw[j9,j9]at a;rcases a with e|e|e
 ·split at e
  ·cases e
  simp at e;subst e;exact⟨h.mc.1,fun e=>by simp at e⟩
 ·cases b:r.am with
  |none=>rw[b]at e;cases e
  |some c=>rw[b]at e;simp at e;subst e;exact⟨aA,fun _=>⟨_,_,rfl⟩⟩
 split at e
 ·cases e
 simp at e;subst e;exact⟨h.cu.1,fun e=>by simp at e⟩
def PM {R:List Ze}{n:Nat}(d:∀r,r∈R->Ts n r)(a:Nat):∀(L:List Nat)(s:Zl),s∈ZL R a L->s.sort<3->sA s
 |[],s,h,hs=>by
  simp[ZL]at h;subst h;simp at hs
 |i::L,s,h,hs=>by
  have b:=PM d a L s;simp only[ZL]at h
  split at h
  ·cases c:R[i]? with
   |none=>rw[c]at h;exact b h hs
   |some r=>
    rw[c]at h
    dsimp only at h
    split at h
    ·simp at h;subst h;exact absurd hs (PJ i r)
    rw[j9]at h;rcases h with h|h
    ·obtain⟨g,j,k,f,l⟩:=Jm h;obtain⟨g1,g2⟩:=Am (d r (mG c)) g j;have g3:=TB r;exact⟨by rw[f];exact g1,z,fun e=>by rw[f];exact g2 (by rw[<-k];exact e)⟩
    rcases j4.1 h with e|h
    ·subst e;exact absurd hs (PJ i r)
    exact b h hs
  exact b h hs
def Iw {s}(h:X0 s=true):Zw s<10^6:=by
 obtain⟨f,_,a⟩:=UW h
 have b:(s.data.toList.take 6).length=6:=by rw[k7];simp;omega
 have e:=Ps (s.data.toList.take 6) 0 (fun c d=>(a c (m9 d)).2);rw[b]at e;unfold Zw ZA;omega
def Ow (R):Sx R ⟨0,0⟩ 0 (2^R.length-1):=by
 intro i r a;refine⟨fun h=>by simp at h,fun _ h=>?_⟩;have:=(iG.1 a).1;rw[Nat.testBit_two_pow_sub_one]at h;simp at h;omega
def xd {a R}(b:Yh a R)(p)(e:X0 p.pan=true):
  ∃m,(ZI R 7 ⟨0,0⟩ 0 (2^R.length-1) []).2[(ZI R 7 ⟨0,0⟩ 0 (2^R.length-1) []).1.find (In (Zw p.pan)) 0]?=U m/\
   ∃n,XY (Qo p) (ZL R m (Wk R.length (Zz (Zu R) R.length))) n 0=U (Rb R (YC (Zu R) (YN R p (Zw p.pan)) R.length)):=by
 have f:=Ip (R:=R) (fun r c=>⟨(b.rl r c).bn.1,(b.rl r c).bn.2.1⟩) 7 ⟨0,0⟩ 0 (2^R.length-1) [] y y (Ow R);obtain⟨m,g,h⟩:=f.2 (Zw p.pan) (by unfold YY;have:=Iw e;simp;omega);refine⟨m,g,?_⟩;obtain⟨n,d⟩:=MY R m p (Wk R.length (Zz (Zu R) R.length));rw[EN R m p (Zw p.pan) h]at d;exact⟨n,d⟩
def Lf {a R}(b:Yh a R):(ZI R 7 ⟨0,0⟩ 0 (2^R.length-1) []).1.deep 0:=
 (Ip (R:=R) (fun r c=>⟨(b.rl r c).bn.1,(b.rl r c).bn.2.1⟩) 7 ⟨0,0⟩ 0 (2^R.length-1) [] y y (Ow R)).1
def vS {a R}(p b)(e:YD p=true)(c)(f:c=Zw p.pan):
  UF a R p b=Td a ((match YC (Zu R) (YN R p c) R.length with|none=>V|some i=>(R[i]?).map Ze.name).getD y9) (Rb R (YC (Zu R) (YN R p c) R.length)) b p.am:=by
 subst f;unfold UF;rw[if_pos e]
 cases h:YC (Zu R) (YN R p (Zw p.pan)) R.length with
 |none=>rfl
 |some i=>
  cases d:R[i]? with
  |none=>simp[Rb,d,Td]
  |some r=>
   simp only[Rb,d,Option.map_some,Option.getD_some];unfold yS UQ
   cases j:r.decline with
   |true=>simp[Td]
   |false=>
    cases g:r.cheapest with
    |true=>
     simp only[n6,if_false,if_true,Td];simp only[show¬(5:Nat)=3 from aB,show¬(5:Nat)=4 from aB,if_false]
     cases YS true (XZ a p.am) b r.routes V<;>rfl
    |false=>
     simp only[n6,if_false,Td];simp only[show¬(4:Nat)=3 from aB,if_false,if_true]
     cases YS false (XZ a p.am) b r.routes V<;>rfl
def R6.of {w d Q c f h a}(j:w.cell? ⟨d,0,V⟩=U (z4 h a.length f))(l:w.ownsRow c 148 3 (z4 h a.length f) a.length (Ym a))(o:w.heap.size<=Q)(m:∀t,t∈a->Kr t):R6 w d Q a h f:=by
 have p:d<w.heap.size:=bL w _ j;refine⟨j,z,fun i t k=>?_,m⟩;have q:=(iG.1 k).1;obtain⟨g,n,e,_,r,b⟩:=U5 l z;injection e with e _ _;exact⟨g,e,z,b i t k⟩
def Le.of {q b w Q r f l}(h:Z4 q w b (z4 f l.length r) l)(B:w.heap.size<=Q):Le w Q f l:=by
 intro k s i;obtain⟨C,j,t⟩:=h;have D:=(iG.1 i).1;obtain⟨g,u,e,_,E⟩:=j.form az;injection e with e _ _;subst e;obtain⟨c,⟨F,rfl,d⟩,x⟩:=t.get i;obtain⟨m,n,y⟩:=oL d;subst y
 have a:∀o v,[p7 n5 s.sort,z4 m s.nums.length n,O G s.rule,O G s.skip][o]?=U v->w.cell? ⟨g,k*4+o,V⟩=U v:=fun o v z=>by
  have p:=j.cells (g:=g) rfl _ _ (x o v z);rw[Yf,j7]at p;exact p
 refine⟨g,m,n,rfl,az,a 0 _ rfl,a 1 _ rfl,a 2 _ rfl,a 3 _ rfl,Zv.of d,fun A e=>?_⟩;subst e;have:=(d.lt A rfl).2;omega
def X4 (p:XQ):x7:=x8 #[z6 p.pan,O G p.mcc,O G p.am,O G p.cur]
def R7 (p:XQ):Obj:=z8 #[z6 p.pan,O G p.mcc,O G p.am,O G p.cur] 35
def Rc (o:Nat×ByteArray×ByteArray):x7:=x8 #[O G (o.1:Nat),z6 o.2.1,z6 o.2.2]
def V3 (n m:Int):Bool:=decide (0<=n)&&decide (n<=m)
def XH (p):YD p=(X0 p.pan&&(V3 p.mcc 9999&&(V3 p.am 1000000000&&V3 p.cur 999))):=by
 unfold YD V3;simp only[Bool.and_assoc]
def KA (w p)(A:p.pan.size<=maxLen):
  x5 z7 62 #[X4 p] w fun e a=>e=z9 (z5 (YD p))/\F0 w a:=by
 have q:y5 (∀W,x5 z7 110 #[z6 p.pan] W fun e a=>e=z9 (z5 (X0 p.pan))/\F0 W a):=fun W=>Ag p.pan W A
 have h:y5 (∀W n m,x5 z7 111 #[O G n,O G m] W fun e a=>e=z9 (z5 (V3 n m))/\a=W):=fun W n m=>Af W n m
 obtain⟨r,i⟩:=WM w (R7 p);rw[XH];obtain⟨B,s⟩:=ad (X0 p.pan);obtain⟨t,u⟩:=ad (V3 p.mcc 9999);obtain⟨v,x⟩:=ad (V3 p.am 1000000000);obtain⟨C,y⟩:=ad (V3 p.cur 999)
 have j:y5 (∀W,x5 z7 111 #[O G p.mcc,O G 9999] W fun e a=>e=z9 (z5 t)/\a=W):=fun W=>by rw[<-u];exact h.o W _ _
 have k:y5 (∀W,x5 z7 111 #[O G p.am,O G 1000000000] W fun e a=>e=z9 (z5 v)/\a=W):=fun W=>by rw[<-x];exact h.o W _ _
 have l:y5 (∀W,x5 z7 111 #[O G p.cur,O G 999] W fun e a=>e=z9 (z5 C)/\a=W):=fun W=>by rw[<-y];exact h.o W _ _
 rw[s]at q;rw[s,u,x,y];unfold R7 at r i;unfold X4;go_enter func62,ntmps62;go_upto_region 1 with fail;generalize w.alloc _=W at*;generalize w.heap.size=X at*;have D:=Zc i.o 0;go_wp2_with fail;refine(q.o _).mono ?_;rintro e E ⟨rfl,g⟩;have d:=o (r.o.trans g);have f:=g.whole i.o;have F:=Zc f 1;have H:=Zc f 2;have I:=Zc f 3
 cases B with
 |false=>
  go_wp2;go_ret;exact⟨rfl,d.o⟩
 |true=>
  go_wp2_with fail;refine(j.o _).mono ?_;rintro e z ⟨rfl,c⟩;replace c:=c.symm;subst c
  cases t with
  |false=>
   go_wp2;go_ret;exact⟨rfl,d.o⟩
  |true=>
   go_wp2_with fail;refine(k.o _).mono ?_;rintro e z ⟨rfl,c⟩;replace c:=c.symm;subst c
   cases v with
   |false=>
    go_wp2;go_ret;exact⟨rfl,d.o⟩
   |true=>
    go_wp2_with fail;refine(l.o _).mono ?_;rintro e z ⟨rfl,c⟩;replace c:=c.symm;subst c;go_wp2;go_ret;exact⟨rfl,d.o⟩
def Lg {w:y8}{b t u0 u1 u2 v0 v1 v2}(h:w.heap[b]?=U (z8 #[u0,u1,u2] t)):
    (((w.setCell ⟨b,0,V⟩ v0).setCell ⟨b,1,V⟩ v1).setCell ⟨b,2,V⟩ v2).heap[b]?=U (z8 #[v0,v1,v2] t):=by
  have e:=heap_setCell_same _ b 2 _ _ v2 (heap_setCell_same _ b 1 _ _ v1 (heap_setCell_same w b 0 _ _ v0 h))
  simpa using e
structure NB (zb:Nat)(w:y8)(TT:Nat)(rts:List Zf)(ra:Option Addr)(rc:Nat)(nms:List ByteArray)(prs:List (List Zl))(tr:Tr):Prop where
 bx:∃vn vp a b,w.heap[TT]?=U (z8 #[z4 ra rts.length rc,vn,vp,a,b] 135)/\w.ownsRow zb 9 1 vn nms.length (nms.map r9)/\(∃xs,w.ownsRow zb 129 1 vp prs.length xs/\∀(j:Nat)(l:List Zl),prs[j]?=U l->∃vj,xs[j]?=U vj/\Z4 zb w zb vj l)/\Xm w zb tr (x8 #[a,b])
 ro:w.ownsRow 0 148 3 (z4 ra rts.length rc) rts.length (Ym rts)
def NB.fr {g w w' i d k l e f n}(h:NB g w i d k l e f n)(c:F0 w w'):NB g w' i d k l e f n:=by
 obtain⟨o,p,a,b,q,r,⟨s,t,u⟩,v⟩:=h.bx;refine⟨⟨o,p,a,b,c.whole q,oF r c,⟨s,oF t c,fun j m x=>?_⟩,v.keep' c aA⟩,oF h.ro c⟩;obtain⟨y,z,A⟩:=u j m x;exact⟨y,z,PI A c⟩
def Nz.ofN {w c Q b d f}{a:List ByteArray}{i r}(h:w.cell? ⟨c,1,V⟩=U (z4 f a.length d))(j:w.ownsRow b 9 1 (z4 f a.length d) a.length (a.map r9))(p:w.heap.size<=Q)(k:a[i]?=U r)(m:r.size<=3000):∃g,Nz w c Q i r g a.length d:=by
 have q:c<w.heap.size:=bL w _ h;have n:=(iG.1 k).1;obtain⟨g,o,e,_,s⟩:=j.form z;injection e with e _ _;subst e;have l:=j.cells (g:=g) rfl i (z6 r) (by rw[v8,k];rfl);rw[Yf,j7]at l;exact⟨g,h,n,l,m,z,z⟩
structure An (rts:List Zf)(nms:List ByteArray)(prs:List (List Zl))(tr:Tr):Prop where
 rt:∀t,t∈rts->Kr t
 r6:rts.length<=6
 nm:∀s,s∈nms->s.size<=3000
 gd:∀l,l∈prs->l.length<=1000/\∀s,s∈l->s.sort<3->sA s
 dp:tr.deep 0
def Ox (a:List Zf)(b:List ByteArray)(c:List (List Zl))(d:Tr)(p:XQ)(s:Zl):Prop:=
 ∃l,c[d.find (In (Zw p.pan)) 0]?=U l/\(∃n,XY (Qo p) l n 0=U s)/\(s.sort=6\/((s.sort=3\/s.sort=4\/s.sort=5)/\s.nums.length<=4000/\(∀x,x∈s.nums->x<a.length)/\s.rule<b.length))
def R8 (a:List Zf)(b:List ByteArray)(p:XQ)(c:Nat->Bool)(s:Zl):Nat×ByteArray×ByteArray:=
 if YD p then Td a (b.getD s.rule y9) s c p.am else(1,y9,y9)
structure Ao (w:y8)(zb TT:Nat)(rts:List Zf)(ra:Option Addr)(rc:Nat)(nms:List ByteArray)(prs:List (List Zl))(tr:Tr):Prop where
 tg:NB zb w TT rts ra rc nms prs tr
 bk:An rts nms prs tr
def Ao.fr {w w' d e a f g b c i}(h:Ao w d e a f g b c i)(j:F0 w w'):Ao w' d e a f g b c i:=⟨h.tg.fr j,h.bk⟩
def pE (w:y8)(b:Nat)(c:x7)(a:Nat->Bool):Prop:=∀W,F0 w W->x5 z7 63 #[y4 (U ⟨b,0,V⟩),c] W fun e d=>e=z9 (x8 #[z5 (a 0),z5 (a 1),z5 (a 2),z5 (a 3),z5 (a 4),z5 (a 5)])/\F0 W d
def Jn (w zb c n ra rc l a0 tr fv a p A)(h:Ao w zb c n ra rc l a0 tr)(M0:pE w c fv a)(he:YD p=true->Ox n l a0 tr p A)(hs:p.pan.size<=maxLen):
  x5 z7 36 #[y4 (U ⟨c,0,V⟩),X4 p,fv] w fun e s=>e=z9 (Rc (R8 n l p (a) A))/\F0 w s:=by
 have HH:=o h;have N0:=o he;have O0:=o M0
 have P0:y5 (∀W,x5 z7 62 #[x8 #[z6 p.pan,O G p.mcc,O G p.am,O G p.cur]] W fun e s=>e=z9 (z5 (YD p))/\F0 W s):=fun W=>KA W p hs
 obtain⟨h0,t,b0⟩:=TL w (R7 p) (z8 #[O G 0,z6 ⟨#[]⟩,z6 ⟨#[]⟩] 38);unfold X4;unfold R7 at h0 t b0;go_enter func36,ntmps36;go_upto_region 1 with fail;generalize(w.alloc _).alloc _=W0 at*;obtain⟨P,hP⟩:=ad w.heap.size;have Q0:=o hP;rw[hP]at t b0;rw[hP];obtain⟨x0,x1,x2,x3⟩:=au t.o;go_wp2_with fail;refine(P0.o _).mono ?_;rintro e d ⟨rfl,c0⟩;have D:=o (h0.o.trans c0);have i0:=o (c0.whole t.o);have q:=o (c0.whole b0.o);have u:=o (HH.o.fr D.o);have B:w.heap.size<=P+1:=aj Q0.o
 cases k0:YD p with
 |false=>
  have HD:y5 (R8 n l p (a) A=(1,y9,y9)):=by show _=_;unfold R8;rw[if_neg (by rw[k0];simp)]
  obtain⟨o0,o1,o2⟩:=aq q.o;have R0:=bF q.o;go_wp2_with fail;have J:=Lg (v0:=O G 1) (v1:=z6 ⟨#[]⟩) (v2:=z6 ⟨#[]⟩) q.o;obtain⟨s0,s1,s2⟩:=aq J;refine bodyPost_ret (v:=x8 #[O G 1,z6 ⟨#[]⟩,z6 ⟨#[]⟩]) (by simp[results,results36,go_sem,s0,s1,s2]) rfl ⟨by rw[HD.o];rfl,?_⟩;exact((D.o.setCell (p:=⟨P+1,0,V⟩) (y7 B) _).setCell (p:=⟨P+1,1,V⟩) (y7 B) _).setCell (p:=⟨P+1,2,V⟩) (y7 B) _
 |true=>
  have K:=o k0;go_upto_region 3 with fail
  have n0:y5 (∀W,F0 d W->x5 z7 63 #[y4 (U ⟨c,0,V⟩),fv] W fun e s=>e=z9 (x8 #[z5 (a 0),z5 (a 1),z5 (a 2),z5 (a 3),z5 (a 4),z5 (a 5)])/\F0 W s):=by
   exact fun W hW=>O0.o W (D.o.trans hW)
  have x:y5 (∀W,F0 d W->W.cell? ⟨P,0,V⟩=U (z6 p.pan)/\W.cell? ⟨P,1,V⟩=U (O G p.mcc)/\W.cell? ⟨P,2,V⟩=U (O G p.am)/\W.cell? ⟨P,3,V⟩=U (O G p.cur)):=fun W hW=>by
   have e:=hW.whole i0.o;exact⟨Zc e 0,Zc e 1,Zc e 2,Zc e 3⟩
  go_cut [7] (fun v wx=>∃Q,v=y4 (U ⟨Q,0,V⟩)/\y5 (F0 d wx/\d.heap.size<=Q/\wx.heap[Q]?=U (UK c p (a) 0 false (0,y9,y9))))
  case first=>
   refine wp_region_held_drew (S:=fun W=>W.cell? ⟨P,0,V⟩=U (z6 p.pan)/\W.cell? ⟨P,1,V⟩=U (O G p.mcc)/\W.cell? ⟨P,2,V⟩=U (O G p.am)/\W.cell? ⟨P,3,V⟩=U (O G p.cur)) aC (x.o _ Zo.drew) (fun hH=>?_)
   iterate 4 (refine Yy 0 hH ?_;try go_frame)
   refine XA [4,6] ?_;refine Zb rfl (fun K2 E=>?_) ?_
   ·try rw[if_pos aD]
    go_simp;refine(n0.o _ (Zo.drew)).mono ?_;rintro e L ⟨rfl,M⟩;have f:y5 (F0 d L):=(Zo.drew).trans M;refine E.out _ _ (x.o _ f.o) (fun hH=>?_)
    try go_frame
    refine ZJ 5 hH ?_
    try go_frame
    refine WI 6 (fun K2 E=>?_);go_simp;refine E.out _ _ (x.o _ (f.o.alloc _)) (fun hH=>?_)
    try go_frame
    refine XA [7] ?_;refine Zb rfl (fun K2 E=>?_) y6
    try rw[if_pos aD]
    refine wp_store_row 127 _ _ rfl L.heap.size #[y4 (U ⟨c,0,V⟩),z6 p.pan,O G p.mcc,O G p.am,O G p.cur,z5 (a 0),z5 (a 1),z5 (a 2),z5 (a 3),z5 (a 4),z5 (a 5),O G 0,z5 false,O G 0,z6 ⟨#[]⟩,z6 ⟨#[]⟩] rfl rfl 127 _ (heap_alloc_new L _) aC rfl (by simp[k4]) ?_;refine E.out _ _ (x.o _ (Fr.setRow (f.o.alloc _) (y7 f.o.size) _)) (fun _=>?_)
    try go_frame
    refine wpAnyH_done aC ?_ _;go_wp2;go_meet;refine⟨L.heap.size,rfl,Fr.setRow (f.o.alloc _) (y7 f.o.size) _,f.o.size,?_⟩;have e:=setRow_heap (L.alloc (z8 #[y4 V,z6 ⟨#[]⟩,O G 0,O G 0,O G 0,z5 false,z5 false,z5 false,z5 false,z5 false,z5 false,O G 0,z5 false,O G 0,z6 ⟨#[]⟩,z6 ⟨#[]⟩] 127)) L.heap.size _ #[y4 (U ⟨c,0,V⟩),z6 p.pan,O G p.mcc,O G p.am,O G p.cur,z5 (a 0),z5 (a 1),z5 (a 2),z5 (a 3),z5 (a 4),z5 (a 5),O G 0,z5 false,O G 0,z6 ⟨#[]⟩,z6 ⟨#[]⟩] _ _ (aN L _);exact e
   refine Zb rfl (fun K2 E=>?_) y6
   try rw[if_pos aD]
   go_simp;refine E.out _ _ (x.o _ ((Zo.drew).alloc _)) (fun hH=>?_)
   try go_frame
   have p0:y5 (F0 d (d.drew.alloc (z8 #[y4 V,z6 ⟨#[]⟩,O G 0,O G 0,O G 0,z5 false,z5 false,z5 false,z5 false,z5 false,z5 false,O G 0,z5 false,O G 0,z6 ⟨#[]⟩,z6 ⟨#[]⟩] 127))):=(Zo.drew).alloc _;have V0:y5 ((d.drew.alloc (z8 #[y4 V,z6 ⟨#[]⟩,O G 0,O G 0,O G 0,z5 false,z5 false,z5 false,z5 false,z5 false,z5 false,O G 0,z5 false,O G 0,z6 ⟨#[]⟩,z6 ⟨#[]⟩] 127)).heap[d.heap.size]?=U (z8 #[y4 V,z6 ⟨#[]⟩,O G 0,O G 0,O G 0,z5 false,z5 false,z5 false,z5 false,z5 false,z5 false,O G 0,z5 false,O G 0,z6 ⟨#[]⟩,z6 ⟨#[]⟩] 127)):=aN d.drew _;refine WI 4 (fun K2 E=>?_);go_simp;refine(n0.o _ p0.o).mono ?_;rintro e L ⟨rfl,M⟩;have f:=o (p0.o.trans M);have q0:=o (M.whole V0.o);refine E.out _ _ (x.o _ f.o) (fun hH=>?_)
   try go_frame
   refine ZJ 5 hH ?_
   try go_frame
   refine XA [7] ?_;refine Zb rfl (fun K2 E=>?_) y6
   try rw[if_pos aD]
   refine wp_store_row 127 _ _ rfl d.heap.size #[y4 (U ⟨c,0,V⟩),z6 p.pan,O G p.mcc,O G p.am,O G p.cur,z5 (a 0),z5 (a 1),z5 (a 2),z5 (a 3),z5 (a 4),z5 (a 5),O G 0,z5 false,O G 0,z6 ⟨#[]⟩,z6 ⟨#[]⟩] rfl rfl 127 _ q0.o aC rfl (by simp[k4]) ?_;refine E.out _ _ (x.o _ (Fr.setRow f.o (y7 (j5 _)) _)) (fun _=>?_)
   try go_frame
   refine wpAnyH_done aC ?_ _;go_wp2;go_meet;exact⟨d.heap.size,rfl,Fr.setRow f.o (y7 (j5 _)) _,j5 _,setRow_heap L d.heap.size _ _ _ _ q0.o⟩
  obtain⟨Q,rfl,HQ⟩:=hcut
  have r0:X0 p.pan=true:=by have e:=K.o;rw[XH,j1]at e;exact e.1
  have Y0:0<=p.am/\p.am<=1000000000:=by
   have e:=K.o;rw[XH]at e;simp only[j1,V3,decide_eq_true_eq]at e;exact e.2.2.1
  obtain⟨lp,N,Z0,a1⟩:=N0.o K.o;obtain⟨b,R⟩:=ad (tr.find (In (Zw p.pan)) 0);rw[R]at N;obtain⟨vn,vp,aa,bb,F,t0,⟨xs,w0,c1⟩,d1⟩:=u.o.tg.bx;obtain⟨na,nc,e1⟩:=oL t0;subst e1;obtain⟨vj,g1,y0⟩:=c1 b lp N;have r1:=(iG.1 N).1;obtain⟨C,pc,e2,_,z0⟩:=w0.form az;subst e2;have A0:=w0.cells (g:=C) rfl b vj g1;rw[Yf,j7]at A0;have B0:=y0;obtain⟨ys,h1,_⟩:=B0;obtain⟨pa,y,J⟩:=oL h1;subst J;obtain⟨X,C0⟩:=ad a0.length;obtain⟨Y,d0⟩:=ad lp.length;have I:=HQ.o;have D0:=o (Le.of y0 I.2.1);have i1:=o (R6.of (Zc F 0) u.o.tg.ro I.2.1 u.o.bk.rt);have m1:y5 (vR d zb c 3 0 tr aa bb (In (Zw p.pan)) b):=⟨Zc F 3,Zc F 4,d1,u.o.bk.dp,R⟩
  have n1:y5 (yZ d c Q n (l.getD A.rule y9) A):=by
   rcases a1 with h6|⟨h3,h4,h5,E0⟩
   ·exact j0 h6
   obtain⟨g,hg⟩:=Nz.ofN (Q:=Q) (i:=A.rule) (Zc F 1) t0 I.2.1 (gE E0) (u.o.bk.nm _ (m0 _));rw[show l.getD A.rule y9=l[A.rule]from by simp[l0,E0]];exact y7 ⟨h3,h4,h5,g,_,_,hg⟩
  have G0:y5 (R8 n l p (a) A=Td n (l.getD A.rule y9) A (a) p.am):=by show _=_;unfold R8;rw[if_pos K.o]
  obtain⟨r,H0⟩:=ad (R8 n l p (a) A);have I0:=o H0
  have e0:y5 (∀m,Fr (fun j=>j=Q) wc m->m.cell? ⟨c,2,V⟩=U (z4 (U ⟨C,0,V⟩) X pc)/\m.cell? ⟨P,0,V⟩=U (z6 p.pan)/\m.cell? ⟨C,b,V⟩=U (z4 pa Y y)):=by
   intro m Z;have H:=(I.1.mono).trans Z
   have b1:d.cell? ⟨c,2,V⟩=U (z4 (U ⟨C,0,V⟩) X pc):=by rw[<-C0];exact Zc F 2
   have b2:=Zc i0.o 0
   have b3:d.cell? ⟨C,b,V⟩=U (z4 pa Y y):=by rw[<-d0];exact A0
   have k1:c<d.heap.size:=bL d _ b1;have k2:P<d.heap.size:=bL d _ b2;have t1:=I.2.1;exact⟨(H.cell (p:=⟨c,2,V⟩) k1 (by show c≠Q;omega)).trans b1,(H.cell (p:=⟨P,0,V⟩) k2 (by show P≠Q;omega)).trans b2,(H.cell (p:=⟨C,b,V⟩) z0 (by show C≠Q;omega)).trans b3⟩
  have HL:y5 (∀m,y5 (F0 wc m)->x5 z7 65 #[y4 (U ⟨c,0,V⟩),z6 p.pan] m fun e s=>e=z9 (O G (b:Nat))/\y5 (F0 wc s)/\s.cell? ⟨c,2,V⟩=U (z4 (U ⟨C,0,V⟩) X pc)/\s.cell? ⟨P,0,V⟩=U (z6 p.pan)/\s.cell? ⟨C,b,V⟩=U (z4 pa Y y)):=by
   intro m Z;have H:=I.1.trans Z.o;obtain⟨l1,l2,l3,l4,l5⟩:=m1.o;refine(yY m zb c _ aa bb p.pan b ⟨(H.cell (p:=⟨c,3,V⟩) (bL d _ l1)).trans l1,(H.cell (p:=⟨c,3+1,V⟩) (bL d _ l2)).trans l2,l3.keep' H aA,l4,l5⟩ r0).mono ?_;rintro e s ⟨he,h3⟩;have h4:=Z.o.trans h3;exact⟨he,h4,e0.o _ (h4.mono)⟩
  have HT:y5 (∀m,y5 (F0 wc m)->x5 z7 64 #[y4 (U ⟨Q,0,V⟩),z4 pa Y y] m fun e s=>e=z9 (.tuple #[])/\y5 ((∃k,s.heap[Q]?=U (UK c p (a) k true r))/\Fr (fun j=>j=Q) wc s)/\s.cell? ⟨c,2,V⟩=U (z4 (U ⟨C,0,V⟩) X pc)/\s.cell? ⟨P,0,V⟩=U (z6 p.pan)/\s.cell? ⟨C,b,V⟩=U (z4 pa Y y)):=by
   intro m Z;have H:Fr (fun j=>j=Q) d m:=(I.1.trans Z.o).mono;rw[<-d0];have J0:=u.o.bk.gd lp (mG N);refine(GB m Q c p (a) (0,y9,y9) pa y _ A n ra rc _ (Z.o.whole I.2.2) (D0.o.fr H) J0.2 J0.1 Z0 (n1.o.fr H) (i1.o.fr H) u.o.bk.r6 Y0).mono ?_;rintro e s ⟨he,h2,h3⟩;have h4:=(Z.o.mono (T:=fun j=>j=Q)).trans h3;rw[<-G0.o,I0.o]at h2;have hS:=e0.o _ h4;rw[<-d0]at hS;exact⟨he,⟨h2,h4⟩,hS⟩
  have hS:=e0.o wc Zo;have y1:y5 (F0 wc wc.drew):=Zo.drew;have z1:=af b X;have K0:=o I.2.1;have L0:=o I.1;go_upto_region 4 with fail
  go_region_held3 (fun m=>m.cell? ⟨c,2,V⟩=U (z4 (U ⟨C,0,V⟩) X pc)/\m.cell? ⟨P,0,V⟩=U (z6 p.pan)/\m.cell? ⟨C,b,V⟩=U (z4 pa Y y)) (first|assumption|go_keep) (first
   |(go_at_call 65;refine(HL.o _ aG).mono ?_;rintro e w7 ⟨rfl,A1,p1⟩)
   |(go_at_call 64;refine(HT.o _ aG).mono ?_;rintro e w7 ⟨rfl,f0,p1⟩))
  obtain⟨kz,g0⟩:=f0.o.1;have B1:=(iA.1 q.o).1;have z:=o (f0.o.2.whole (L0.o.whole q.o) (fun e=>aj K0.o));have q1:y5 (F0 w w7):=(D.o.trans L0.o).monoNew f0.o.2 (fun k hk=>y7 (ak K0.o D.o.size));have C1:=Zc g0 13;have D1:=Zc g0 14;have E1:=Zc g0 15;obtain⟨o0,o1,o2⟩:=aq z.o;have R0:=bF z.o;go_wp2_with fail;have J:=Lg (v0:=O G (r.1:Nat)) (v1:=z6 r.2.1) (v2:=z6 r.2.2) z.o;obtain⟨s0,s1,s2⟩:=aq J;refine bodyPost_ret (v:=x8 #[O G (r.1:Nat),z6 r.2.1,z6 r.2.2]) (by simp[results,results36,go_sem,s0,s1,s2]) rfl ⟨by rw[I0.o];rfl,?_⟩;exact((q1.o.setCell (p:=⟨P+1,0,V⟩) (y7 B) _).setCell (p:=⟨P+1,1,V⟩) (y7 B) _).setCell (p:=⟨P+1,2,V⟩) (y7 B) _
structure vT (w:y8)(zb TT D:Nat)(rts:List Zf)(ra:Option Addr)(rc:Nat)(nms:List ByteArray)(prs:List (List Zl))(tr:Tr)(a:Option Addr)(c:Nat)(l:List ByteArray):Prop where
 tg:NB zb w TT rts ra rc nms prs tr
 bk:An rts nms prs tr
 d0:w.cell? ⟨D,0,V⟩=U (z4 a l.length c)
 st:ZX w a l
 ln:l.length<=maxLen
def vT.fr {w w' g i D b j k d e m a c l}(h:vT w g i D b j k d e m a c l)(f:F0 w w'):vT w' g i D b j k d e m a c l:=
 ⟨h.tg.fr f,h.bk,(f.cell (p:=⟨D,0,V⟩) (bL w _ h.d0)).trans h.d0,h.st.fr f,h.ln⟩
def GC (w q i D b j k d f m a c l p n)(h:vT w q i D b j k d f m a c l)(r:YD p=true->Ox b d f m p n)(s:p.pan.size<=maxLen):
  x5 z7 36 #[y4 (U ⟨i,0,V⟩),X4 p,.func (.func 37) #[] #[y4 (U ⟨D,0,V⟩)]] w fun e t=>e=z9 (Rc (R8 b d p (UX b l) n))/\F0 w t:=
 Jn w q i b j k d f m _ (UX b l) p n ⟨h.tg,h.bk⟩ (fun W u=>by
  have g:=h.fr u;obtain⟨v,x,y,z,o,_⟩:=g.tg.bx
  exact Ak W i W.heap.size D b j k a c l (R6.of (Zc o 0) g.tg.ro (j5 _) g.bk.rt) g.bk.r6 g.d0 g.st g.ln) r s
structure qG (w:y8)(zb T TT:Nat)(rts:List Zf)(ra:Option Addr)(rc:Nat)(nms:List ByteArray)(prs:List (List Zl))(tr:Tr)(a:Option Addr)(l:List ByteArray):Prop where
 t1:w.cell? ⟨T,1,V⟩=U (y4 (U ⟨TT,0,V⟩))
 tg:NB zb w TT rts ra rc nms prs tr
 bk:An rts nms prs tr
 st:ZX w a l
 ln:l.length<=maxLen
def GD (w zb T F rts ra rc i y tr a c l p H)(h:qG w zb T F rts ra rc i y tr a l)(I:YD p=true->Ox rts i y tr p H)(hs:p.pan.size<=maxLen):
  x5 z7 19 #[y4 (U ⟨T,0,V⟩),X4 p,z4 a l.length c] w fun e w'=>e=z9 (Rc (R8 rts i p (UX rts l) H))/\F0 w w':=by
 have e0:∀(fn:Fn)(first J:Array x7)(w:y8),(Instr.makeFunc fn first J).run z7 w=.ok (.func fn first J) w:=fun _ _ _ _=>rfl
 obtain⟨m,r,s,t⟩:=uS w (R7 p) (z8 #[z4 a l.length c] 28) (z8 #[O G 0,z6 ⟨#[]⟩,z6 ⟨#[]⟩] 38);have HH:=Za h;have a0:=Za I;unfold X4;unfold R7 at m r t s;obtain⟨n,hn⟩:=ad l.length;have HN:=Za hn;rw[hn]at m r t s ⊢;have b0:=Za hs;clear h hs hn I;go_enter func19,ntmps19;go_upto_region 1 with fail;generalize((w.alloc _).alloc _).alloc _=W at*;obtain⟨P,R⟩:=ad w.heap.size;have K:=Za R;rw[R]at r t s;rw[R];clear R
 have z:y5 (∀d,F0 W d->x5 z7 36 #[y4 (U ⟨F,0,V⟩),x8 #[z6 p.pan,O G p.mcc,O G p.am,O G p.cur],.func (.func 37) #[] #[y4 (U ⟨P+1,0,V⟩)]] d fun e w'=>e=z9 (Rc (R8 rts i p (UX rts l) H))/\F0 d w'):=by
  intro d L;have f:=m.o.trans L;have Y:=HH.o;exact GC d zb F (P+1) rts ra rc i y tr a c l p H ⟨Y.tg.fr f,Y.bk,by rw[HN.o];exact Zc (L.whole s.o) 0,Y.st.fr f,Y.ln⟩ a0.o b0.o
 obtain⟨b,q⟩:=ad (R8 rts i p (UX rts l) H);have c0:=Za q;rw[q]at z;unfold Rc at z
 have A:y5 (∀d,F0 W d->d.cell? ⟨T,1,V⟩=U (y4 (U ⟨F,0,V⟩))/\d.cell? ⟨P,0,V⟩=U (z6 p.pan)/\d.cell? ⟨P,1,V⟩=U (O G p.mcc)/\d.cell? ⟨P,2,V⟩=U (O G p.am)/\d.cell? ⟨P,3,V⟩=U (O G p.cur)):=fun d L=>by
  have e:=L.whole r.o;have t1:=HH.o.t1;exact⟨((m.o.trans L).cell (p:=⟨T,1,V⟩) (bL w _ t1)).trans t1,Zc e 0,Zc e 1,Zc e 2,Zc e 3⟩
 have M:y5 (T<P/\w.heap.size<=P+1+1):=⟨by rw[<-K.o];exact bL w _ HH.o.t1,by rw[K.o];omega⟩;clear q;refine wp_region_held_drew (S:=fun d=>d.cell? ⟨T,1,V⟩=U (y4 (U ⟨F,0,V⟩))/\d.cell? ⟨P,0,V⟩=U (z6 p.pan)/\d.cell? ⟨P,1,V⟩=U (O G p.mcc)/\d.cell? ⟨P,2,V⟩=U (O G p.am)/\d.cell? ⟨P,3,V⟩=U (O G p.cur)) aC (A.o _ Zo.drew) (fun B=>?_);refine ZJ 0 B ?_
 try go_frame
 refine ZJ 1 B ?_
 try go_frame
 refine ZJ 2 B ?_
 try go_frame
 refine ZJ 3 B ?_
 try go_frame
 refine ZJ 4 B ?_
 try go_frame
 refine ZJ 5 B ?_
 try go_frame
 refine XA [6] ?_;refine Zb rfl (fun K2 N=>?_) y6
 try rw[if_pos aD]
 go_simp;refine(z.o _ (Zo.drew)).mono ?_;rintro e x ⟨rfl,Q⟩;have u:=Za ((Zo.drew).trans Q);have g:=Za (u.o.whole t.o);clear Q;refine N.out _ _ (A.o _ u.o) (fun B=>?_);clear N K2
 try go_frame
 obtain⟨o0,o1,o2⟩:=aq g.o;have f0:=bF g.o;refine XA [7] ?_;refine Zb rfl (fun K2 N=>?_) y6
 try rw[if_pos aD]
 go_simp;have C:Fr (fun j=>j=P+1+1) x (((x.setCell ⟨P+1+1,0,V⟩ (O G (b.1:Nat))).setCell ⟨P+1+1,1,V⟩ (z6 b.2.1)).setCell ⟨P+1+1,2,V⟩ (z6 b.2.2)):=(((Fr.refl (fun j=>j=P+1+1) x).setCell (p:=⟨P+1+1,0,V⟩) (j0 rfl) _).setCell (p:=⟨P+1+1,1,V⟩) (j0 rfl) _).setCell (p:=⟨P+1+1,2,V⟩) (j0 rfl) _;have d0:F0 w (((x.setCell ⟨P+1+1,0,V⟩ (O G (b.1:Nat))).setCell ⟨P+1+1,1,V⟩ (z6 b.2.1)).setCell ⟨P+1+1,2,V⟩ (z6 b.2.2)):=(m.o.trans u.o).monoNew C (fun k hk=>y7 (aj M.o.2));have D:=Lg (v0:=O G (b.1:Nat)) (v1:=z6 b.2.1) (v2:=z6 b.2.2) g.o;obtain⟨Z,s1,s2,s3,s4⟩:=A.o _ u.o
 have E:∀X o v,X<P+1+1->x.cell? ⟨X,o,V⟩=U v->(((x.setCell ⟨P+1+1,0,V⟩ (O G (b.1:Nat))).setCell ⟨P+1+1,1,V⟩ (z6 b.2.1)).setCell ⟨P+1+1,2,V⟩ (z6 b.2.2)).cell? ⟨X,o,V⟩=U v:=fun X o v hX hv=>(C.cell (p:=⟨X,o,V⟩) (bL x _ hv) (by show X≠P+1+1;omega)).trans hv
 have i0:=M.o.1;refine N.out _ _ ⟨E T 1 _ az Z,E P 0 _ az s1,E P 1 _ az s2,E P 2 _ az s3,E P 3 _ az s4⟩ (fun _=>?_);clear N K2 E Z s1 s2 s3 s4 C
 try go_frame
 generalize((x.setCell ⟨P+1+1,0,V⟩ (O G (b.1:Nat))).setCell ⟨P+1+1,1,V⟩ (z6 b.2.1)).setCell ⟨P+1+1,2,V⟩ (z6 b.2.2)=W8 at*;refine wpAnyH_done aC ?_ _;go_wp2_with fail;obtain⟨Z,s1,s2⟩:=aq D;refine bodyPost_ret (v:=x8 #[O G (b.1:Nat),z6 b.2.1,z6 b.2.2]) (by simp[results,results19,go_sem,Z,s1,s2]) rfl ⟨by rw[c0.o];rfl,d0⟩
structure qH (w:y8)(zb T TT:Nat)(rts:List Zf)(R:List Ze)(ra:Option Addr)(rc:Nat)(a:Option Addr)(l:List ByteArray):Prop where
 t1:w.cell? ⟨T,1,V⟩=U (y4 (U ⟨TT,0,V⟩))
 tr:Wl zb w TT (z4 ra rts.length rc) R (Zz (Zu R) R.length)
 ro:w.ownsRow 0 148 3 (z4 ra rts.length rc) rts.length (Ym rts)
 bk:Yh rts R
 st:ZX w a l
 ln:l.length<=maxLen
def GE {b R}(a:Yh b R):An b (R.map Ze.name) ((ZI R 7 ⟨0,0⟩ 0 (2^R.length-1) []).2.map fun m=>ZL R m (Wk R.length (Zz (Zu R) R.length))) (ZI R 7 ⟨0,0⟩ 0 (2^R.length-1) []).1:=by
 refine⟨a.rt,a.r6,fun s c=>?_,fun l d=>?_,Lf a⟩
 ·obtain⟨r,e,rfl⟩:=j8.1 c;exact(a.rl r e).nm
 obtain⟨m,g,rfl⟩:=j8.1 d;refine⟨?_,fun s c f=>PM a.rl m _ s c f⟩;have h:=SB R m (Wk R.length (Zz (Zu R) R.length))
 have i:(Wk R.length (Zz (Zu R) R.length)).length=R.length:=by simp[Wk]
 have j:=a.l8;omega
def Wl.tg {c w d rts ra rc R}(h:Wl c w d (z4 ra rts.length rc) R (Zz (Zu R) R.length))(g:w.ownsRow 0 148 3 (z4 ra rts.length rc) rts.length (Ym rts)):NB c w d rts ra rc (R.map Ze.name) ((ZI R 7 ⟨0,0⟩ 0 (2^R.length-1) []).2.map fun m=>ZL R m (Wk R.length (Zz (Zu R) R.length))) (ZI R 7 ⟨0,0⟩ 0 (2^R.length-1) []).1:=by
 obtain⟨i,k,a,b,n,o,⟨p,q,r⟩,s⟩:=h.bx;refine⟨⟨i,k,a,b,n,by rw[g8];exact o,⟨p,by rw[g8];exact q,fun j l f=>?_⟩,s⟩,g⟩;rw[v8]at f;obtain⟨m,t,e⟩:=Option.map_eq_some_iff.1 f;subst e;exact r j m t
def SC {rts R}(h:Yh rts R)(p)(k:YD p=true):Ox rts (R.map Ze.name) ((ZI R 7 ⟨0,0⟩ 0 (2^R.length-1) []).2.map fun m=>ZL R m (Wk R.length (Zz (Zu R) R.length))) (ZI R 7 ⟨0,0⟩ 0 (2^R.length-1) []).1 p (Rb R (YC (Zu R) (YN R p (Zw p.pan)) R.length)):=by
 have b:X0 p.pan=true:=by have e:=k;rw[XH,j1]at e;exact e.1
 obtain⟨m,c,d⟩:=xd h p b;refine⟨_,by rw[v8,c];rfl,d,?_⟩;have f:=Uy (Zu R) (YN R p (Zw p.pan)) R.length
 cases l:YC (Zu R) (YN R p (Zw p.pan)) R.length with
 |none=>exact j0 rfl
 |some i=>
  rw[l]at f;obtain⟨r,j⟩:∃r,R[i]?=U r:=⟨_,gE f.1⟩;have a:=h.rl r (mG j);refine y7 ?_
  have g:i<(R.map Ze.name).length:=by rw[g8];exact f.1
  simp only[Rb,j];unfold UQ
  split
  ·exact⟨j0 rfl,y,y,g⟩
  split
  ·exact⟨y7 (y7 rfl),a.pl.1,a.pl.2,g⟩
  exact⟨y7 (j0 rfl),a.pl.1,a.pl.2,g⟩
def Oy {rts R}(p b):R8 rts (R.map Ze.name) p b (Rb R (YC (Zu R) (YN R p (Zw p.pan)) R.length))=UF rts R p b:=by
 unfold R8;by_cases a:YD p=true
 ·rw[if_pos a,vS p b a _ rfl]
  cases f:YC (Zu R) (YN R p (Zw p.pan)) R.length with
  |none=>simp[Rb,Td]
  |some i=>
   have c:=Uy (Zu R) (YN R p (Zw p.pan)) R.length;rw[f]at c;obtain⟨r,d⟩:∃r,R[i]?=U r:=⟨_,gE c.1⟩
   have e:(Rb R (U i)).rule=i:=by
    simp only[Rb,d];unfold UQ
    split
    ·rfl
    split<;>rfl
   rw[e];simp[l0,d]
 rw[if_neg a];unfold UF;rw[if_neg a]
def EY (w d T f b R g i a c l p)(h:qH w d T f b R g i a l)(j:p.pan.size<=maxLen):
  x5 z7 19 #[y4 (U ⟨T,0,V⟩),X4 p,z4 a l.length c] w fun e k=>e=z9 (Rc (UF b R p (UX b l)))/\F0 w k:=by
 have e:=GD w d T f b g i _ _ _ a c l p _ ⟨h.t1,h.tr.tg h.ro,GE h.bk,h.st,h.ln⟩ (SC h.bk p) j;rw[Oy]at e;exact e
def Yk.set {w B i b s}(h:Yk w B s i b){X}(o v)(a:X≠B):Yk (w.setCell ⟨X,o,V⟩ v) B s i b:=
 h.fr (S:=fun k=>k=X) ((Fr.refl (fun k=>k=X) w).setCell (p:=⟨X,o,V⟩) (j0 rfl) v) (fun e=>a e.symm)
def rF (x:Zf):x7:=x8 #[z6 x.name,O G (x.base:Nat),O G (x.rate:Nat)]
def EZ (w B s i C)(h:Yk w B s i C):
  x5 z7 120 #[y4 (U ⟨B,0,V⟩)] w (Ou w B s C (VE s.data.toList i) fun _ v x=>v=rF x):=by
 obtain⟨f,g⟩:=ad ((w.alloc (z8 #[z6 ⟨#[]⟩,O G 0,O G 0] 148)).alloc (z8 #[z6 ⟨#[]⟩,O G 0,O G 0] 148));obtain⟨P,L⟩:=ad w.heap.size
 have j0:B<P:=by rw[<-L];exact(iA.1 h.bx).1
 have l:y5 (Fr (fun k=>k=B) w f):=by show Fr _ _ _;rw[<-g];exact(Zo.alloc _).alloc _
 have X:y5 (f.heap[P]?=U (z8 #[z6 ⟨#[]⟩,O G 0,O G 0] 148)):=by
  show _=_
  rw[<-g,<-L];exact((Fr.refl (fun _=>False) _).alloc _).whole (aN w _)
 have Y:y5 (f.heap[P+1]?=U (z8 #[z6 ⟨#[]⟩,O G 0,O G 0] 148)):=by
  show _=_
  rw[<-g,<-L];have e:=aN (w.alloc (z8 #[z6 ⟨#[]⟩,O G 0,O G 0] 148)) (z8 #[z6 ⟨#[]⟩,O G 0,O G 0] 148)
  simpa using e
 have Z:y5 (Yk f B s i C):=by show Yk _ _ _ _ _;rw[<-g];exact h.fr (S:=fun _=>False) ((Zo.alloc _).alloc _)
 have n:=o L;obtain⟨N,hN⟩:=ad (VE s.data.toList i);rw[hN];have M:=o hN;go_enter func120,ntmps120;go_upto_region 2 with fail;go_wp2_with fail;refine(Jk f B s i C Z.o).mono ?_;intro e w1 b
 cases Q:UL s.data.toList i with
 |none=>
  rw[Q]at b;obtain⟨q,D⟩:=b
  have r:N=V:=by rw[<-M.o];unfold VE;rw[Q]
  subst r;unfold Tp at q;subst q;exact⟨rfl,rfl,l.o.monoNew (D) (fun k a=>by first|exact .inl a|exact a.imp id (fun h=>by rw[n.o];omega))⟩
 |some nj=>
  obtain⟨t,j⟩:=nj;rw[Q]at b;obtain⟨⟨v,rfl,rfl⟩,a0,u⟩:=b;have H1:=o Q;have k0:=o u;have c:=u.whole Y.o (by show¬P+1=B;omega);have c0:=Zc c 0;have z0:=bF c 0;have d:=heap_setCell_same w1 (P+1) 0 _ _ (z6 t) c;have b0:=o (a0.set 0 (z6 t) (show P+1≠B by omega));have d0:=o d;have E:y5 (Fr (fun k=>k=B\/P+1=k) f (w1.setCell ⟨P+1,0,V⟩ (z6 t))):=(u.mono (fun k a=>.inl a)).setCell (p:=⟨P+1,0,V⟩) (.inl (.inr rfl)) _;go_upto_region 3 with fail;generalize w1.setCell ⟨P+1,0,V⟩ (z6 t)=W1 at*;go_wp2_with fail;refine(Z2 W1 B s j C 4 4 0 1000000 b0.o aB rfl).mono ?_;intro e w2 b
  cases R:Xa s.data.toList 4 0 1000000 j with
  |none=>
   rw[R]at b;obtain⟨q,D⟩:=b
   have r:N=V:=by rw[<-M.o];unfold VE;rw[H1.o];simp only[R]
   subst r;unfold Tp at q;subst q;exact⟨rfl,rfl,l.o.monoNew (E.o.trans (D.mono (fun k a=>.inl a))) (fun k a=>by first|exact .inl a|exact a.imp id (fun h=>by rw[n.o];omega))⟩
  |some xk=>
   obtain⟨x,k⟩:=xk;rw[R]at b;obtain⟨⟨v,rfl,rfl⟩,e0,F⟩:=b;have H2:=o R;have c:=F.whole d0.o (by show¬P+1=B;omega);have c1:=Zc c 1;have z1:=bF c 1;have d:=heap_setCell_same w2 (P+1) 1 _ _ (O G (x:Nat)) c;have f0:=o (e0.set 1 (O G (x:Nat)) (show P+1≠B by omega));have H:=o d;have I:y5 (Fr (fun k=>k=B\/P+1=k) f (w2.setCell ⟨P+1,1,V⟩ (O G (x:Nat)))):=(E.o.trans (F.mono (fun k a=>.inl a))).setCell (p:=⟨P+1,1,V⟩) (.inl (.inr rfl)) _;go_upto_region 4 with fail;generalize w2.setCell ⟨P+1,1,V⟩ (O G (x:Nat))=W2 at*;go_wp2_with fail;refine(Z2 W2 B s k C 4 4 0 1000 f0.o aB rfl).mono ?_;intro e w3 b
   cases W:Xa s.data.toList 4 0 1000 k with
   |none=>
    rw[W]at b;obtain⟨q,D⟩:=b
    have r:N=V:=by rw[<-M.o];unfold VE;rw[H1.o];simp only[H2.o,W]
    subst r;unfold Tp at q;subst q;exact⟨rfl,rfl,l.o.monoNew (I.o.trans (D.mono (fun k a=>.inl a))) (fun k a=>by first|exact .inl a|exact a.imp id (fun h=>by rw[n.o];omega))⟩
   |some ym=>
    obtain⟨y,m⟩:=ym;rw[W]at b;obtain⟨⟨v,rfl,rfl⟩,g0,J⟩:=b
    have r:N=U (⟨t,x,y⟩,m):=by rw[<-M.o];unfold VE;rw[H1.o];simp only[H2.o,W]
    subst r;have c:=J.whole H.o (by show¬P+1=B;omega);have c2:=Zc c 2;have z2:=bF c 2;have d:=heap_setCell_same w3 (P+1) 2 _ _ (O G (y:Nat)) c;have h0:=o (g0.set 2 (O G (y:Nat)) (show P+1≠B by omega));have z:=o d;have K:y5 (Fr (fun k=>k=B\/P+1=k) f (w3.setCell ⟨P+1,2,V⟩ (O G (y:Nat)))):=(I.o.trans (J.mono (fun k a=>.inl a))).setCell (p:=⟨P+1,2,V⟩) (.inl (.inr rfl)) _;go_upto_region 5 with fail;generalize w3.setCell ⟨P+1,2,V⟩ (O G (y:Nat))=W3 at*;have A:=K.o.whole X.o (by show¬(P=B\/P+1=P);omega);obtain⟨q0,q1,q2⟩:=aq z.o;obtain⟨o0,o1,o2⟩:=aq A;have l0:=bF A;have i0:=o A;go_wp2_with fail;have e3:=Lg (v0:=z6 t) (v1:=O G (x:Nat)) (v2:=O G (y:Nat)) i0.o;obtain⟨s0,s1,s2⟩:=aq e3;refine bodyPost_ret (v:=x8 #[z6 t,O G (x:Nat),O G (y:Nat)]) (by simp[results,results120,go_sem,s0,s1,s2]) rfl ⟨⟨_,rfl,rfl⟩,((h0.o.set 0 _ (show P≠B by omega)).set 1 _ (show P≠B by omega)).set 2 _ (show P≠B by omega),?_⟩;refine l.o.monoNew (T:=fun k=>k=B\/P<=k) ?_ (fun k a=>a.imp id (fun h=>by rw[n.o];exact h));exact(((K.o.mono (T:=fun k=>k=B\/P<=k) (fun k a=>a.imp id (fun h=>az))).setCell (p:=⟨P,0,V⟩) (.inl (.inr (j5 _))) _).setCell (p:=⟨P,1,V⟩) (.inl (.inr (j5 _))) _).setCell (p:=⟨P,2,V⟩) (.inl (.inr (j5 _))) _
abbrev RR:=Nat×Nat
def Y4 (s:RR)(n:Nat):Bool:=decide (s.1<=n)&&decide (n<=s.2)
structure Re where
 s0:List RR
 s1:List RR
 s2:List RR
 s3:List RR
def Re.at (A:Re):Nat->List RR
 |0=>A.s0
 |1=>A.s1
 |2=>A.s2
 |_=>A.s3
def XI (A:Re)(side n:Nat):Bool:=(A.at side).any fun s=>Y4 s n
def R9 (w:y8)(a:Option Addr)(l:List RR):Prop:=∀k s,l[k]?=U s->∃g o,a=U ⟨g,o,V⟩/\w.cell? ⟨g,o+2*k,V⟩=U (O G (s.1:Nat))/\w.cell? ⟨g,o+2*k+1,V⟩=U (O G (s.2:Nat))
def R9.fr {w w' S a l}(h:R9 w a l)(b:Fr S w w')(c:∀g o,a=U ⟨g,o,V⟩->¬S g:=by simp):R9 w' a l:=by
 intro k s i;obtain⟨g,o,e,d,f⟩:=h k s i;exact⟨g,o,e,(b.cell (p:=⟨g,o+2*k,V⟩) (bL w _ d) (c g o e)).trans d,(b.cell (p:=⟨g,o+2*k+1,V⟩) (bL w _ f) (c g o e)).trans f⟩
structure F4 where
 a:Option Addr
 c:Nat
def Xy (x:F4)(l:List RR):x7:=z4 x.a l.length x.c
structure Oz (w:y8)(A:Re)(x0 x1 x2 x3:F4):Prop where
 p0:R9 w x0.a A.s0
 p1:R9 w x1.a A.s1
 p2:R9 w x2.a A.s2
 p3:R9 w x3.a A.s3
 few:∀k,(A.at k).length<=10
def Oz.fr {w w' A b c d e}(h:Oz w A b c d e)(a:F0 w w'):Oz w' A b c d e:=⟨h.p0.fr a,h.p1.fr a,h.p2.fr a,h.p3.fr a,h.few⟩
def RS (A:Re)(a b c d:F4):Array x7:=#[Xy a A.s0,Xy b A.s1,Xy c A.s2,Xy d A.s3]
def GF (a b c d:F4):Nat->F4
 |0=>a
 |1=>b
 |2=>c
 |_=>d
def Oz.at {w A b c d e}(h:Oz w A b c d e)(k):R9 w (GF b c d e k).a (A.at k):=by
 unfold Re.at GF
 split
 ·exact h.p0
 ·exact h.p1
 ·exact h.p2
 exact h.p3
def Iy {w:y8}{b A a c d e t}(h:w.heap[b]?=U (z8 (RS A a c d e) t)){k}(f:k<4):w.cell? ⟨b,k,V⟩=U (Xy (GF a c d e k) (A.at k)):=by
 have:k=0\/k=1\/k=2\/k=3:=z;rcases this with rfl|rfl|rfl|rfl
 ·exact Zc h 0
 ·exact Zc h 1
 ·exact Zc h 2
 exact Zc h 3
def Lh (w)(a b n:Nat)(i j k:Int)(p:i=a)(q:j=b)(r:k=n):
  x5 z7 264 #[x8 #[O G i,O G j],O G k] w fun e s=>e=z9 (z5 (Y4 (a,b) n))/\F0 w s:=by
 subst p q r;have l:=aN w (z8 #[O G (a:Int),O G (b:Int)] 118);obtain⟨t,u⟩:=ap l;have d:=(WM w (z8 #[O G (a:Int),O G (b:Int)] 118)).1;by_cases f:a<=n
 ·have g:(a:Int)<=(n:Int):=z;by_cases m:n<=b
  ·have h:(n:Int)<=(b:Int):=z
   have c:y5 (Y4 (a,b) n=true):=by show _=_;simp[Y4,f,m]
   go_enter func264,ntmps264;go_wp2;go_ret;rw[c.o];exact⟨rfl,d.o⟩
  have h:¬(n:Int)<=(b:Int):=z
  have c:y5 (Y4 (a,b) n=false):=by show _=_;simp[Y4,f,m]
  go_enter func264,ntmps264;go_wp2;go_ret;rw[c.o];exact⟨rfl,d.o⟩
 have g:¬(a:Int)<=(n:Int):=z
 have c:y5 (Y4 (a,b) n=false):=by show _=_;simp[Y4,f]
 go_enter func264,ntmps264;go_wp2;go_ret;rw[c.o];exact⟨rfl,d.o⟩
def xe (w A f i j p)(side n:Nat)(K L:Int)(h:Oz w A f i j p)(Y:side<4)(Z:K=side)(e2:L=n):
  x5 z7 245 #[x8 #[Xy f A.s0,Xy i A.s1,Xy j A.s2,Xy p A.s3],O G K,O G L] w fun e D=>e=z9 (z5 (XI A side n))/\F0 w D:=by
 subst Z e2;have HA:=Za h;have z:=Iy (t:=215) (aN w (z8 (RS A f i j p) 215)) Y;have q:=(WM w (z8 #[Xy f A.s0,Xy i A.s1,Xy j A.s2,Xy p A.s3] 215)).1;unfold RS at z;obtain⟨l,B⟩:=ad (A.at side);obtain⟨x,C⟩:=ad (GF f i j p side)
 have HS:y5 (R9 w x.a l):=by have e:=h.at side;rw[B,C]at e;exact e
 have HV:y5 (XI A side n=l.any fun s=>Y4 s n):=by show _=_;unfold XI;rw[B]
 have E:y5 (l.length<=10):=by have e:=h.few side;rw[B]at e;exact e
 rw[B,C]at z;have r:(side:Int)<4:=az;unfold Xy at z q ⊢;go_enter func245,ntmps245;go_wp2_with fail;obtain⟨N,M⟩:=ad l.length;rw[M]at z ⊢;have u:=Za M;have P:N<=10:=aj E.o
 go_loopg [8,13] N (fun m _ iv wr=>∃k,k<=N/\m=N-k/\iv=O G (k:Nat)/\y5 (XI A side n=(l.drop k).any fun s=>Y4 s n)/\y5 (F0 w wr))
 case atStart=>exact⟨0,az,rfl,rfl,by show _=_;rw[List.drop_zero];exact HV.o,q⟩
 obtain⟨k,hk,rfl,rfl,Q,b⟩:=hrel;by_cases a0:k<N
 ·have r:=af k N;have C:=gE (show k<l.length by have:=u.o;omega);obtain⟨g,o,R,S,T⟩:=(HS.o.fr b.o) k _ C
  have U:y5 (XI A side n=(Y4 (l[k]'(aj u.o)) n||(l.drop (k+1)).any fun s=>Y4 s n)):=by
   show _=_
   rw[Q.o,dC (aj u.o),List.any_cons]
  generalize l[k]'(aj u.o)=s at*;obtain⟨c,d⟩:=s
  dsimp only at S T
  obtain⟨xa,xc⟩:=x
  dsimp only at R
  subst R;have F:=Za (b.o.alloc (z8 #[O G (c:Nat),O G (d:Nat)] 118));have V:=aN wr (z8 #[O G (c:Int),O G (d:Int)] 118);obtain⟨z0,z1⟩:=ap V;have X:(k:Int)*2=((2*k:Nat):Int):=az;rw[show o+2*k=o+k*2 from az]at S;rw[show o+2*k+1=o+k*2+1 from az]at T
  have H:y5 (∀W,x5 z7 264 #[x8 #[O G (c:Nat),O G (d:Nat)],O G (n:Nat)] W fun e D=>e=z9 (z5 (Y4 (c,d) n))/\F0 W D):=fun W=>Lh W c d n _ _ _ rfl rfl rfl
  go_wp2_with fail;refine(H.o _).mono ?_;rintro e w5 ⟨rfl,I⟩;have v:=Za (F.o.trans I)
  cases y:Y4 (c,d) n with
  |true=>
   have J:y5 (XI A side n=true):=by show _=_;rw[U.o,y];rfl
   go_wp2;go_ret;rw[J.o];exact⟨rfl,v.o⟩
  |false=>
   have J:y5 (XI A side n=(l.drop (k+1)).any fun s=>Y4 s n):=by show _=_;rw[U.o,y];rfl
   go_wp2;go_roundg (N-(k+1))
   case measure=>omega
   exact⟨k+1,az,rfl,aE,J,v⟩
 have r:=ai k N
 have HE:y5 (XI A side n=false):=by show _=_;rw[Q.o,dL (aj u.o)];rfl
 go_wp2;go_ret;rw[HE.o];exact⟨rfl,b.o⟩
def Qa (Yv:RR)(n:Nat):List Nat:=if Y4 Yv n then[n]else[]
def NC (Yv:RR)(s:RR):List Nat:=Qa Yv s.1++Qa Yv (s.2+1)
def YJ (Yv:RR)(l:List RR):List Nat:=l.flatMap (NC Yv)
def V4 (Yv s:RR):Nat->List Nat
 |0=>[]
 |1=>Qa Yv s.1
 |_=>NC Yv s
def Li (Yv n):(Qa Yv n).length<=1:=by unfold Qa;split<;>simp
def GG (Yv s):(NC Yv s).length<=2:=by
 have a:=Li Yv s.1;have b:=Li Yv (s.2+1);unfold NC;rw[lA];omega
def RT (Yv:RR):∀l:List RR,(YJ Yv l).length<=2*l.length
 |[]=>by simp[YJ]
 |s::r=>by
  have a:=RT Yv r;have b:=GG Yv s;simp only[YJ,b9,b7,k5]at*;omega
def E0 (Yv){l:List RR}{k s}(h:l[k]?=U s):YJ Yv (l.take (k+1))=YJ Yv (l.take k)++NC Yv s:=by
 rw[v4,h];simp[YJ]
def xg (Yv s j):(V4 Yv s j).length<=2:=by
 unfold V4
 split
 ·simp
 ·have:=Li Yv s.1;omega
 exact GG Yv s
def sB {Yv s}(h:Y4 Yv s.1=true):V4 Yv s (0+1)=V4 Yv s 0++[s.1]:=by simp[V4,Qa,h]
def sC {Yv s}(h:Y4 Yv s.1=false):V4 Yv s (0+1)=V4 Yv s 0:=by simp[V4,Qa,h]
def sD {Yv s}(h:Y4 Yv (s.2+1)=true):V4 Yv s (1+1)=V4 Yv s 1++[s.2+1]:=by
 show NC Yv s=Qa Yv s.1++_
 unfold NC
 congr 1
 unfold Qa;rw[h];rfl
def sF {Yv s}(h:Y4 Yv (s.2+1)=false):V4 Yv s (1+1)=V4 Yv s 1:=by
 show NC Yv s=Qa Yv s.1
 unfold NC;rw[show Qa Yv (s.2+1)=[]from by unfold Qa;rw[h];rfl,r4]
def xh (w Yv)(x:F4)(l)(hS:R9 w x.a l)(hl:l.length<=10)(Z:∀s,s∈l->s.1<=10000000000/\s.2<=10000000000):
  x5 z7 242 #[x8 #[O G (Yv.1:Nat),O G (Yv.2:Nat)],z4 x.a l.length x.c] w fun e w'=>(∃v,e=z9 v/\w'.ownsRow w.heap.size 3 1 v (YJ Yv l).length (Zg (YJ Yv l))/\((YJ Yv l).length=0->v=z4 V 0 0))/\F0 w w':=by
 obtain⟨d,b⟩:=Yv
 dsimp only
 have HS:=Za hS;have HB:=Za Z;obtain⟨d0,K⟩:=WM w (z8 #[O G (d:Nat),O G (b:Nat)] 118);obtain⟨N,hN⟩:=ad l.length;have HN:=Za hN;have x0:N<=10:=az;rw[hN];go_enter func242,ntmps242;go_wp2_with fail;generalize w.alloc _=w0 at*;obtain⟨P,hP⟩:=ad w.heap.size;have HP:=Za hP;rw[hP]at K;rw[hP]
 go_loopg [5,7,9,12] N (fun m L _ _ iv wr=>∃k,k<=N/\m=N-k/\iv=O G (k:Nat)/\y5 ((YJ (d,b) (l.take k)).length=0->L=z4 V 0 0)/\y5 (wr.ownsRow (P+1) 3 1 L (YJ (d,b) (l.take k)).length (Zg (YJ (d,b) (l.take k))))/\y5 (F0 w wr)/\y5 (wr.heap[P]?=U (z8 #[O G (d:Nat),O G (b:Nat)] 118)))
 case atStart=>exact⟨0,az,rfl,rfl,fun _=>rfl,oZ _ _ _ _,d0,K⟩
 obtain⟨k,H,rfl,rfl,HZ,HO,z,e0⟩:=hrel;by_cases y0:k<N
 ·have f0:=af k N;have hx:=gE (show k<l.length by have:=HN.o;omega);obtain⟨g,o,ea,h1,h2⟩:=(HS.o.fr z.o) k _ hx;have g0:=HB.o _ (m0 (show k<l.length by have:=HN.o;omega));have M:=Za (E0 (d,b) hx);generalize l[k]'(aj HN.o)=s at*;obtain⟨f,i⟩:=s
  dsimp only at h1 h2 g0
  obtain⟨xa,xc⟩:=x
  dsimp only at ea
  subst ea;rw[show o+2*k=o+k*2 from az]at h1;rw[show o+2*k+1=o+k*2+1 from az]at h2;have Z:=aN wr (z8 #[O G (f:Int),O G (i:Int)] 118);obtain⟨z0,z1⟩:=ap Z;have A:=(WM wr (z8 #[O G (f:Int),O G (i:Int)] 118)).1;go_wp2_with fail;have h0:=Za (z.o.trans A.o);have i0:=Za (oF HO.o A.o);have k0:=Za (A.o.whole e0.o);generalize wr.alloc _=w1 at*
  go_loopg [5,9,22] 2 (fun m L _ jv wq=>∃j,j<=2/\m=2-j/\jv=O G (j:Nat)/\y5 ((YJ (d,b) (l.take k)++V4 (d,b) (f,i) j).length=0->L=z4 V 0 0)/\y5 (wq.ownsRow (P+1) 3 1 L (YJ (d,b) (l.take k)++V4 (d,b) (f,i) j).length (Zg (YJ (d,b) (l.take k)++V4 (d,b) (f,i) j)))/\y5 (F0 w wq)/\y5 (wq.heap[P]?=U (z8 #[O G (d:Nat),O G (b:Nat)] 118)))
  case atStart=>exact⟨0,az,rfl,rfl,fun h=>HZ.o (by simpa[V4]using h),by show b8 _ _ _ _ _ _ _;simpa[V4]using i0.o,h0,k0⟩
  obtain⟨j,hj,rfl,rfl,B,t,Q,u⟩:=hrel;obtain⟨I,J,ho⟩:=oL t.o;subst ho;obtain⟨n,y⟩:=ad (YJ (d,b) (l.take k)++V4 (d,b) (f,i) j).length
  have A0:n<=40:=by
   rw[<-y,lA];have e1:=RT (d,b) (l.take k);have e2:=xg (d,b) (f,i) j;rw[k7]at e1;omega
  have p:=Za y;rw[y]at t B;rw[y];by_cases B0:j<2
  ·have z0:=bC u.o 0 _ rfl;have z1:=Zc u.o 1;have l0:(j:Int)<2:=az
   obtain⟨q,C0,D0,n0,o0⟩:∃q:Nat,q<=10000000001/\(∀W:y8,(Instr.index 355 (x8 #[O G (f:Int),O G ((i:Int)+1)]) (O G (j:Nat))).run z7 W=.ok (O G (q:Nat)) W)/\y5 (Y4 (d,b) q=true->V4 (d,b) (f,i) (j+1)=V4 (d,b) (f,i) j++[q])/\y5 (Y4 (d,b) q=false->V4 (d,b) (f,i) (j+1)=V4 (d,b) (f,i) j):=by
    rcases(by omega:j=0\/j=1)with rfl|rfl
    ·exact⟨f,az,fun _=>aC,sB (s:=(f,i)),sC (s:=(f,i))⟩
    exact⟨i+1,az,fun _=>aC,sD (s:=(f,i)),sF (s:=(f,i))⟩
   go_wp2_with fail;refine(Lh _ d b q _ _ _ rfl rfl rfl).mono ?_;rintro e w5 ⟨rfl,C⟩;have D:=Za (Q.o.trans C);have E:=Za (oF t.o C);have F:=Za (C.whole u.o)
   cases R:Y4 (d,b) q with
   |true=>
    have S:=Za (n0.o R)
    go_wp2_with (at_builtin;refine ao (P+1) Y9 underlying25 (z4 I n J) n (Zg (YJ (d,b) (l.take k)++V4 (d,b) (f,i) j)) ?q1 ⟨w5.heap.size,0,V⟩ [O G (q:Nat)] ?q2 ?_ (k4:=?q6))
    case q1=>exact E.o.alloc _
    case q2=>exact k8 (aN w5 (z8 #[O G (q:Nat)] 3))
    case q6=>have h6:=D.o.size;have h7:=(iA.1 F.o).1;simp;omega
    intro g2 T w8 X r G0 _
    have Y:∀k,(v5 I n J).ownBlock=U k->P+1<=k:=fun k H=>(E.o.lt k H).1
    have p0:=Za ((D.o.alloc _).grown r (fun k H=>y7 (ak (Y k H) HP.o)));have q0:=Za ((((Fr.refl (fun k=>(v5 I n J).ownBlock=U k) w5).alloc _).grown r (fun k H=>j0 H)).whole F.o (fun e=>aj (Y P e)))
    have r0:y5 (w8.ownsRow (P+1) 3 1 (z4 (U ⟨g2,0,V⟩) (n+1) T) (YJ (d,b) (l.take k)++V4 (d,b) (f,i) (j+1)).length (Zg (YJ (d,b) (l.take k)++V4 (d,b) (f,i) (j+1)))):=by
     rw[S.o,<-n9,X6,lA,p.o];exact X
    go_wp2;go_roundg (2-(j+1))
    case measure=>omega
    exact⟨j+1,az,rfl,aE,fun h=>by rw[S.o]at h;simp at h,r0,p0,q0⟩
   |false=>
    have S:=Za (o0.o R)
    have s0:y5 (w5.ownsRow (P+1) 3 1 (z4 I n J) (YJ (d,b) (l.take k)++V4 (d,b) (f,i) (j+1)).length (Zg (YJ (d,b) (l.take k)++V4 (d,b) (f,i) (j+1)))):=by
     rw[S.o,p.o];exact E.o
    go_wp2;go_roundg (2-(j+1))
    case measure=>omega
    exact⟨j+1,az,rfl,aE,fun h=>B.o (by rw[S.o,p.o]at h;exact h),s0,D,F⟩
  have l0:¬(j:Int)<2:=az;have ej:j=2:=az
  have t0:y5 ((YJ (d,b) (l.take (k+1))).length=0->v5 I n J=z4 V 0 0):=fun h=>B.o (by rw[show YJ (d,b) (l.take (k+1))=YJ (d,b) (l.take k)++V4 (d,b) (f,i) j from by rw[M.o,ej];rfl,p.o]at h;exact h)
  have v0:y5 (wr.ownsRow (P+1) 3 1 (z4 I n J) (YJ (d,b) (l.take (k+1))).length (Zg (YJ (d,b) (l.take (k+1))))):=by
   have e:=t.o;rw[show YJ (d,b) (l.take (k+1))=YJ (d,b) (l.take k)++V4 (d,b) (f,i) j from by rw[M.o,ej];rfl,p.o];exact e
  go_wp2;go_roundg (N-(k+1))
  case measure=>omega
  exact⟨k+1,az,rfl,aE,t0,v0,Q,u⟩
 have f0:=ai k N
 have HE:y5 (l.take k=l):=by show _=_;rw[j6 (aj HN.o)]
 go_wp2;go_ret;refine⟨⟨_,rfl,?_,fun h=>HZ.o (by rw[HE.o];simpa using h)⟩,z.o⟩;have e:=HO.o;rw[HE.o]at e;exact oS e (aj HP.o)
structure Tq where
 A:Re
 x0:F4
 x1:F4
 x2:F4
 x3:F4
def PN (e:Tq):List x7:=[Xy e.x0 e.A.s0,Xy e.x1 e.A.s1,Xy e.x2 e.A.s2,Xy e.x3 e.A.s3]
def Vp (a:List Tq):List x7:=a.flatMap PN
def Ng (a e):Vp (a++[e])=Vp a++PN e:=by simp[Vp]
def Tq.ok (w:y8)(e:Tq):Prop:=Oz w e.A e.x0 e.x1 e.x2 e.x3
def V5 (w:y8)(a:Option Addr)(es:List Tq):Prop:=∀k e,es[k]?=U e->e.ok w/\∃g o,a=U ⟨g,o,V⟩/\∀j v,(PN e)[j]?=U v->w.cell? ⟨g,o+k*4+j,V⟩=U v
def V5.fr {w w' a es}(h:V5 w a es)(b:F0 w w'):V5 w' a es:=by
 intro k e f;obtain⟨i,g,o,l,c⟩:=h k e f;exact⟨i.fr b,g,o,l,fun j v d=>(b.cell (p:=⟨g,o+k*4+j,V⟩) (bL w _ (c j v d))).trans (c j v d)⟩
def Vu (side n:Nat)(es:List Tq):List Tq:=es.filter fun e=>XI e.A side n
def Ap {side n}{a:List Tq}{k e}(h:a[k]?=U e):Vu side n (a.take (k+1))=Vu side n (a.take k)++(if XI e.A side n then[e]else[]):=by
 rw[v4,h];simp only[Vu,Option.toList,List.filter_append]
 congr 1
 cases b:XI e.A side n<;>simp[b]
def GH (side n a):(Vu side n a).length<=a.length:=List.length_filter_le _ _
def Qq:(z7.info? 215).map (fun i=>(i.zero,i.size,i.bytes))=U (U (x8 #[z4 V 0 0,z4 V 0 0,z4 V 0 0,z4 V 0 0]),4,96):=n
def E3 (w side n a c b)(hs:side<4)(h:V5 w a b)(hl:b.length<=10):
  x5 z7 214 #[O G (side:Nat),O G (n:Nat),z4 a b.length c] w fun e w'=>(∃v,e=z9 v/\w'.ownsRow w.heap.size 215 4 v (Vu side n b).length (Vp (Vu side n b)))/\F0 w w':=by
 have HA:=Za h;obtain⟨N,R⟩:=ad b.length;have S:=Za R;have f0:N<=10:=az;have T:=Za hs;rw[R];clear h hl R;go_enter func214,ntmps214;go_wp2
 go_loopg [7,9,12] N (fun m ov _ iv wr=>∃k,k<=N/\m=N-k/\iv=O G (k:Nat)/\y5 (wr.ownsRow w.heap.size 215 4 ov (Vu side n (b.take k)).length (Vp (Vu side n (b.take k))))/\y5 (F0 w wr))
 case atStart=>exact⟨0,az,rfl,rfl,oZ _ _ _ _,Zo⟩
 obtain⟨k,hk,rfl,rfl,C,r⟩:=hrel;by_cases g0:k<N
 ·have W:=af k N;obtain⟨oa,oc,ho⟩:=oL C.o;subst ho;obtain⟨y,f⟩:=ad (Vu side n (b.take k)).length
  have i0:y<=10:=by rw[<-f];have h1:=GH side n (b.take k);rw[k7]at h1;omega
  have D:=Za f;rw[f]at C;rw[f];have X:=gE (show k<b.length by have:=S.o;omega);obtain⟨h0,g,o,ea,E⟩:=(HA.o.fr r.o) k _ X;have F:=Za (Ap (side:=side) (n:=n) X);generalize b[k]'(aj S.o)=e at*;subst ea;obtain⟨A,i,j,l,p⟩:=e;have H0:=Za h0;have c0:wr.cell? ⟨g,o+k*4,V⟩=U (z4 i.a A.s0.length i.c):=E 0 _ rfl;have c1:wr.cell? ⟨g,o+k*4+1,V⟩=U (z4 j.a A.s1.length j.c):=E 1 _ rfl;have c2:wr.cell? ⟨g,o+k*4+2,V⟩=U (z4 l.a A.s2.length l.c):=E 2 _ rfl;have c3:wr.cell? ⟨g,o+k*4+3,V⟩=U (z4 p.a A.s3.length p.c):=E 3 _ rfl;obtain⟨s,d⟩:=WM wr (z8 #[z4 i.a A.s0.length i.c,z4 j.a A.s1.length j.c,z4 l.a A.s2.length l.c,z4 p.a A.s3.length p.c] 215);clear E X h0 f;go_upto_region 5 with fail;clear c0 c1 c2 c3;have H:=Za (oF C.o s.o);have I:=Za (r.o.trans s.o);have Y:y5 (Oz _ A i j l p):=Za (H0.o.fr s.o);generalize wr.alloc _=w1 at*;obtain⟨Q,Z⟩:=ad wr.heap.size;rw[Z]at d;rw[Z];clear Z s C r H0;obtain⟨y0,y1,y2,y3⟩:=au d.o;go_wp2_with fail;refine(xe w1 A i j l p side n _ _ Y.o T.o rfl rfl).mono ?_;rintro e w5 ⟨rfl,t⟩;have z:=Za (I.o.trans t);have B:=Za (oF H.o t);have u:=Za (t.whole d.o);clear t y0 y1 y2 y3 I H d
  cases K:XI A side n with
  |true=>
   have HC:y5 (Vu side n (b.take (k+1))=Vu side n (b.take k)++[⟨A,i,j,l,p⟩]):=by show _=_;rw[F.o];simp[K]
   obtain⟨y0,y1,y2,y3⟩:=au u.o;clear K
   go_wp2_with (at_builtin;refine ao w.heap.size Qq underlying217 (z4 oa y oc) y (Vp (Vu side n (b.take k))) ?h1 ⟨w5.heap.size,0,V⟩ [z4 i.a A.s0.length i.c,z4 j.a A.s1.length j.c,z4 l.a A.s2.length l.c,z4 p.a A.s3.length p.c] ?h2 ?_ (k4:=?h6))
   case h1=>exact B.o.alloc _
   case h2=>exact k8 (aN w5 (z8 #[z4 i.a A.s0.length i.c,z4 j.a A.s1.length j.c,z4 l.a A.s2.length l.c,z4 p.a A.s3.length p.c] 215))
   case h6=>have:=z.o.size;simp;omega
   intro g2 J w8 x q a0 _;have b0:=Za ((z.o.alloc _).grown q (fun k hk=>y7 (B.o.lt k hk).1))
   have d0:y5 (w8.ownsRow w.heap.size 215 4 (z4 (U ⟨g2,0,V⟩) (y+1) J) (Vu side n (b.take (k+1))).length (Vp (Vu side n (b.take (k+1))))):=by
    rw[HC.o,Ng,lA,D.o];exact x
   clear x q a0 y0 y1 y2 y3;go_wp2;go_roundg (N-(k+1))
   case measure=>omega
   exact⟨k+1,az,rfl,aE,d0,b0⟩
  |false=>
   have e0:y5 (w5.ownsRow w.heap.size 215 4 (z4 oa y oc) (Vu side n (b.take (k+1))).length (Vp (Vu side n (b.take (k+1))))):=by
    have e:Vu side n (b.take (k+1))=Vu side n (b.take k):=by rw[F.o];simp[K]
    rw[e,D.o];exact B.o
   clear K;go_wp2;go_roundg (N-(k+1))
   case measure=>omega
   exact⟨k+1,az,rfl,aE,e0,z⟩
 have W:=ai k N
 have HE:y5 (b.take k=b):=by show _=_;rw[j6 (aj S.o)]
 go_wp2;go_ret;refine⟨⟨_,rfl,?_⟩,r.o⟩;have e:=C.o;rw[HE.o]at e;exact e
def WW (d a b:Nat):RR:=(a*10^(6-d),(b+1)*10^(6-d)-1)
def vU {k}(h:k<=6):10^k<=1000000:=Nat.pow_le_pow_right aB h
def Aq (w l m d c a n r s f t u x y z A B C D E F)(hd:d<=6)(b0:c<=a)(c0:a<1000000):
  x5 z7 173 #[F3 l m d c a n r s f t u x y z A B C D E F] w fun e w'=>e=z9 (x8 #[O G ((WW d c a).1:Nat),O G ((WW d c a).2:Nat)])/\F0 w w':=by
 obtain⟨H,I⟩:=WM w (Kh l m d c a n r s f t u x y z A B C D E F);have b:=(TL w (Kh l m d c a n r s f t u x y z A B C D E F) (z8 #[O G 0,O G 0] 118)).2.2;have i:y5 (F0 (w.alloc (Kh l m d c a n r s f t u x y z A B C D E F)) ((w.alloc (Kh l m d c a n r s f t u x y z A B C D E F)).alloc (z8 #[O G 0,O G 0] 118))):=Zo.alloc _;unfold Kh at I H b i;unfold F3;go_enter func173,ntmps173;go_upto_region 1 with fail;generalize w.alloc _=w0 at*;generalize w0.alloc _=w1 at*;have g:=o (i.o.whole I.o);have Q:=o (H.o.trans i.o);obtain⟨P,R⟩:=ad w.heap.size;have HP:=o R;rw[R]at g b;rw[R];have x2:=Zc g.o 2;have x3:=Zc g.o 3;have x4:=Zc g.o 4;obtain⟨q,L⟩:∃q,6-d=q:=⟨_,rfl⟩
 have S:(6:Int)-(d:Int)=(q:Int):=az;have T:q<=6:=az
 have U:y5 (WW d c a=(c*10^q,(a+1)*10^q-1)):=by show _=_;unfold WW;rw[L]
 go_wp2_with fail
 try rw[S]
 go_loop [3,7] (fun zv W=>∃k:Nat,k<=q/\zv=O G ((10^k:Nat):Int)/\W=O G (k:Nat)) (fun _ W=>q-(intOf W).toNat)
 case atStart=>exact⟨0,az,rfl,rfl⟩
 obtain⟨k,hk,rfl,rfl⟩:=hrel;by_cases d0:k<q
 ·have X:=af k q
  obtain⟨Z,h⟩:∃Z,10^k=Z:=⟨_,rfl⟩
  have j:Z<=1000000:=by rw[<-h];exact vU az
  rw[h];go_wp2_with fail;exact⟨⟨k+1,az,by rw[Nat.pow_succ,h];simp,aE⟩,by simp[intOf];omega⟩
 have X:=ai k q;have Y:q=k:=az
 subst Y;obtain⟨Z,h⟩:∃Z,10^q=Z:=⟨_,rfl⟩
 have j:Z<=1000000:=by rw[<-h];exact vU T
 have a0:0<Z:=by rw[<-h];exact Nat.pow_pos aB
 rw[h]at U;rw[h];have m1:c*Z<=1000000*1000000:=p6 az j;have m2:(a+1)*Z<=1000000*1000000:=p6 az j;have m3:1<=(a+1)*Z:=Nat.mul_pos az a0;have i1:(c:Int)*(Z:Int)=((c*Z:Nat):Int):=aA;have i2:((a:Int)+1)*(Z:Int)=(((a+1)*Z:Nat):Int):=aA;obtain⟨M1,J⟩:=ad (c*Z);obtain⟨N,K⟩:=ad ((a+1)*Z);rw[J,K]at U;rw[J]at m1 i1;rw[K]at m2 m3 i2;obtain⟨f0,f1⟩:=ap b.o;have z0:=bF b.o;go_wp2_with fail;have i3:((N:Int)-1)=((N-1:Nat):Int):=az;rw[i3];have e1:=heap_setCell_same w1 (P+1) 0 _ _ (O G (M1:Nat)) b.o;have e2:=heap_setCell_same _ (P+1) 1 _ _ (O G ((N-1:Nat):Int)) e1;obtain⟨s0,s1⟩:=ap e2;have L:w.heap.size<=P+1:=aj HP.o;rw[U.o];refine bodyPost_ret (v:=x8 #[O G (M1:Nat),O G ((N-1:Nat):Int)]) (by simp[results,results173,go_sem,s0,s1]) rfl ⟨rfl,?_⟩;exact(Q.o.setCell (p:=⟨P+1,0,V⟩) (y7 L) _).setCell (p:=⟨P+1,1,V⟩) (y7 L) _
def Yp (l:List Nat)(a:Nat):List RR:=if l=[]then[(0,a)]else l.map fun n=>(n,n)
def Qr (l:List RR):List x7:=l.flatMap fun s=>[O G (s.1:Nat),O G (s.2:Nat)]
def E4 (l s):Qr (l++[s])=Qr l++[O G (s.1:Nat),O G (s.2:Nat)]:=by simp[Qr]
def KB:(z7.info? 118).map (fun i=>(i.zero,i.size,i.bytes))=U (U (x8 #[O G 0,O G 0]),2,16):=n
def CG (w:y8)(a b):(w.alloc (z8 #[O G (a:Nat),O G (b:Nat)] 118)).ownsRow w.heap.size 118 2 (z4 (U ⟨w.heap.size,0,V⟩) 1 1) 1 [O G (a:Nat),O G (b:Nat)]:=
 ⟨rfl,.inr ⟨w.heap.size,1,#[O G (a:Nat),O G (b:Nat)],rfl,j5 _,aN w _,j5 _,by unfold maxLen;simp,y,y⟩⟩
def E5 (w a c l b)(h:Zv w a l)(hl:l.length<=4000):
  x5 z7 174 #[z4 a l.length c,O G (b:Nat)] w fun e C=>(∃v,e=z9 v/\C.ownsRow w.heap.size 118 2 v (Yp l b).length (Qr (Yp l b)))/\F0 w C:=by
 by_cases x:l=[]
 ·subst x;have j:=o (CG w 0 b);have K:=(WM w (z8 #[O G (0:Nat),O G (b:Nat)] 118)).1
  show x5 _ _ #[z4 a 0 c,_] _ _
  go_enter func174,ntmps174;go_wp2;go_ret;exact⟨⟨_,rfl,j.o⟩,K.o⟩
 obtain⟨N,D⟩:=ad l.length
 have L:((N:Int)==0)=false:=by
  have:l.length≠0:=fun e=>x (v7 e)
  simp;omega
 have q:=o D;have M:=o h;have P:N<=4000:=az
 have Q:y5 (Yp l b=l.map fun n=>(n,n)):=by show _=_;unfold Yp;rw[if_neg x]
 rw[D];go_enter func174,ntmps174;go_wp2
 go_loopg [5,7,16] N (fun m R _ S wr=>∃k,k<=N/\m=N-k/\S=O G (k:Nat)/\y5 (wr.ownsRow w.heap.size 118 2 R k (Qr ((l.take k).map fun n=>(n,n))))/\y5 (F0 w wr))
 case atStart=>exact⟨0,az,rfl,rfl,oZ _ _ _ _,Zo⟩
 obtain⟨k,E,rfl,rfl,j,d⟩:=hrel;obtain⟨T,W,X⟩:=oL j.o;subst X;by_cases Y:k<N
 ·have z:=af k N;have F:=gE (show k<l.length by have:=q.o;omega);obtain⟨g,Z,H⟩:=M.o k _ F
  have HT:y5 (l.take (k+1)=l.take k++[l[k]'(aj q.o)]):=by show _=_;rw[v4,F];rfl
  generalize l[k]'(aj q.o)=y at*;subst Z;have a0:=(d.o.cell (p:=⟨g,k,V⟩) (bL w _ H)).trans H
  go_wp2_with (at_builtin;refine ao w.heap.size KB underlying213 (z4 T k W) k (Qr ((l.take k).map fun n=>(n,n))) ?h1 ⟨wr.heap.size,0,V⟩ [O G (y:Nat),O G (y:Nat)] ?h2 ?_ (k4:=?h6))
  case h1=>exact j.o.alloc _
  case h2=>exact k8 (aN wr (z8 #[O G (y:Nat),O G (y:Nat)] 118))
  case h6=>have:=d.o.size;simp;omega
  intro g2 r w8 f i b0 _;have A:=o ((d.o.alloc _).grown i (fun k E=>y7 (j.o.lt k E).1))
  have B:y5 (w8.ownsRow w.heap.size 118 2 (z4 (U ⟨g2,0,V⟩) (k+1) r) (k+1) (Qr ((l.take (k+1)).map fun n=>(n,n)))):=by
   rw[HT.o,List.map_append,List.map_singleton,E4];rw[<-List.map_take]at f;exact f
  go_wp2;go_roundg (N-(k+1))
  case measure=>omega
  exact⟨k+1,az,rfl,aE,B,A⟩
 have z:=ai k N;have ek:k=N:=az;subst ek;go_wp2;go_ret;refine⟨⟨_,rfl,?_⟩,d.o⟩;have e:=j.o;rw[j6 (aj q.o)]at e;rw[Q.o,g8,q.o];exact e
def st1 (a:Nat)(Yv:RR)(es:List Tq):List Nat:=Yv.1::es.flatMap fun e=>YJ Yv (e.A.at a)
def Y5 (side:Nat)(Yv:List RR)(es:List Tq):List Nat:=Yv.flatMap fun s=>st1 side s es
def xi (a Yv){es:List Tq}{k e}(h:es[k]?=U e):st1 a Yv (es.take (k+1))=st1 a Yv (es.take k)++YJ Yv (e.A.at a):=by
 rw[v4,h];simp[st1]
def E6 (a){Yv:List RR}{es k s}(h:Yv[k]?=U s):Y5 a (Yv.take (k+1)) es=Y5 a (Yv.take k) es++st1 a s es:=by
 rw[v4,h];simp[Y5]
def CH (a Yv):∀es:List Tq,(∀e,e∈es->(e.A.at a).length<=10)->(st1 a Yv es).length<=1+20*es.length:=by
 intro es
 induction es with
 |nil=>intro _;simp[st1]
 |cons e r b=>
  intro h;have d:=b (fun x c=>h x (by simp[c]));have f:=RT Yv (e.A.at a);have g:=h e y;simp only[st1,b9,k5,b7]at*;omega
def Jo (a:List Nat):List Int:=a.map fun n:Nat=>(n:Int)
def Jp {w d g n cap f}(h:w.ownsRow d 3 1 (z4 (U ⟨g,0,V⟩) n cap) n (Zg f)):Sort.Holds (p7 G) w g 0 (Jo f).toArray/\n<=cap/\g<w.heap.size/\f.length=n/\d<=g:=by
 obtain⟨i,l⟩:=h
 have p:f.length=n:=by simpa[Zg]using i
 rcases l with⟨l,_⟩|⟨z,m,q,e,r,a,s,o,t,u⟩
 ·cases l
 injection e with k A v;injection k with k;injection k with k;subst k v;refine⟨fun j x=>⟨?_,bF a _⟩,s,(iA.1 a).1,p,r⟩
 have b:j<f.length:=by simpa[Jo]using x
 have c:(q.toList.take (n*1))[j]?=U (O G ((f[j]'b:Nat):Int)):=by
  rw[u];simp[Zg,b]
 rw[List.getElem?_take]at c
 split at c
 ·rw[j7]
  have y:(Jo f).toArray[j]! =((f[j]'b:Nat):Int):=by simp[Jo,b]
  rw[y];exact bC a j _ (by simpa using c)
 cases c
def Jq {w g off n d os}:Fr (fun k=>k=g) w (Sort.grow (Sort.putRow (p7 G) (Sort.ahead w n) g off d) os):=by
 refine⟨rfl,rfl,rfl,y,fun k a b=>?_⟩;rw[Sort.heap_grow_old _ _ (by simpa using a)];unfold Sort.putRow Sort.mapBlock;simp[Array.getElem?_modify,show¬g=k from fun e=>b e.symm]
def OA (a:List Nat):List Int:=Lib.compact ((Jo a).mergeSort fun x y=>decide (x<=y))
def xm {w a g n cap b}(h:w.ownsRow a 3 1 (z4 (U ⟨g,0,V⟩) n cap) n (Zg b))(m:n<=100000):
  x5 z7 243 #[z4 (U ⟨g,0,V⟩) n cap] w fun e d=>e=z9 (.tuple #[])/\Sort.Holds (p7 G) d g 0 ((Jo b).mergeSort fun x y=>decide (x<=y)).toArray/\Fr (fun k=>k=g) w d:=by
 obtain⟨f,o,i,j,_⟩:=Jp h
 have l:(Jo b).length=n:=by simp[Jo,j]
 have c:=Tryz.slices_Sort_int g 0 cap (Jo b) w f i z;rw[l]at c;refine c.mono ?_;rintro e d ⟨rfl,q,p,rfl⟩;refine⟨rfl,Sort.holds_grow _ _ _ _ _ _ (by simpa using i) (Sort.holds_putRow _ _ _ _ _ _ (Sort.holds_ahead _ _ q _ _ _ f) aA),Jq⟩
def GI {w g n cap a}(h:Sort.Holds (p7 G) w g 0 a.toArray)(l:a.length=n)(r:n<=cap)(s:n<=100000):
  x5 z7 244 #[z4 (U ⟨g,0,V⟩) n cap] w fun e b=>e=z9 (z4 (U ⟨g,0,V⟩) (Lib.compact a).length cap)/\(∀j x,(Lib.compact a)[j]?=U x->b.cell? ⟨g,j,V⟩=U (O G x))/\Fr (fun k=>k=g) w b:=by
 have c:=Tryz.slices_Compact_int g 0 cap a w h z z;rw[l]at c;refine c.mono ?_;rintro e b ⟨rfl,q,rfl⟩;have m:=Lib.compact_length_le a;have o:=Sort.holds_putRow (p7 G) (Sort.ahead w q) g 0 a.toArray (Lib.compact a++r7 (n-(Lib.compact a).length) 0).toArray (Sort.holds_ahead _ _ q _ _ _ h) aF;refine⟨rfl,fun j x i=>?_,?_⟩
 ·have p:=(iG.1 i).1;have e:=(o j aF).1;rw[j7]at e;rw[e]
  congr 2
  rw[getElem!_def];simp only[p4,List.getElem?_append,p,if_true,i]
 have f:=Jq (w:=w) (g:=g) (off:=0) (n:=q) (d:=(Lib.compact a++r7 (n-(Lib.compact a).length) 0).toArray) (os:=#[]);rw[Sort.grow_empty]at f;exact f
def Lj {P w}{o:Oper}{a K Q}(s x t)(g:o.op=.call {callee:=.builtin .append,args:=#[s,x],argTypes:=#[t,t]})(b e i c)(j:P.underlying t=U (.slice e))(k:P.info? e=U i)(v n f)(l:a.eval s=v)(d:w.ownsRow b e c v n f)(m:a.eval x=.slice V 0 0)(h:K (a.put o.dst v) w):o.wp P a w K Q:=by
 unfold Oper.wp execOp;simp only[g,resolve,invoke,builtin,Sem.run_bind,Sem.run_pure,Result.andThen_ok,List.map_toArray,List.map_cons,List.map_nil,l,m,run_append_owned_none w b t o.type e i c j k v n f d];exact h
def OB (a:Nat)(es:List Tq)(h:∀e,e∈es->(e.A.at a).length<=10):∀l:List RR,(Y5 a l es).length<=(1+20*es.length)*l.length
 |[]=>by simp[Y5]
 |s::r=>by
  have b:=OB a es h r;have c:=CH a s es h;simp only[Y5,b9,b7,k5,Nat.mul_add,h8]at*;omega
def E7 (b):∀u∈Zg b,u.oneCell'=true:=by
 intro u a;simp only[Zg,j8]at a;obtain⟨n,_,rfl⟩:=a;rfl
def Lk (a):(Zg a).length=a.length:=by simp[Zg]
def Ll (a b):Zg (a++b)=Zg a++Zg b:=by simp[Zg]
def Tq.at {w}{e:Tq}(h:e.ok w)(k):R9 w (GF e.x0 e.x1 e.x2 e.x3 k).a (e.A.at k):=Oz.at h k
def ND (d:Array Int):∀m x,x∈Lib.compactUpTo d m↔∃j,j<m/\x=d[j]! :=by
 intro m
 induction m with
 |zero=>intro x;simp[Lib.compactUpTo]
 |succ m c=>
  intro x;rw[Lib.compactUpTo_succ,j9,c]
  constructor
  ·rintro(⟨j,f,rfl⟩|h)
   ·exact⟨j,z,rfl⟩
   split at h
   ·exact⟨m,z,by simpa using h⟩
   cases h
  rintro⟨j,f,rfl⟩;by_cases a:j<m
  ·exact j0 ⟨j,a,rfl⟩
  have e:j=m:=z;subst e
  cases b:Lib.keeps d j with
  |true=>exact y7 y
  |false=>
   refine j0 ⟨j-1,?_,?_⟩
   ·have:j≠0:=fun e=>by subst e;simp[Lib.keeps]at b
    omega
   simp[Lib.keeps]at b;exact b.2
def Nh (b)(x:Int):x∈Lib.compact b↔x∈b:=by
 unfold Lib.compact;rw[ND]
 constructor
 ·rintro⟨j,a,rfl⟩;simp[a]
 intro h;obtain⟨j,a,rfl⟩:=n3.1 h;exact⟨j,a,by simp[a]⟩
def SD (a:List Nat):List Nat:=(OA a).map Int.toNat
def Lm {b x}(h:x∈OA b):∃n,n∈b/\x=(n:Nat):=by
 have a:=(Nh _ _).1 h;rw[n7]at a;simp only[Jo,j8]at a;obtain⟨n,c,rfl⟩:=a;exact⟨n,c,rfl⟩
def Ar (a):OA a=Jo (SD a):=by
 unfold Jo SD;rw[List.map_map]
 conv=>lhs;rw[<-List.map_id (OA a)]
 refine List.map_congr_left fun x b=>?_
 obtain⟨n,_,rfl⟩:=Lm b;simp
def Ln (a n):n∈SD a↔n∈a:=by
 constructor
 ·intro h;simp only[SD,j8]at h;obtain⟨x,b,rfl⟩:=h;obtain⟨k,c,rfl⟩:=Lm b
  simpa using c
 intro h;simp only[SD,j8];refine⟨(n:Int),?_,y⟩;unfold OA;rw[Nh,n7];simp only[Jo,j8];exact⟨n,h,rfl⟩
def E8 (a):(SD a).length<=a.length:=by
 unfold SD OA;rw[g8];have h:=Lib.compact_length_le ((Jo a).mergeSort fun x y=>decide (x<=y));rw[m7]at h
 simpa[Jo]using h
def E9 (n:Nat):Code->Option (List Oper)
 | .region i c _=>if i=n then U c.toList else V
 | .seq a b=>match E9 n a with
  |some l=>U l
  |none=>E9 n b
 |_=>V
def rN (f:Func):List Oper:=(f.body.bind (E9 1)).getD []
def SS (a w:y8)(v:x7)(l:List RR):Prop:=w.ownsRow a.heap.size 118 2 v l.length (Qr l)
def SS.fr {w0 w w' v l}(h:SS w0 w v l)(a:F0 w w'):SS w0 w' v l:=oF h a
def SS.one {a w:y8}(c)(h:a.heap.size<=w.heap.size):SS a (w.alloc (z8 #[O G (c.1:Nat),O G (c.2:Nat)] 118)) (z4 (U ⟨w.heap.size,0,V⟩) 1 1) [c]:=oS (CG w c.1 c.2) h
def SS.set {m w v l a k n u}(h:SS m w v l)(o:w.heap[a]?=U (z8 n 215)):SS m (w.setCell ⟨a,k,V⟩ u) v l:=by
 obtain⟨q,b⟩:=h;refine⟨q,?_⟩;rcases b with b|⟨g,c,d,e,f,i,r⟩
 ·exact j0 b
 refine y7 ⟨g,c,d,e,f,?_,r⟩
 have j:g≠a:=by
  rintro rfl;rw[o]at i;simp at i
 exact((Fr.refl (fun k=>k=a) w).setCell (p:=⟨a,k,V⟩) (j0 rfl) u).whole i j
abbrev cV (c:RR):x7:=x8 #[O G (c.1:Nat),O G (c.2:Nat)]
abbrev mV:x7:=x8 #[O G 0,O G 1000000000]
structure qv where
 Q:Exit->Act->y8->Prop
 S:y8->Prop
 w0:y8
 v0:x7
 vm:x7
 vc:x7
 p:x7
 r:x7
 p5:x7
 p9:x7
 c:RR
 l9:List RR
 l14:List RR
 s:∀W,F0 w0 W->S W
 f5:∀W,F0 w0 W->x5 z7 173 #[v0] W fun e w'=>e=z9 (cV c)/\F0 W w'
 f9:∀W,F0 w0 W->x5 z7 174 #[vm,O G 9999] W fun e w'=>(∃v,e=z9 v/\SS w0 w' v l9)/\F0 W w'
 f14:∀W,F0 w0 W->x5 z7 174 #[vc,O G 999] W fun e w'=>(∃v,e=z9 v/\SS w0 w' v l14)/\F0 W w'
 pan:∀c a d v w,Q (.panic c) (Act.put a d v) w->Q (.panic c) a w
 fin:∀b3 x6 x9 x11 x14 w,w0.heap.size<=b3->w.heap[b3]?=U (z8 #[x6,x9,x11,x14] 215)->SS w0 w x6 [c]->SS w0 w x9 l9->SS w0 w x11 [(0,1000000000)]->SS w0 w x14 l14->F0 w0 w->Q .normal ⟨#[v0,p,r,(y4 (U ⟨b3,0,V⟩)),v0,(cV c),x6,p5,vm,x9,mV,x11,p9,vc,x14,(x8 #[x6,x9,x11,x14]),undef,undef,undef,undef,undef,undef,undef],[]⟩ w
abbrev pF (X:qv)(d e f g a b c:x7):Act:=⟨#[X.v0,X.p,X.r,d,X.v0,e,f,X.p5,X.vm,g,mV,a,X.p9,X.vc,b,c,undef,undef,undef,undef,undef,undef,undef],[]⟩
abbrev pG (d e f g a b c:Bool):Array Bool:=#[true,d,e,true,true,f,true,g,true,true,a,b,c,false]
def sG (a w:y8)(l:List RR):Bool->x7->Prop
 |true,v=>SS a w v l
 |false,v=>v=undef
def sG.fr {w0 w w' l b v}(h:sG w0 w l b v)(a:F0 w w'):sG w0 w' l b v:=by
 cases b
 ·exact h
 exact SS.fr h a
def pU (a w:y8):Bool->x7->Prop
 |true,x=>∃b,x=y4 (U ⟨b,0,V⟩)/\a.heap.size<=b/\w.heap[b]?=U (z8 #[z4 V 0 0,z4 V 0 0,z4 V 0 0,z4 V 0 0] 215)
 |false,x=>x=undef
structure Jr (X:qv)(w:y8)(f2 f5 f7 f10 f12:Bool)(x3 x6 x9 x11 x14:x7):Prop where
 f:F0 X.w0 w
 h3:pU X.w0 w f12 x3
 h6:sG X.w0 w [X.c] f2 x6
 h9:sG X.w0 w X.l9 f5 x9
 h11:sG X.w0 w [(0,1000000000)] f7 x11
 h14:sG X.w0 w X.l14 f10 x14
section
set_option linter.defProp false
set_option maxRecDepth 30000
set_option maxHeartbeats 2000000
variable {X:qv} {w w':y8} {v:x7} {f2 f5 f7 f10 f12:Bool} {x3 x6 x9 x11 x14:x7} {L:Array Bool} {a:Act}
def Jr.fr (h:Jr X w f2 f5 f7 f10 f12 x3 x6 x9 x11 x14)(a:F0 w w'):Jr X w' f2 f5 f7 f10 f12 x3 x6 x9 x11 x14:=by
 refine⟨h.f.trans a,?_,h.h6.fr a,h.h9.fr a,h.h11.fr a,h.h14.fr a⟩;have c:=h.h3
 cases f12
 ·exact c
 obtain⟨b,d,e,g⟩:=c;exact⟨b,d,e,a.whole g⟩
def Jr.s2 (h:Jr X w f2 f5 f7 f10 f12 x3 x6 x9 x11 x14):Jr X (w.alloc (z8 #[O G (X.c.1:Nat),O G (X.c.2:Nat)] 118)) true f5 f7 f10 f12 x3 (z4 (U ⟨w.heap.size,0,V⟩) 1 1) x9 x11 x14:=by
 have g:=h.fr ((Fr.refl (fun _=>False) w).alloc (z8 #[O G (X.c.1:Nat),O G (X.c.2:Nat)] 118));exact⟨g.f,g.h3,SS.one X.c h.f.size,g.h9,g.h11,g.h14⟩
def Jr.s7 (h:Jr X w f2 f5 f7 f10 f12 x3 x6 x9 x11 x14):Jr X (w.alloc (z8 #[O G 0,O G 1000000000] 118)) f2 f5 true f10 f12 x3 x6 x9 (z4 (U ⟨w.heap.size,0,V⟩) 1 1) x14:=by
 have g:=h.fr ((Fr.refl (fun _=>False) w).alloc (z8 #[O G 0,O G 1000000000] 118));exact⟨g.f,g.h3,g.h6,g.h9,SS.one (0,1000000000) h.f.size,g.h14⟩
def Jr.s12 (h:Jr X w f2 f5 f7 f10 f12 x3 x6 x9 x11 x14):Jr X (w.alloc (z8 #[z4 V 0 0,z4 V 0 0,z4 V 0 0,z4 V 0 0] 215)) f2 f5 f7 f10 true (y4 (U ⟨w.heap.size,0,V⟩)) x6 x9 x11 x14:=by
 have g:=h.fr ((Fr.refl (fun _=>False) w).alloc (z8 #[z4 V 0 0,z4 V 0 0,z4 V 0 0,z4 V 0 0] 215));exact⟨g.f,⟨_,rfl,h.f.size,aN w _⟩,g.h6,g.h9,g.h11,g.h14⟩
def Jr.s5 (h:Jr X w f2 f5 f7 f10 f12 x3 x6 x9 x11 x14)(a:F0 w w')(b:SS X.w0 w' v X.l9):Jr X w' f2 true f7 f10 f12 x3 x6 v x11 x14:=
 have g:=h.fr a
 ⟨g.f,g.h3,g.h6,b,g.h11,g.h14⟩
def Jr.s10 (h:Jr X w f2 f5 f7 f10 f12 x3 x6 x9 x11 x14)(a:F0 w w')(b:SS X.w0 w' v X.l14):Jr X w' f2 f5 f7 true f12 x3 x6 x9 x11 v:=
 have g:=h.fr a
 ⟨g.f,g.h3,g.h6,g.h9,g.h11,b⟩
def P7 (X:qv)(n:Nat)(g h i j b d:Bool):Prop:=∀w k l m e f L a,y5 (Jr X w h i j b d k l m e f)->L=pG g h i j b false d->a=pF X k (bif g then cV X.c else undef) l m e f undef->wpAnyH z7 .any (rN f114).toArray X.Q X.S n L a w
def pH (H:y5 (Jr X w true true true true true x3 x6 x9 x11 x14))(x:L=pG true true true true true true true)(y:a=pF X x3 (cV X.c) x6 x9 x11 x14 (x8 #[x6,x9,x11,x14])):
  wpAnyH z7 .any (rN f114).toArray X.Q X.S 1 L a w:=by
 subst x y;obtain⟨b,rfl,z,d⟩:=H.o.h3;obtain⟨q,r,rfl⟩:=oL H.o.h6;obtain⟨t,u,rfl⟩:=oL H.o.h9;obtain⟨e,g,rfl⟩:=oL H.o.h11;obtain⟨h,i,rfl⟩:=oL H.o.h14;have j:=o d;have k:=o z;obtain⟨g0,g1,g2,g3⟩:=au d;have C:=bF d;refine WI 13 (fun K A=>?_);go_simp;have l:=heap_setCell_same w b 0 _ _ (z4 q [X.c].length r) j.o;have m:=heap_setCell_same _ b 1 _ _ (z4 t X.l9.length u) l;have n:=heap_setCell_same _ b 2 _ _ (z4 e [((0,1000000000):RR)].length g) m;have B:=heap_setCell_same _ b 3 _ _ (z4 h X.l14.length i) n;have v:=(((H.o.f.setCell (p:=⟨b,0,V⟩) (y7 k.o) (z4 q [X.c].length r)).setCell (p:=⟨b,1,V⟩) (y7 k.o) (z4 t X.l9.length u)).setCell (p:=⟨b,2,V⟩) (y7 k.o) (z4 e [((0,1000000000):RR)].length g)).setCell (p:=⟨b,3,V⟩) (y7 k.o) (z4 h X.l14.length i);refine A.out _ _ (X.s _ v) (fun _=>?_);refine wpAnyH_done aC ?_ _;exact X.fin b _ _ _ _ _ k.o B ((((SS.set H.o.h6 j.o).set l).set m).set n) ((((SS.set H.o.h9 j.o).set l).set m).set n) ((((SS.set H.o.h11 j.o).set l).set m).set n) ((((SS.set H.o.h14 j.o).set l).set m).set n) v
def V6:P7 X 2 true true true true true true:=by
 intro w m n p b d L a H e g;subst e g;obtain⟨q,t,rfl⟩:=oL H.o.h6;obtain⟨u,x,rfl⟩:=oL H.o.h9;obtain⟨i,j,rfl⟩:=oL H.o.h11;obtain⟨k,l,rfl⟩:=oL H.o.h14;refine TY 11 (v:=?v) rfl aC aC aC (fun c a w h=>X.pan c a _ _ w h) rfl ?y (X.s _ H.o.f) ?r
 case y=>rintro w z;go_simp;with_reducible rfl
 try go_frame
 exact pH H rfl rfl
def V7:P7 X 3 true true true true false true:=by
 intro w l m n c d L a H g h;subst g h;refine XA [10] ?_;refine Zb rfl (fun K i=>?_) y6
 all_goals
  try rw[if_pos aD]
  go_simp
 ·exact(X.f14 _ H.o.f).mono fun e p ⟨⟨v,j,k⟩,b⟩=>by subst j;exact i.out _ _ (X.s _ (H.o.fr b).f) fun _=>V6 _ _ _ _ _ _ _ _ (o (H.o.s10 b k)) rfl rfl
def UH:P7 X 3 true false true true true true:=by
 intro w h i j b c L a H d e;subst d e;refine XA [2] ?_;refine Zb rfl (fun K g=>?_) y6
 all_goals
  try rw[if_pos aD]
  go_simp
 ·exact g.out _ _ (X.s _ H.o.s2.f) fun _=>V6 _ _ _ _ _ _ _ _ (o H.o.s2) rfl rfl
def Te:P7 X 3 true true true true true false:=by
 intro w n p q b d L a H e g;subst e g;obtain⟨t,u,rfl⟩:=oL H.o.h6;obtain⟨x,z,rfl⟩:=oL H.o.h9;obtain⟨i,j,rfl⟩:=oL H.o.h11;obtain⟨k,l,rfl⟩:=oL H.o.h14;refine TY 11 (v:=?v) rfl aC aC aC (fun c a w h=>X.pan c a _ _ w h) rfl ?y (X.s _ H.o.f) ?r
 case y=>rintro w A;go_simp;with_reducible rfl
 try go_frame
 refine WI 12 (fun K m=>?_);go_simp
 exact m.out _ _ (X.s _ H.o.s12.f) fun _=>pH (o H.o.s12) rfl rfl
def UI:P7 X 3 true true true false true true:=by
 intro w h i j b c L a H d e;subst d e;refine XA [7] ?_;refine Zb rfl (fun K g=>?_) y6
 all_goals
  try rw[if_pos aD]
  go_simp
 ·exact g.out _ _ (X.s _ H.o.s7.f) fun _=>V6 _ _ _ _ _ _ _ _ (o H.o.s7) rfl rfl
def SE:P7 X 4 true true false true false true:=by
 intro w l m n c d L a H g h;subst g h;refine XA [5] ?_;refine Zb rfl (fun K i=>?_) y6
 all_goals
  try rw[if_pos aD]
  go_simp
 ·exact(X.f9 _ H.o.f).mono fun e p ⟨⟨v,j,k⟩,b⟩=>by subst j;exact i.out _ _ (X.s _ (H.o.fr b).f) fun _=>V7 _ _ _ _ _ _ _ _ (o (H.o.s5 b k)) rfl rfl
def SF:P7 X 4 true false true true false true:=by
 intro w l m n d g L a H h i;subst h i;refine XA [2,10] ?_;refine Zb rfl (fun K b=>?_) (Zb rfl (fun K b=>?_) y6)
 all_goals
  try rw[if_pos aD]
  go_simp
 ·exact b.out _ _ (X.s _ H.o.s2.f) fun _=>V7 _ _ _ _ _ _ _ _ (o H.o.s2) rfl rfl
 exact(X.f14 _ H.o.f).mono fun e p ⟨⟨v,j,k⟩,c⟩=>by subst j;exact b.out _ _ (X.s _ (H.o.fr c).f) fun _=>UH _ _ _ _ _ _ _ _ (o (H.o.s10 c k)) rfl rfl
def Rw:P7 X 4 true true true true false false:=by
 intro w l m n d g L a H h i;subst h i;refine XA [10,12] ?_;refine Zb rfl (fun K b=>?_) (Zb rfl (fun K b=>?_) y6)
 all_goals
  try rw[if_pos aD]
  go_simp
 ·exact(X.f14 _ H.o.f).mono fun e p ⟨⟨v,j,k⟩,c⟩=>by subst j;exact b.out _ _ (X.s _ (H.o.fr c).f) fun _=>Te _ _ _ _ _ _ _ _ (o (H.o.s10 c k)) rfl rfl
 exact b.out _ _ (X.s _ H.o.s12.f) fun _=>V7 _ _ _ _ _ _ _ _ (o H.o.s12) rfl rfl
def SG:P7 X 4 true true true false false true:=by
 intro w l m n d g L a H h i;subst h i;refine XA [7,10] ?_;refine Zb rfl (fun K b=>?_) (Zb rfl (fun K b=>?_) y6)
 all_goals
  try rw[if_pos aD]
  go_simp
 ·exact b.out _ _ (X.s _ H.o.s7.f) fun _=>V7 _ _ _ _ _ _ _ _ (o H.o.s7) rfl rfl
 exact(X.f14 _ H.o.f).mono fun e p ⟨⟨v,j,k⟩,c⟩=>by subst j;exact b.out _ _ (X.s _ (H.o.fr c).f) fun _=>UI _ _ _ _ _ _ _ _ (o (H.o.s10 c k)) rfl rfl
def PO:P7 X 4 true false true true true false:=by
 intro w h i j c d L a H e g;subst e g;refine XA [2,12] ?_;refine Zb rfl (fun K b=>?_) (Zb rfl (fun K b=>?_) y6)
 all_goals
  try rw[if_pos aD]
  go_simp
 ·exact b.out _ _ (X.s _ H.o.s2.f) fun _=>Te _ _ _ _ _ _ _ _ (o H.o.s2) rfl rfl
 exact b.out _ _ (X.s _ H.o.s12.f) fun _=>UH _ _ _ _ _ _ _ _ (o H.o.s12) rfl rfl
def Qs:P7 X 4 true false true false true true:=by
 intro w h i j c d L a H e g;subst e g;refine XA [2,7] ?_;refine Zb rfl (fun K b=>?_) (Zb rfl (fun K b=>?_) y6)
 all_goals
  try rw[if_pos aD]
  go_simp
 ·exact b.out _ _ (X.s _ H.o.s2.f) fun _=>UI _ _ _ _ _ _ _ _ (o H.o.s2) rfl rfl
 exact b.out _ _ (X.s _ H.o.s7.f) fun _=>UH _ _ _ _ _ _ _ _ (o H.o.s7) rfl rfl
def PP:P7 X 4 true true true false true false:=by
 intro w h i j c d L a H e g;subst e g;refine XA [7,12] ?_;refine Zb rfl (fun K b=>?_) (Zb rfl (fun K b=>?_) y6)
 all_goals
  try rw[if_pos aD]
  go_simp
 ·exact b.out _ _ (X.s _ H.o.s7.f) fun _=>Te _ _ _ _ _ _ _ _ (o H.o.s7) rfl rfl
 exact b.out _ _ (X.s _ H.o.s12.f) fun _=>UI _ _ _ _ _ _ _ _ (o H.o.s12) rfl rfl
def QS:P7 X 5 true false false true false true:=by
 intro w l m n d g L a H h i;subst h i;refine XA [2,5] ?_;refine Zb rfl (fun K b=>?_) (Zb rfl (fun K b=>?_) y6)
 all_goals
  try rw[if_pos aD]
  go_simp
 ·exact b.out _ _ (X.s _ H.o.s2.f) fun _=>SE _ _ _ _ _ _ _ _ (o H.o.s2) rfl rfl
 exact(X.f9 _ H.o.f).mono fun e p ⟨⟨v,j,k⟩,c⟩=>by subst j;exact b.out _ _ (X.s _ (H.o.fr c).f) fun _=>SF _ _ _ _ _ _ _ _ (o (H.o.s5 c k)) rfl rfl
def Js:P7 X 5 true true false true false false:=by
 intro w l m n d g L a H h i;subst h i;refine XA [5,12] ?_;refine Zb rfl (fun K b=>?_) (Zb rfl (fun K b=>?_) y6)
 all_goals
  try rw[if_pos aD]
  go_simp
 ·exact(X.f9 _ H.o.f).mono fun e p ⟨⟨v,j,k⟩,c⟩=>by subst j;exact b.out _ _ (X.s _ (H.o.fr c).f) fun _=>Rw _ _ _ _ _ _ _ _ (o (H.o.s5 c k)) rfl rfl
 exact b.out _ _ (X.s _ H.o.s12.f) fun _=>SE _ _ _ _ _ _ _ _ (o H.o.s12) rfl rfl
def Lo:P7 X 5 true true false false false true:=by
 intro w l m n d g L a H h i;subst h i;refine XA [5,7] ?_;refine Zb rfl (fun K b=>?_) (Zb rfl (fun K b=>?_) y6)
 all_goals
  try rw[if_pos aD]
  go_simp
 ·exact(X.f9 _ H.o.f).mono fun e p ⟨⟨v,j,k⟩,c⟩=>by subst j;exact b.out _ _ (X.s _ (H.o.fr c).f) fun _=>SG _ _ _ _ _ _ _ _ (o (H.o.s5 c k)) rfl rfl
 exact b.out _ _ (X.s _ H.o.s7.f) fun _=>SE _ _ _ _ _ _ _ _ (o H.o.s7) rfl rfl
def Jt:P7 X 5 true false true true false false:=by
 intro w l m n d g L a H h i;subst h i;refine XA [2,10,12] ?_;refine Zb rfl (fun K b=>?_) (Zb rfl (fun K b=>?_) (Zb rfl (fun K b=>?_) y6))
 all_goals
  try rw[if_pos aD]
  go_simp
 ·exact b.out _ _ (X.s _ H.o.s2.f) fun _=>Rw _ _ _ _ _ _ _ _ (o H.o.s2) rfl rfl
 ·exact(X.f14 _ H.o.f).mono fun e p ⟨⟨v,j,k⟩,c⟩=>by subst j;exact b.out _ _ (X.s _ (H.o.fr c).f) fun _=>PO _ _ _ _ _ _ _ _ (o (H.o.s10 c k)) rfl rfl
 exact b.out _ _ (X.s _ H.o.s12.f) fun _=>SF _ _ _ _ _ _ _ _ (o H.o.s12) rfl rfl
def Lp:P7 X 5 true false true false false true:=by
 intro w l m n d g L a H h i;subst h i;refine XA [2,7,10] ?_;refine Zb rfl (fun K b=>?_) (Zb rfl (fun K b=>?_) (Zb rfl (fun K b=>?_) y6))
 all_goals
  try rw[if_pos aD]
  go_simp
 ·exact b.out _ _ (X.s _ H.o.s2.f) fun _=>SG _ _ _ _ _ _ _ _ (o H.o.s2) rfl rfl
 ·exact b.out _ _ (X.s _ H.o.s7.f) fun _=>SF _ _ _ _ _ _ _ _ (o H.o.s7) rfl rfl
 exact(X.f14 _ H.o.f).mono fun e p ⟨⟨v,j,k⟩,c⟩=>by subst j;exact b.out _ _ (X.s _ (H.o.fr c).f) fun _=>Qs _ _ _ _ _ _ _ _ (o (H.o.s10 c k)) rfl rfl
def Ju:P7 X 5 true true true false false false:=by
 intro w l m n d g L a H h i;subst h i;refine XA [7,10,12] ?_;refine Zb rfl (fun K b=>?_) (Zb rfl (fun K b=>?_) (Zb rfl (fun K b=>?_) y6))
 all_goals
  try rw[if_pos aD]
  go_simp
 ·exact b.out _ _ (X.s _ H.o.s7.f) fun _=>Rw _ _ _ _ _ _ _ _ (o H.o.s7) rfl rfl
 ·exact(X.f14 _ H.o.f).mono fun e p ⟨⟨v,j,k⟩,c⟩=>by subst j;exact b.out _ _ (X.s _ (H.o.fr c).f) fun _=>PP _ _ _ _ _ _ _ _ (o (H.o.s10 c k)) rfl rfl
 exact b.out _ _ (X.s _ H.o.s12.f) fun _=>SG _ _ _ _ _ _ _ _ (o H.o.s12) rfl rfl
def Da:P7 X 5 true false true false true false:=by
 intro w h i j c d L a H e g;subst e g;refine XA [2,7,12] ?_;refine Zb rfl (fun K b=>?_) (Zb rfl (fun K b=>?_) (Zb rfl (fun K b=>?_) y6))
 all_goals
  try rw[if_pos aD]
  go_simp
 ·exact b.out _ _ (X.s _ H.o.s2.f) fun _=>PP _ _ _ _ _ _ _ _ (o H.o.s2) rfl rfl
 ·exact b.out _ _ (X.s _ H.o.s7.f) fun _=>PO _ _ _ _ _ _ _ _ (o H.o.s7) rfl rfl
 exact b.out _ _ (X.s _ H.o.s12.f) fun _=>Qs _ _ _ _ _ _ _ _ (o H.o.s12) rfl rfl
def GJ:P7 X 6 false false false true false true:=by
 intro w k l m c d L a H g h;subst g h;refine XA [1] ?_;refine Zb rfl (fun K i=>?_) y6
 all_goals
  try rw[if_pos aD]
  go_simp
 ·exact(X.f5 _ H.o.f).mono fun e n ⟨j,b⟩=>by subst j;exact i.out _ _ (X.s _ (H.o.fr b).f) fun _=>QS _ _ _ _ _ _ _ _ (o (H.o.fr b)) rfl rfl
def CI:P7 X 6 true false false true false false:=by
 intro w l m n d g L a H h i;subst h i;refine XA [2,5,12] ?_;refine Zb rfl (fun K b=>?_) (Zb rfl (fun K b=>?_) (Zb rfl (fun K b=>?_) y6))
 all_goals
  try rw[if_pos aD]
  go_simp
 ·exact b.out _ _ (X.s _ H.o.s2.f) fun _=>Js _ _ _ _ _ _ _ _ (o H.o.s2) rfl rfl
 ·exact(X.f9 _ H.o.f).mono fun e p ⟨⟨v,j,k⟩,c⟩=>by subst j;exact b.out _ _ (X.s _ (H.o.fr c).f) fun _=>Jt _ _ _ _ _ _ _ _ (o (H.o.s5 c k)) rfl rfl
 exact b.out _ _ (X.s _ H.o.s12.f) fun _=>QS _ _ _ _ _ _ _ _ (o H.o.s12) rfl rfl
def GK:P7 X 6 true false false false false true:=by
 intro w l m n d g L a H h i;subst h i;refine XA [2,5,7] ?_;refine Zb rfl (fun K b=>?_) (Zb rfl (fun K b=>?_) (Zb rfl (fun K b=>?_) y6))
 all_goals
  try rw[if_pos aD]
  go_simp
 ·exact b.out _ _ (X.s _ H.o.s2.f) fun _=>Lo _ _ _ _ _ _ _ _ (o H.o.s2) rfl rfl
 ·exact(X.f9 _ H.o.f).mono fun e p ⟨⟨v,j,k⟩,c⟩=>by subst j;exact b.out _ _ (X.s _ (H.o.fr c).f) fun _=>Lp _ _ _ _ _ _ _ _ (o (H.o.s5 c k)) rfl rfl
 exact b.out _ _ (X.s _ H.o.s7.f) fun _=>QS _ _ _ _ _ _ _ _ (o H.o.s7) rfl rfl
def vV:P7 X 6 true true false false false false:=by
 intro w l m n d g L a H h i;subst h i;refine XA [5,7,12] ?_;refine Zb rfl (fun K b=>?_) (Zb rfl (fun K b=>?_) (Zb rfl (fun K b=>?_) y6))
 all_goals
  try rw[if_pos aD]
  go_simp
 ·exact(X.f9 _ H.o.f).mono fun e p ⟨⟨v,j,k⟩,c⟩=>by subst j;exact b.out _ _ (X.s _ (H.o.fr c).f) fun _=>Ju _ _ _ _ _ _ _ _ (o (H.o.s5 c k)) rfl rfl
 ·exact b.out _ _ (X.s _ H.o.s7.f) fun _=>Js _ _ _ _ _ _ _ _ (o H.o.s7) rfl rfl
 exact b.out _ _ (X.s _ H.o.s12.f) fun _=>Lo _ _ _ _ _ _ _ _ (o H.o.s12) rfl rfl
def vW:P7 X 6 true false true false false false:=by
 intro w l m n d g L a H h i;subst h i;refine XA [2,7,10,12] ?_;refine Zb rfl (fun K b=>?_) (Zb rfl (fun K b=>?_) (Zb rfl (fun K b=>?_) (Zb rfl (fun K b=>?_) y6)))
 all_goals
  try rw[if_pos aD]
  go_simp
 ·exact b.out _ _ (X.s _ H.o.s2.f) fun _=>Ju _ _ _ _ _ _ _ _ (o H.o.s2) rfl rfl
 ·exact b.out _ _ (X.s _ H.o.s7.f) fun _=>Jt _ _ _ _ _ _ _ _ (o H.o.s7) rfl rfl
 ·exact(X.f14 _ H.o.f).mono fun e p ⟨⟨v,j,k⟩,c⟩=>by subst j;exact b.out _ _ (X.s _ (H.o.fr c).f) fun _=>Da _ _ _ _ _ _ _ _ (o (H.o.s10 c k)) rfl rfl
 exact b.out _ _ (X.s _ H.o.s12.f) fun _=>Lp _ _ _ _ _ _ _ _ (o H.o.s12) rfl rfl
def rO:P7 X 7 false false false true false false:=by
 intro w k l m d g L a H h i;subst h i;refine XA [1,12] ?_;refine Zb rfl (fun K b=>?_) (Zb rfl (fun K b=>?_) y6)
 all_goals
  try rw[if_pos aD]
  go_simp
 ·exact(X.f5 _ H.o.f).mono fun e n ⟨j,c⟩=>by subst j;exact b.out _ _ (X.s _ (H.o.fr c).f) fun _=>CI _ _ _ _ _ _ _ _ (o (H.o.fr c)) rfl rfl
 exact b.out _ _ (X.s _ H.o.s12.f) fun _=>GJ _ _ _ _ _ _ _ _ (o H.o.s12) rfl rfl
def sI:P7 X 7 false false false false false true:=by
 intro w k l m d g L a H h i;subst h i;refine XA [1,7] ?_;refine Zb rfl (fun K b=>?_) (Zb rfl (fun K b=>?_) y6)
 all_goals
  try rw[if_pos aD]
  go_simp
 ·exact(X.f5 _ H.o.f).mono fun e n ⟨j,c⟩=>by subst j;exact b.out _ _ (X.s _ (H.o.fr c).f) fun _=>GK _ _ _ _ _ _ _ _ (o (H.o.fr c)) rfl rfl
 exact b.out _ _ (X.s _ H.o.s7.f) fun _=>GJ _ _ _ _ _ _ _ _ (o H.o.s7) rfl rfl
def rP:P7 X 7 true false false false false false:=by
 intro w l m n d g L a H h i;subst h i;refine XA [2,5,7,12] ?_;refine Zb rfl (fun K b=>?_) (Zb rfl (fun K b=>?_) (Zb rfl (fun K b=>?_) (Zb rfl (fun K b=>?_) y6)))
 all_goals
  try rw[if_pos aD]
  go_simp
 ·exact b.out _ _ (X.s _ H.o.s2.f) fun _=>vV _ _ _ _ _ _ _ _ (o H.o.s2) rfl rfl
 ·exact(X.f9 _ H.o.f).mono fun e p ⟨⟨v,j,k⟩,c⟩=>by subst j;exact b.out _ _ (X.s _ (H.o.fr c).f) fun _=>vW _ _ _ _ _ _ _ _ (o (H.o.s5 c k)) rfl rfl
 ·exact b.out _ _ (X.s _ H.o.s7.f) fun _=>CI _ _ _ _ _ _ _ _ (o H.o.s7) rfl rfl
 exact b.out _ _ (X.s _ H.o.s12.f) fun _=>GK _ _ _ _ _ _ _ _ (o H.o.s12) rfl rfl
def pV:P7 X 8 false false false false false false:=by
 intro w k l m d g L a H h i;subst h i;refine XA [1,7,12] ?_;refine Zb rfl (fun K b=>?_) (Zb rfl (fun K b=>?_) (Zb rfl (fun K b=>?_) y6))
 all_goals
  try rw[if_pos aD]
  go_simp
 ·exact(X.f5 _ H.o.f).mono fun e n ⟨j,c⟩=>by subst j;exact b.out _ _ (X.s _ (H.o.fr c).f) fun _=>rP _ _ _ _ _ _ _ _ (o (H.o.fr c)) rfl rfl
 ·exact b.out _ _ (X.s _ H.o.s7.f) fun _=>rO _ _ _ _ _ _ _ _ (o H.o.s7) rfl rfl
 exact b.out _ _ (X.s _ H.o.s12.f) fun _=>sI _ _ _ _ _ _ _ _ (o H.o.s12) rfl rfl
end
def SS.at {w0 w a n c l}(h:SS w0 w (z4 a n c) l):R9 w a l:=by
 intro k s b;have q:=(iG.1 b).1;obtain⟨g,cap,e,t,_⟩:=b8.form h z;injection e with d f i;subst d f i;have j:=b8.cellAt h (2*k) z;have c1:=b8.cellAt h (2*k+1) z
 have r:∀(l:List RR)(k:Nat)(s:RR),l[k]?=U s->(Qr l)[2*k]?=U (O G (s.1:Nat))/\(Qr l)[2*k+1]?=U (O G (s.2:Nat)):=by
  intro l
  induction l with
  |nil=>intro k s h;simp at h
  |cons x r m=>
   intro k s h
   cases k with
   |zero=>
    simp at h;subst h;exact⟨rfl,rfl⟩
   |succ k=>
    simp at h;have e:=m k s h;rw[show 2*(k+1)=2*k+2 from z];exact e
 obtain⟨o,p⟩:=r l k s b;refine⟨g,0,rfl,?_,?_⟩
 ·rw[j7,j,o]
 rw[j7,c1,p]
def SS.new {b w a n c l}(h:SS b w (z4 a n c) l):∀g o,a=U ⟨g,o,V⟩->b.heap.size<=g/\g<w.heap.size:=by
 rintro g o rfl;rcases h.2 with⟨e,_⟩|⟨k,d,f,e,i,j,_⟩
 ·cases e
 cases e
 exact⟨i,(iA.1 j).1⟩
def TC (m n:Nat)(b c d e:F4):Prop:=∀x,x=b\/x=c\/x=d\/x=e->∀g o,x.a=U ⟨g,o,V⟩->m<=g/\g<n
def R9.frS {w c S a l}(h:R9 w a l)(d:Fr S w c)(f:∀g o,a=U ⟨g,o,V⟩->g<w.heap.size->¬S g):R9 c a l:=by
 intro k s j;obtain⟨g,o,e,i,m⟩:=h k s j;have b:=bL w _ i;exact⟨g,o,e,(d.cell (p:=⟨g,o+2*k,V⟩) b (f g o e b)).trans i,(d.cell (p:=⟨g,o+2*k+1,V⟩) b (f g o e b)).trans m⟩
def Oz.frS {w j S A b c d e}(h:Oz w A b c d e)(f:Fr S w j)(i:∀x,x=b\/x=c\/x=d\/x=e->∀g o,x.a=U ⟨g,o,V⟩->g<w.heap.size->¬S g):Oz j A b c d e:=
 ⟨h.p0.frS f (i b (.inl rfl)),h.p1.frS f (i c (.inr (.inl rfl))),h.p2.frS f (i d (.inr (.inr (.inl rfl)))),h.p3.frS f (i e (.inr (.inr (.inr rfl)))),h.few⟩
def Qt (b c d:Nat)(e:List Nat)(a:Bool)(f g:Nat)(h:List Nat):Re:=⟨[WW b c d],Yp e 9999,[if a then(f,g)else(0,1000000000)],Yp h 999⟩
def SH {l m}(h:l.length<=10):(Yp l m).length<=10:=by unfold Yp;split<;>simp[h]
def Jv {d W}(a c l b)(h:Zv d a l)(n:l.length<=4000)(j:F0 d W):
  x5 z7 174 #[z4 a l.length c,O G (b:Nat)] W fun e f=>(∃v,e=z9 v/\SS d f v (Yp l b))/\F0 W f:=by
 have o:Zv W a l:=fun k x q=>by
  obtain⟨g,e,m⟩:=h k x q;exact⟨g,e,(j.cell (p:=⟨g,k,V⟩) (bL d _ m)).trans m⟩
 refine(E5 W a c l b o n).mono ?_;rintro e f ⟨⟨v,rfl,r⟩,i⟩;exact⟨⟨v,rfl,oS r j.size⟩,i⟩
def Lq (w nm rk z C y Q T i f D E R Y j dc ch pa pn pc ah)(hd:z<=6)(I0:C<=y)(J0:y<1000000)(hm:Zv w Q i)(K0:i.length<=10)(hc:Zv w R j)(L0:j.length<=10):
  x5 z7 114 #[F3 nm rk z C y Q i.length T f D E R j.length Y dc ch pa pn pc ah] w fun e w'=>(∃x0 x1 x2 x3 A,A=Qt z C y i f D E j/\e=z9 (x8 #[Xy x0 A.s0,Xy x1 A.s1,Xy x2 A.s2,Xy x3 A.s3])/\Oz w' A x0 x1 x2 x3/\TC w.heap.size w'.heap.size x0 x1 x2 x3)/\F0 w w':=by
 obtain⟨A0,B0⟩:=WM w (Kh nm rk z C y Q i.length T f D E R j.length Y dc ch pa pn pc ah);have Z:=(TL w (Kh nm rk z C y Q i.length T f D E R j.length Y dc ch pa pn pc ah) (z8 #[z4 V 0 0,z4 V 0 0,z4 V 0 0,z4 V 0 0] 215)).2.2;have f0:y5 (F0 (w.alloc (Kh nm rk z C y Q i.length T f D E R j.length Y dc ch pa pn pc ah)) ((w.alloc (Kh nm rk z C y Q i.length T f D E R j.length Y dc ch pa pn pc ah)).alloc (z8 #[z4 V 0 0,z4 V 0 0,z4 V 0 0,z4 V 0 0] 215))):=Zo.alloc _
 have g0:y5 (∀W,x5 z7 173 #[F3 nm rk z C y Q i.length T f D E R j.length Y dc ch pa pn pc ah] W fun e w'=>e=z9 (x8 #[O G ((WW z C y).1:Nat),O G ((WW z C y).2:Nat)])/\F0 W w'):=fun W=>Aq W nm rk z C y Q i.length T f D E R j.length Y dc ch pa pn pc ah hd I0 J0
 have HM:=Za hm;have HC:=Za hc;have h0:=Za K0;have i0:=Za L0;unfold Kh at B0 A0 Z f0;unfold F3 at g0 ⊢;go_enter func114,ntmps114;go_upto_region 1 with fail;generalize w.alloc _=w0 at*;generalize w0.alloc _=w1 at*;have F:=Za (f0.o.whole B0.o);have c:=Za (A0.o.trans f0.o);obtain⟨P,hP⟩:=ad w.heap.size;have HP:=Za hP;rw[hP]at F Z;rw[hP];obtain⟨n1,l0⟩:=ad i.length;obtain⟨n2,m0⟩:=ad j.length;have M0:=Za l0;have N0:=Za m0;rw[l0,m0]at F g0;rw[l0,m0];refine wp_region_held_drew (S:=fun W=>W.heap[P]?=U (z8 #[z6 nm,O G rk,O G z,O G C,O G y,z4 Q n1 T,z5 f,O G D,O G E,z4 R n2 Y,z5 dc,z5 ch,z4 pa pn pc,O G ah] 120)) n F.o (fun hH=>?_);refine U0 0 (v:=?v0z) ?y0z hH ?r0z
 case y0z=>
  rintro w r;obtain⟨c0,c1,c2,c3,c4,c5,c6,c7,c8,c9,H,I,J,K⟩:=Z0 r;go_simp
  with_reducible rfl
 try go_frame
 refine U0 3 (v:=?v3z) ?y3z hH ?r3z
 case y3z=>
  rintro w r;obtain⟨c0,c1,c2,c3,c4,c5,c6,c7,c8,c9,H,I,J,K⟩:=Z0 r;go_simp
  with_reducible rfl
 try go_frame
 refine U0 4 (v:=?v4z) ?y4z hH ?r4z
 case y4z=>
  rintro w r;obtain⟨c0,c1,c2,c3,c4,c5,c6,c7,c8,c9,H,I,J,K⟩:=Z0 r;go_simp
  with_reducible rfl
 try go_frame
 refine U0 6 (v:=?v6z) ?y6z hH ?r6z
 case y6z=>
  rintro w r;obtain⟨c0,c1,c2,c3,c4,c5,c6,c7,c8,c9,H,I,J,K⟩:=Z0 r;go_simp
  with_reducible rfl
 try go_frame
 refine U0 8 (v:=?v8z) ?y8z hH ?r8z
 case y8z=>
  rintro w r;obtain⟨c0,c1,c2,c3,c4,c5,c6,c7,c8,c9,H,I,J,K⟩:=Z0 r;go_simp
  with_reducible rfl
 try go_frame
 refine U0 9 (v:=?v9z) ?y9z hH ?r9z
 case y9z=>
  rintro w r;obtain⟨c0,c1,c2,c3,c4,c5,c6,c7,c8,c9,H,I,J,K⟩:=Z0 r;go_simp
  with_reducible rfl
 try go_frame
 refine pV (X:=⟨_,_,w1,_,_,_,_,_,_,_,WW z C y,Yp i 9999,Yp j 999,?s,?f5,?f9,?f14,?pan,?_⟩) _ _ _ _ _ _ _ _ (Za ⟨Zo.drew,rfl,rfl,rfl,rfl,rfl⟩) rfl rfl
 case s=>exact fun W hf=>hf.whole F.o
 case f5=>exact fun W _=>g0.o W
 case f9=>
  intro W hf;rw[<-M0.o];exact Jv Q T i 9999 (HM.o.fr c.o) (aj h0.o) hf
 case f14=>
  intro W hf;rw[<-N0.o];exact Jv R Y j 999 (HC.o.fr c.o) (aj i0.o) hf
 case pan=>exact fun _ _ d _ _ h=>by cases d<;>exact h
 intro L v6 v9 T0 V0 w5 W0 O0 h6 h9 C0 D0 a0;obtain⟨y0,k0,e0⟩:=oL h6;obtain⟨y1,k1,e1⟩:=oL h9;obtain⟨y2,k2,e2⟩:=oL C0;obtain⟨y3,k3,e3⟩:=oL D0;subst e0 e1 e2 e3;have X0:P+1<w1.heap.size:=(iA.1 Z.o).1;have n0:=Za (a0.whole F.o);have a:=Za (a0.whole Z.o);have E0:=Za (c.o.trans a0);have H6:=Za h6;have H9:=Za h9;have o0:=Za C0;have b0:=Za D0;have HH:=Za O0;have P0:L≠P+1:=az;have Y0:P<=L:=az;have f6:=Zc n0.o 6;have f7:=Zc n0.o 7;have f8:=Zc n0.o 8
 cases f with
 |false=>
  obtain⟨r0,r1,r2,r3⟩:=au a.o;have z0:=bF a.o;obtain⟨q0,q1,q2,q3⟩:=au HH.o;go_wp2_with fail;have t1:=heap_setCell_same w5 (P+1) 0 _ _ (z4 y0 1 k0) a.o;have l:=heap_setCell_same _ (P+1) 1 _ _ (z4 y1 (Yp i 9999).length k1) t1;have m:=heap_setCell_same _ (P+1) 2 _ _ (z4 y2 1 k2) l;have t4:=heap_setCell_same _ (P+1) 3 _ _ (z4 y3 (Yp j 999).length k3) m;have q:w.heap.size<=P+1:=aj HP.o;have p0:=(((E0.o.setCell (p:=⟨P+1,0,V⟩) (y7 q) (z4 y0 1 k0)).setCell (p:=⟨P+1,1,V⟩) (y7 q) (z4 y1 (Yp i 9999).length k1)).setCell (p:=⟨P+1,2,V⟩) (y7 q) (z4 y2 1 k2)).setCell (p:=⟨P+1,3,V⟩) (y7 q) (z4 y3 (Yp j 999).length k3);obtain⟨r,s1,s2,s3⟩:=au t4;refine bodyPost_ret (v:=x8 #[z4 y0 1 k0,z4 y1 (Yp i 9999).length k1,z4 y2 1 k2,z4 y3 (Yp j 999).length k3]) (by simp[results,results114,go_sem,r,s1,s2,s3]) rfl ⟨⟨⟨y0,k0⟩,⟨y1,k1⟩,⟨y2,k2⟩,⟨y3,k3⟩,_,rfl,rfl,?_,?_⟩,p0⟩
  ·refine⟨?_,?_,?_,?_,fun k=>?_⟩
   ·exact((((H6.o.set a.o).set t1).set l).set m).at
   ·exact((((H9.o.set a.o).set t1).set l).set m).at
   ·exact((((o0.o.set a.o).set t1).set l).set m).at
   ·exact((((b0.o.set a.o).set t1).set l).set m).at
   unfold Qt Re.at
   split
   ·simp
   ·exact SH h0.o
   ·simp
   exact SH i0.o
  rintro x (rfl|rfl|rfl|rfl) g o e
  ·exact⟨j3 c.o.size (H6.o.new g o e).1,(SS.new ((((H6.o.set a.o).set t1).set l).set m) g o e).2⟩
  ·exact⟨j3 c.o.size (H9.o.new g o e).1,(SS.new ((((H9.o.set a.o).set t1).set l).set m) g o e).2⟩
  ·exact⟨j3 c.o.size (o0.o.new g o e).1,(SS.new ((((o0.o.set a.o).set t1).set l).set m) g o e).2⟩
  exact⟨j3 c.o.size (b0.o.new g o e).1,(SS.new ((((b0.o.set a.o).set t1).set l).set m) g o e).2⟩
 |true=>
  have G0:=(Kk w5 (z8 #[O G (D:Nat),O G (E:Nat)] 118)).1;have HA:=Za G0;have H0:=Za (SS.one (D,E) a0.size);have t:=Za (G0.whole HH.o);have p2:=Zc t.o 2;have pz:=bF t.o 2;go_upto_region 4 with fail;generalize w5.alloc _=w6 at*;obtain⟨B,hB⟩:=ad w5.heap.size;rw[hB]at H0;rw[hB];have Q0:=Za (HA.o.whole a.o);have e7:=heap_setCell_same w6 L 2 _ _ (z4 (U ⟨B,0,V⟩) 1 1) t.o;have R0:Fr (fun k=>k=L) w6 (w6.setCell ⟨L,2,V⟩ (z4 (U ⟨B,0,V⟩) 1 1)):=(Fr.refl (fun k=>k=L) w6).setCell (p:=⟨L,2,V⟩) (j0 rfl) _;have b:=Za (R0.whole Q0.o (fun e=>P0 e.symm));have S0:y5 (F0 w (w6.setCell ⟨L,2,V⟩ (z4 (U ⟨B,0,V⟩) 1 1))):=(E0.o.trans HA.o).setCell (p:=⟨L,2,V⟩) (y7 (by have:=HP.o;show _<=L;omega)) _;have t0:=Za ((H6.o.fr HA.o).set (k:=2) (u:=z4 (U ⟨B,0,V⟩) 1 1) t.o);have v0:=Za ((H9.o.fr HA.o).set (k:=2) (u:=z4 (U ⟨B,0,V⟩) 1 1) t.o);have M:=Za ((b0.o.fr HA.o).set (k:=2) (u:=z4 (U ⟨B,0,V⟩) 1 1) t.o);have N:=Za (H0.o.set (k:=2) (u:=z4 (U ⟨B,0,V⟩) 1 1) t.o);have d0:=Za e7;generalize w6.setCell ⟨L,2,V⟩ (z4 (U ⟨B,0,V⟩) 1 1)=w7 at*;obtain⟨r0,r1,r2,r3⟩:=au b.o;have z0:=bF b.o;obtain⟨q0,q1,q2,q3⟩:=au d0.o;go_wp2_with fail;have t1:=heap_setCell_same w7 (P+1) 0 _ _ (z4 y0 1 k0) b.o;have l:=heap_setCell_same _ (P+1) 1 _ _ (z4 y1 (Yp i 9999).length k1) t1;have m:=heap_setCell_same _ (P+1) 2 _ _ (z4 (U ⟨B,0,V⟩) 1 1) l;have t4:=heap_setCell_same _ (P+1) 3 _ _ (z4 y3 (Yp j 999).length k3) m;have q:w.heap.size<=P+1:=aj HP.o;have p0:=(((S0.o.setCell (p:=⟨P+1,0,V⟩) (y7 q) (z4 y0 1 k0)).setCell (p:=⟨P+1,1,V⟩) (y7 q) (z4 y1 (Yp i 9999).length k1)).setCell (p:=⟨P+1,2,V⟩) (y7 q) (z4 (U ⟨B,0,V⟩) 1 1)).setCell (p:=⟨P+1,3,V⟩) (y7 q) (z4 y3 (Yp j 999).length k3);obtain⟨r,s1,s2,s3⟩:=au t4;refine bodyPost_ret (v:=x8 #[z4 y0 1 k0,z4 y1 (Yp i 9999).length k1,z4 (U ⟨B,0,V⟩) 1 1,z4 y3 (Yp j 999).length k3]) (by simp[results,results114,go_sem,r,s1,s2,s3]) rfl ⟨⟨⟨y0,k0⟩,⟨y1,k1⟩,⟨U ⟨B,0,V⟩,1⟩,⟨y3,k3⟩,_,rfl,rfl,?_,?_⟩,p0⟩
  ·refine⟨?_,?_,?_,?_,fun k=>?_⟩
   ·exact((((t0.o.set b.o).set t1).set l).set m).at
   ·exact((((v0.o.set b.o).set t1).set l).set m).at
   ·exact((((N.o.set b.o).set t1).set l).set m).at
   ·exact((((M.o.set b.o).set t1).set l).set m).at
   unfold Qt Re.at
   split
   ·simp
   ·exact SH h0.o
   ·simp
   exact SH i0.o
  rintro x (rfl|rfl|rfl|rfl) g o e
  ·exact⟨j3 c.o.size (t0.o.new g o e).1,(SS.new ((((t0.o.set b.o).set t1).set l).set m) g o e).2⟩
  ·exact⟨j3 c.o.size (v0.o.new g o e).1,(SS.new ((((v0.o.set b.o).set t1).set l).set m) g o e).2⟩
  ·exact⟨j3 c.o.size (N.o.new g o e).1,(SS.new ((((N.o.set b.o).set t1).set l).set m) g o e).2⟩
  exact⟨j3 c.o.size (M.o.new g o e).1,(SS.new ((((M.o.set b.o).set t1).set l).set m) g o e).2⟩
def XJ (side:Nat)(A:Re)(es:List Tq):List Nat:=SD (Y5 side (A.at side) es)
def CJ {g n c q}(h:g≠q):∀k,(v5 (U ⟨g,0,V⟩) n c).ownBlock=U k->k≠q:=by
 intro k a
 have e:g=k:=by simpa[Value.ownBlock]using a
 rw[<-e];exact h
def Db (w b A x0 x1 x2 x3 a c es)(hs:b<4)(h:Oz w A x0 x1 x2 x3)(G0:A.at b≠[])(he:V5 w a es)(hl:es.length<=10)(hb:∀e,e∈es->∀s,s∈e.A.at b->s.1<=10000000000/\s.2<=10000000000):
  x5 z7 213 #[O G (b:Nat),x8 #[Xy x0 A.s0,Xy x1 A.s1,Xy x2 A.s2,Xy x3 A.s3],z4 a es.length c] w fun e w'=>(∃g cap,w.heap.size<=g/\e=z9 (z4 (U ⟨g,0,V⟩) (XJ b A es).length cap)/\∀j n,(XJ b A es)[j]?=U n->w'.cell? ⟨g,j,V⟩=U (O G (n:Nat)))/\F0 w w':=by
 obtain⟨ii,hi,H0,I0,J0⟩:=info_parts Y9;have HE:=Za he;have HB:=Za hb;have hc:=Iy (t:=215) (aN w (z8 (RS A x0 x1 x2 x3) 215)) hs;have K0:=(WM w (z8 #[Xy x0 A.s0,Xy x1 A.s1,Xy x2 A.s2,Xy x3 A.s3] 215)).1;unfold RS at hc;obtain⟨l,I⟩:=ad (A.at b);obtain⟨x,hx⟩:=ad (GF x0 x1 x2 x3 b)
 have HS:y5 (R9 w x.a l):=by have e:=h.at b;rw[I,hx]at e;exact e
 have HV:y5 (XJ b A es=SD (Y5 b l es)):=by show _=_;unfold XJ;rw[I]
 have L0:y5 (l.length<=10):=by have e:=h.few b;rw[I]at e;exact e
 have M0:=Za hl
 have n0:y5 (∀e,e∈es->(e.A.at b).length<=10):=fun e hm=>by
  obtain⟨k,E,rfl⟩:=n3.1 hm;exact(he k _ (gE E)).1.few b
 have a1:y5 (0<l.length):=by rw[I]at G0;exact List.length_pos_iff.2 G0
 rw[I,hx]at hc;have N0:(b:Int)<4:=az;unfold Xy at hc K0 ⊢;obtain⟨M,hM⟩:=ad es.length;have HM:=Za hM;have K1:M<=10:=az;rw[hM];go_enter func213,ntmps213;go_wp2_with fail;obtain⟨N,hN⟩:=ad l.length;rw[hN]at hc ⊢;have HN:=Za hN;have L1:N<=10:=aj L0.o
 go_loopg [7,9,11,16] N (fun m ov _ _ iv wr=>∃k,k<=N/\m=N-k/\iv=O G (k:Nat)/\y5 (wr.ownsRow w.heap.size 3 1 ov (Y5 b (l.take k) es).length (Zg (Y5 b (l.take k) es)))/\y5 (F0 w wr))
 case atStart=>exact⟨0,az,rfl,rfl,oZ _ _ _ _,K0⟩
 obtain⟨k,E,rfl,rfl,HO,o0⟩:=hrel;obtain⟨oa,oc,ho⟩:=oL HO.o;subst ho;obtain⟨X,Y⟩:=ad (Y5 b (l.take k) es).length
 have N1:X<=2010:=by
  rw[<-Y];have h1:=OB b es n0.o (l.take k)
  have h2:(l.take k).length<=10:=by rw[k7];have:=L0.o;omega
  have h3:=p6 (show 1+20*es.length<=201 by have:=M0.o;omega) h2;omega
 have Z:=Za Y;rw[Y]at HO;rw[Y];by_cases O0:k<N
 ·have N0:=af k N;have hx:=gE (show k<l.length by have:=HN.o;omega);obtain⟨g,o,ea,h1,h2⟩:=(HS.o.fr o0.o) k _ hx;have b1:=Za (E6 b (es:=es) hx);generalize l[k]'(aj HN.o)=s at*;obtain⟨f,d⟩:=s
  dsimp only at h1 h2
  obtain⟨xa,xc⟩:=x
  dsimp only at ea
  subst ea;rw[show o+2*k=o+k*2 from az]at h1;rw[show o+2*k+1=o+k*2+1 from az]at h2;obtain⟨C,J⟩:=WM wr (z8 #[O G (f:Int),O G (d:Int)] 118)
  have p0:y5 (∀k,(v5 oa X oc).ownBlock=U k->k≠wr.heap.size):=fun k E=>aj (HO.o.lt k E).2
  go_upto_region 5 with fail;generalize wr.alloc _=w1 at*;obtain⟨q,hq⟩:=ad wr.heap.size;have HQ:=Za hq;rw[hq]at J p0;rw[hq];obtain⟨z0,z1⟩:=ap J.o;have P0:=Za (o0.o.trans C.o);have F:=Za (oF HO.o C.o)
  go_wp2_with (at_builtin;refine ao w.heap.size Y9 underlying25 (z4 oa X oc) X (Zg (Y5 b (l.take k) es)) ?h1 ⟨w1.heap.size,0,V⟩ [O G (f:Nat)] ?h2 ?_ (k4:=?h6))
  case h1=>exact F.o.alloc _
  try case h2=>exact k8 (aN w1 (z8 #[O G (f:Nat)] 3))
  case h6=>have:=P0.o.size;simp;omega
  intro g2 Q0 w8 K z q0 _;have d1:=Za ((P0.o.alloc _).grown z (fun k E=>y7 (F.o.lt k E).1));have f1:=Za ((((Fr.refl (fun k=>(v5 oa X oc).ownBlock=U k) w1).alloc _).grown z (fun k E=>j0 E)).whole J.o (fun e=>p0.o q e rfl))
  have i1:y5 (w8.ownsRow w.heap.size 3 1 (z4 (U ⟨g2,0,V⟩) (X+1) Q0) (Y5 b (l.take k) es++st1 b (f,d) (es.take 0)).length (Zg (Y5 b (l.take k) es++st1 b (f,d) (es.take 0)))):=by
   have e:st1 b (f,d) (es.take 0)=[f]:=by simp[st1]
   rw[e,lA,Z.o,Ll];exact K
  have j1:y5 (g2≠q):=by
   show _≠_
   rcases q0 with e|e
   ·exact p0.o g2 e
   have:=(iA.1 J.o).1;omega
  go_wp2
  go_loopg [7,11,27] M (fun m ov _ jv wq=>∃j,j<=M/\m=M-j/\jv=O G (j:Nat)/\y5 (wq.ownsRow w.heap.size 3 1 ov (Y5 b (l.take k) es++st1 b (f,d) (es.take j)).length (Zg (Y5 b (l.take k) es++st1 b (f,d) (es.take j))))/\y5 (F0 w wq)/\y5 (wq.heap[q]?=U (z8 #[O G (f:Int),O G (d:Int)] 118))/\y5 (∀k,ov.ownBlock=U k->k≠q))
  case atStart=>exact⟨0,az,rfl,rfl,i1,d1,f1,CJ j1.o⟩
  obtain⟨j,hj,rfl,rfl,P,r0,k1,Q⟩:=hrel;obtain⟨pa,pc,ho⟩:=oL P.o;subst ho;obtain⟨H,a0⟩:=ad (Y5 b (l.take k) es++st1 b (f,d) (es.take j)).length
  have O1:H<=2300:=by
   rw[<-a0,lA,Z.o];have h1:=CH b (f,d) (es.take j) (fun e he=>n0.o e (m9 he))
   have h2:(es.take j).length<=10:=by rw[k7];have:=M0.o;omega
   omega
  have t0:=Za a0;rw[a0]at P Q;rw[a0];by_cases P1:j<M
  ·have l1:=af j M;have hx:=gE (show j<es.length by have:=HM.o;omega);obtain⟨h0,ge,oe,ea,b0⟩:=(HE.o.fr r0.o) j _ hx;have v0:=Za (HB.o _ (m0 (show j<es.length by have:=HM.o;omega)));have d0:=Za (xi b (f,d) hx);generalize es[j]'(aj HM.o)=e at*;subst ea;have w0:=Za (Tq.at h0 b);have f0:=Za (h0.few b);obtain⟨D,y0,y1,y2,y3⟩:=e
   dsimp only at w0 f0 v0 d0
   have c0:wr.cell? ⟨ge,oe+j*4,V⟩=U (z4 y0.a D.s0.length y0.c):=b0 0 _ rfl;have c1:wr.cell? ⟨ge,oe+j*4+1,V⟩=U (z4 y1.a D.s1.length y1.c):=b0 1 _ rfl;have c2:wr.cell? ⟨ge,oe+j*4+2,V⟩=U (z4 y2.a D.s2.length y2.c):=b0 2 _ rfl;have c3:wr.cell? ⟨ge,oe+j*4+3,V⟩=U (z4 y3.a D.s3.length y3.c):=b0 3 _ rfl;have C:=(WM wr (z8 #[z4 y0.a D.s0.length y0.c,z4 y1.a D.s1.length y1.c,z4 y2.a D.s2.length y2.c,z4 y3.a D.s3.length y3.c] 215)).1;have R:y5 ((wr.alloc (z8 #[z4 y0.a D.s0.length y0.c,z4 y1.a D.s1.length y1.c,z4 y2.a D.s2.length y2.c,z4 y3.a D.s3.length y3.c] 215)).cell? ⟨wr.heap.size,b,V⟩=U (Xy (GF y0 y1 y2 y3 b) (D.at b))):=Iy (t:=215) (aN wr (z8 (RS D y0 y1 y2 y3) 215)) hs
   have m1:∀k,(v5 pa H pc).ownBlock=U k->k<wr.heap.size:=fun k E=>(P.o.lt k E).2
   have R0:=Za m1;go_upto_region 9 with fail;generalize wr.alloc _=w2 at*;obtain⟨r,hr⟩:=ad wr.heap.size;rw[hr]at R R0;rw[hr];have HR:=Za hr;obtain⟨L,hL⟩:=ad (D.at b);obtain⟨y,hy⟩:=ad (GF y0 y1 y2 y3 b);rw[hL,hy]at R w0;rw[hL]at f0 v0 d0;unfold Xy at R;have n1:=Za (oF P.o C.o);have g0:=Za (C.o.whole k1.o);have o1:=Za (w0.o.fr C.o);have A0:=Za (r0.o.trans C.o)
   have i0:y5 (∀W,Fr (fun k=>(v5 pa H pc).ownBlock=U k) w2 W->W.cell? ⟨q,0,V⟩=U (O G (f:Int))/\W.cell? ⟨q,1,V⟩=U (O G (d:Int))/\W.cell? ⟨r,b,V⟩=U (z4 y.a L.length y.c)):=fun W hf=>by
    have e:=hf.whole g0.o (fun e=>Q.o q e rfl);exact⟨Zc e 0,Zc e 1,(hf.cell (p:=⟨r,b,V⟩) (bL w2 _ R.o) (fun e=>aj (R0.o r e))).trans R.o⟩
   refine wp_region_held_drew (S:=fun W=>W.cell? ⟨q,0,V⟩=U (O G (f:Int))/\W.cell? ⟨q,1,V⟩=U (O G (d:Int))/\W.cell? ⟨r,b,V⟩=U (z4 y.a L.length y.c)) aC (i0.o _ Zo.drew) (fun hH=>?_)
   iterate 5 (refine Yy 0 hH ?_;try go_frame)
   refine XA [5] ?_;refine Zb rfl (fun K2 hK=>?_) y6
   try rw[if_pos aD]
   go_simp;have S0:=xh w2.drew (f,d) y L (o1.o.fr (Fr.refl (fun _=>False) w2).drew) f0.o v0.o
   dsimp only at S0
   refine S0.mono ?_;rintro e w3 ⟨⟨v,rfl,hv,p1⟩,q1⟩;have B:y5 (F0 w2 w3):=(Zo.drew).trans q1;have B0:=Za hv;have k0:=Za (oF n1.o B.o);obtain⟨va,vc,r1⟩:=oL hv;subst r1;obtain⟨m,hm⟩:=ad (YJ (f,d) L).length
   have Q1:m<=20:=by rw[<-hm];have:=RT (f,d) L;have:=f0.o;omega
   have l0:=Za hm;have T0:=Za p1;rw[hm]at B0 T0;rw[hm];refine hK.out _ _ (i0.o _ (B.o.mono (fun _ h=>h.elim))) (fun hH=>?_)
   try go_frame
   by_cases V0:m=0
   ·have e0:=T0.o V0;injection e0 with e1 e2 e3;subst e1 e3 V0;refine XA [6] ?_;refine Zb rfl (fun K2 hK=>?_) y6
    try rw[if_pos aD]
    refine Lj (.tmp 31) (.tmp 36) 25 rfl w.heap.size 3 ii 1 underlying25 hi (z4 pa H pc) H (Zg (Y5 b (l.take k) es++st1 b (f,d) (es.take j))) rfl k0.o rfl ?hz
    have T:y5 (w3.ownsRow w.heap.size 3 1 (z4 pa H pc) (Y5 b (l.take k) es++st1 b (f,d) (es.take (j+1))).length (Zg (Y5 b (l.take k) es++st1 b (f,d) (es.take (j+1))))):=by
     rw[d0.o,v7 l0.o,r4,t0.o];exact k0.o
    have C0:=Za (A0.o.trans B.o);have D0:=Za (B.o.whole g0.o);refine hK.out _ _ (i0.o _ (B.o.mono (fun _ h=>h.elim))) (fun hH=>?_)
    try go_frame
    refine ZJ 7 hH ?_
    try go_frame
    refine wpAnyH_done aC ?_ _;go_wp2;go_roundg (M-(j+1))
    case measure=>omega
    exact⟨j+1,az,rfl,aE,T,C0,D0,Q⟩
   obtain⟨g3,c3,e3,R1,M1⟩:=B0.o.form az;injection e3 with e1 e2 e4;subst e1
   have t1:∀i u,(Zg (YJ (f,d) L))[i]?=U u->w3.cell? (Addr.add ⟨g3,0,V⟩ i)=U u:=by
    intro i u hu;have O0:=(iG.1 hu).1;rw[Lk,l0.o]at O0;have e:=B0.o.cellAt i az;rw[hu]at e;rw[<-e];simp[Addr.add]
    split<;>simp[*]
   have v1:=Za t1;refine XA [6] ?_;refine Zb rfl (fun K2 hK=>?_) y6
   try rw[if_pos aD]
   refine wp_append_lies _ (.tmp 31) (.tmp 36) 25 rfl w.heap.size 3 ii _ 1 8 underlying25 hi H0 I0 J0 rfl aB (z4 pa H pc) H (Zg (Y5 b (l.take k) es++st1 b (f,d) (es.take j))) rfl k0.o ⟨g3,0,V⟩ m vc (Zg (YJ (f,d) L)) rfl ?g1 v1.o (E7 _) az ?g4 ?g5 ?g6 _ rfl ?_
   case g1=>rw[Lk,l0.o,h8]
   case g4=>unfold maxLen;omega
   case g5=>omega
   case g6=>have:=A0.o.size;have:=B.o.size;omega
   intro g4 W0 w4 K z q0 _;have X0:y5 (Fr (fun k=>(v5 pa H pc).ownBlock=U k) w2 w4):=(B.o.mono (fun _ h=>h.elim)).grown z (fun k E=>j0 E);have C0:=Za ((A0.o.trans B.o).grown z (fun k E=>y7 (k0.o.lt k E).1));have D0:=Za (X0.o.whole g0.o (fun e=>Q.o q e rfl))
   have T:y5 (w4.ownsRow w.heap.size 3 1 (z4 (U ⟨g4,0,V⟩) (H+m) W0) (Y5 b (l.take k) es++st1 b (f,d) (es.take (j+1))).length (Zg (Y5 b (l.take k) es++st1 b (f,d) (es.take (j+1))))):=by
    rw[d0.o,<-n9,Ll,lA,t0.o,l0.o];exact K
   have A1:y5 (g4≠q):=by
    show _≠_
    rcases q0 with e|e
    ·exact Q.o g4 e
    have:=(iA.1 g0.o).1;have:=B.o.size;omega
   refine hK.out _ _ (i0.o _ X0.o) (fun hH=>?_)
   try go_frame
   refine ZJ 7 hH ?_
   try go_frame
   refine wpAnyH_done aC ?_ _;go_wp2;go_roundg (M-(j+1))
   case measure=>omega
   exact⟨j+1,az,rfl,aE,T,C0,D0,CJ A1.o⟩
  have l1:=ai j M;have ej:j=M:=az
  have T:y5 (wr.ownsRow w.heap.size 3 1 (z4 pa H pc) (Y5 b (l.take (k+1)) es).length (Zg (Y5 b (l.take (k+1)) es))):=by
   have e:=P.o;rw[b1.o,show st1 b (f,d) es=st1 b (f,d) (es.take j)from by rw[j6 (aj HM.o)],t0.o];exact e
  go_wp2;go_roundg (N-(k+1))
  case measure=>omega
  exact⟨k+1,az,rfl,aE,T,r0⟩
 have N0:=ai k N;have ek:l.take k=l:=j6 (aj HN.o)
 have h0:0<X:=by
  rw[<-Z.o,ek];have hp:=a1.o
  cases l with
  |nil=>simp at hp
  |cons s r=>simp[Y5,st1]
 obtain⟨g,cap,eo,hg,S1⟩:=HO.o.form h0;injection eo with e1 e2 e3;subst e1 e3;have F:=HO;rw[ek]at F Z;obtain⟨_,Y0,_,B1,_⟩:=Jp F.o;have E0:=Za (xm F.o az);have HG:=Za hg;go_wp2_with fail;refine E0.o.mono ?_;rintro e w5 ⟨rfl,C1,D1⟩;have E1:=Za (GI (cap:=oc) C1 (show _=X by rw[m7];simpa[Jo]using B1) Y0 az);have F1:=Za (o0.o.monoNew D1 (fun i e=>y7 (aj HG.o)));go_wp2_with fail;refine E1.o.mono ?_;rintro e w6 ⟨rfl,G1,H1⟩;have I1:=Za (F1.o.monoNew H1 (fun i e=>y7 (aj HG.o)));have J1:=Za G1;go_wp2;go_ret
 have Z0:Lib.compact ((Jo (Y5 b l es)).mergeSort fun x y=>decide (x<=y))=Jo (XJ b A es):=by rw[HV.o,<-Ar];rfl
 refine⟨⟨g,oc,HG.o,?_,fun j n hj=>?_⟩,I1.o⟩
 ·rw[Z0];simp[Jo]
 refine J1.o j n ?_;rw[Z0];simp[Jo,hj]
def GL (b)(A:Re)(f g h i a n c w):
  x5 z7 172 #[O G (b:Nat),x8 #[Xy f A.s0,Xy g A.s1,Xy h A.s2,Xy i A.s3],z4 a n c] w fun e k=>e=z9 (.func (.func 212) #[] #[y4 (U ⟨w.heap.size,0,V⟩),y4 (U ⟨w.heap.size+1+1,0,V⟩),y4 (U ⟨w.heap.size+1,0,V⟩)])/\k=((w.alloc (z8 #[O G (b:Nat)] 3)).alloc (z8 #[Xy f A.s0,Xy g A.s1,Xy h A.s2,Xy i A.s3] 215)).alloc (z8 #[z4 a n c] 217):=by
 have l:∀(j:Fn)(first d:Array x7)(w:y8),(Instr.makeFunc j first d).run z7 w=.ok (.func j first d) w:=fun _ _ _ _=>rfl
 unfold Xy;go_enter func172,ntmps172;go_wp2;go_ret;exact⟨rfl,rfl⟩
structure Qb where
 p0:Nat
 p1:Nat
 p2:Nat
 p3:Nat
def Qb.set (p:Qb)(a n:Nat):Qb:=
 match a with
 |0=>{p with p0:=n}
 |1=>{p with p1:=n}
 |2=>{p with p2:=n}
 |_=>{p with p3:=n}
def Qb.at (p:Qb):Nat->Nat
 |0=>p.p0
 |1=>p.p1
 |2=>p.p2
 |_=>p.p3
def X9 (A:Re):Nat->List Tq->List (Qb×Nat)
 |0,es=>[(⟨0,0,0,0⟩,es.length)]
 |k+1,es=>(XJ (3-k) A es).flatMap fun n=>(X9 A k (Vu (3-k) n es)).map fun y=>(y.1.set (3-k) n,y.2)
def Qu (n:Nat):∀l:List Nat,(∃x,x∈l/\x<=n)->∃m,m∈l/\m<=n/\∀x,x∈l->x<=n->x<=m
 |[],h=>by obtain⟨x,a,_⟩:=h;cases a
 |y::r,h=>by
  by_cases c:∃x,x∈r/\x<=n
  ·obtain⟨m,g,i,f⟩:=Qu n r c;by_cases j:y<=n/\m<=y
   ·refine⟨y,aA,j.1,fun x a b=>?_⟩;rcases j4.1 a with rfl|a
    ·omega
    have:=f x a b;omega
   refine⟨m,by simp[g],i,fun x a b=>?_⟩;rcases j4.1 a with rfl|a
   ·omega
   exact f x a b
  obtain⟨x,a,b⟩:=h;rcases j4.1 a with rfl|a
  ·refine⟨x,aA,b,fun z d e=>?_⟩;rcases j4.1 d with rfl|d
   ·omega
   exact absurd ⟨z,d,e⟩ c
  exact absurd ⟨x,a,b⟩ c
def GM {Yv n}(h:Yv.1<=n/\n<=Yv.2):n∈Qa Yv n:=by simp[Qa,Y4,h]
def Dc {side n Yv es}(f:Y4 Yv n=true):∃m,m∈st1 side Yv es/\Y4 Yv m=true/\∀e,e∈es->XI e.A side m=XI e.A side n:=by
 simp only[Y4,j1,decide_eq_true_eq]at f;obtain⟨m,j,l,g⟩:=Qu n (st1 side Yv es) ⟨Yv.1,by simp[st1],f.1⟩;have k:=g Yv.1 (by simp[st1]) f.1;refine⟨m,j,by simp only[Y4,j1,decide_eq_true_eq];omega,fun e i=>?_⟩
 have d:∀t,t∈e.A.at side->Y4 t m=Y4 t n:=by
  intro t c
  have o:Yv.1<=t.1->t.1<=n->t.1<=m:=fun a b=>g t.1 (by
   simp only[st1,j4,q8];refine y7 ⟨e,i,?_⟩;simp only[YJ,q8]
   exact⟨t,c,by simp only[NC,j9];exact j0 (GM z)⟩) b
  have p:Yv.1<=t.2+1->t.2+1<=n->t.2+1<=m:=fun a b=>g (t.2+1) (by
   simp only[st1,j4,q8];refine y7 ⟨e,i,?_⟩;simp only[YJ,q8]
   exact⟨t,c,by simp only[NC,j9];exact y7 (GM z)⟩) b
  rw[r5];simp only[Y4,j1,decide_eq_true_eq];omega
 unfold XI;rw[r5];simp only[g9]
 constructor
 ·rintro⟨t,c,h⟩;exact⟨t,c,by rw[<-d t c];exact h⟩
 rintro⟨t,c,h⟩;exact⟨t,c,by rw[d t c];exact h⟩
def GN {side n A es}(a:XI A side n=true):∃m,m∈XJ side A es/\XI A side m=true/\∀e,e∈es->XI e.A side m=XI e.A side n:=by
 simp only[XI,g9]at a;obtain⟨Yv,b,a⟩:=a;obtain⟨m,c,d,f⟩:=Dc (side:=side) (es:=es) a;refine⟨m,?_,?_,f⟩
 ·unfold XJ;rw[Ln];simp only[Y5,q8];exact⟨Yv,b,c⟩
 simp only[XI,g9];exact⟨Yv,b,d⟩
def Au {a m A d}(f:∀s,s∈A.at a->s.1<=s.2)(h:m∈XJ a A d):XI A a m=true:=by
 unfold XJ at h;rw[Ln]at h;simp only[Y5,q8]at h;obtain⟨Yv,c,h⟩:=h;simp only[XI,g9];refine⟨Yv,c,?_⟩;simp only[st1,j4,q8]at h;rcases h with rfl|⟨e,_,h⟩
 ·have:=f Yv c;simp only[Y4,j1,decide_eq_true_eq];omega
 simp only[YJ,q8,NC,j9]at h;obtain⟨t,_,h⟩:=h
 have g:∀x,m∈Qa Yv x->Y4 Yv m=true:=by
  intro x b;unfold Qa at b
  split at b
  ·rename_i i;simp at b;subst b;exact i
  cases b
 rcases h with h|h
 ·exact g _ h
 exact g _ h
def V8 (A:Re):Nat->Qb->Bool
 |0,_=>true
 |k+1,p=>XI A (3-k) (p.at (3-k))&&V8 A k p
def Ni (p:Qb){s}(h:s<4)(n):(p.set s n).at s=n:=by
 have:s=0\/s=1\/s=2\/s=3:=z
 rcases this with rfl|rfl|rfl|rfl<;>rfl
def Iz (p:Qb){s t}(h:s<4)(d:t<4)(a:s≠t)(n):(p.set s n).at t=p.at t:=by
 have b:s=0\/s=1\/s=2\/s=3:=z;have c:t=0\/t=1\/t=2\/t=3:=z
 rcases b with rfl|rfl|rfl|rfl<;>rcases c with rfl|rfl|rfl|rfl<;>first|rfl|exact absurd rfl a
def Lr (A:Re)(p:Qb)(s n:Nat)(a:s<4):∀k,k+s<=3->V8 A k (p.set s n)=V8 A k p
 |0,_=>rfl
 |k+1,h=>by
  unfold V8;rw[Iz p a z z n,Lr A p s n a k z]
def Tf {A:Re}(c:∀b s,s∈A.at b->s.1<=s.2):∀k,k<=4->∀(a:List Tq)(y:Qb×Nat),y∈X9 A k a->V8 A k y.1=true/\y.2=(a.filter fun e=>V8 e.A k y.1).length
 |0,_,a,y,h=>by
  simp only[X9,n8]at h;subst h;refine⟨rfl,?_⟩
  show a.length=(List.filter (fun _=>true) a).length
  rw[List.filter_eq_self.2 (fun _ _=>rfl)]
 |k+1,hk,a,y,h=>by
  simp only[X9,q8,j8]at h;obtain⟨n,f,z,g,rfl⟩:=h;obtain⟨i,j⟩:=Tf c k az _ z g
  have d:∀B:Re,V8 B (k+1) (z.1.set (3-k) n)=(XI B (3-k) n&&V8 B k z.1):=fun B=>by
   conv=>lhs;unfold V8
   rw[Ni z.1 az n,Lr B z.1 (3-k) n az k az]
  refine⟨?_,?_⟩
  ·show V8 A (k+1) (z.1.set (3-k) n)=true
   rw[d,Au (c _) f,i];rfl
  show z.2=_
  rw[j];unfold Vu;rw[List.filter_filter]
  congr 1
  refine List.filter_congr fun e _=>?_
  rw[d,Bool.and_comm]
def QT {A:Re}:∀k,k<=4->∀(es:List Tq)(p:Qb),V8 A k p=true->∃y,y∈X9 A k es/\∀e,e∈es->V8 e.A k y.1=V8 e.A k p
 |0,_,es,p,_=>⟨_,n8.2 rfl,fun _ _=>rfl⟩
 |k+1,hk,es,p,h=>by
  unfold V8 at h;rw[j1]at h;obtain⟨m,b,_,c⟩:=GN (es:=es) h.1;obtain⟨z,d,f⟩:=QT k az (Vu (3-k) m es) p h.2;refine⟨(z.1.set (3-k) m,z.2),?_,fun e a=>?_⟩
  ·simp only[X9,q8,j8];exact⟨m,b,z,d,rfl⟩
  show V8 e.A (k+1) (z.1.set (3-k) m)=_
  unfold V8;rw[Ni z.1 az m,Lr e.A z.1 (3-k) m az k az,<-c e a]
  cases g:XI e.A (3-k) m with
  |false=>rfl
  |true=>
   rw[f e (by unfold Vu;rw[List.mem_filter];exact⟨a,g⟩)]
def Av {A}(g:∀a s,s∈A.at a->s.1<=s.2)(b):(∃y,y∈X9 A 4 b/\y.2=0)↔∃p,V8 A 4 p=true/\∀e,e∈b->V8 e.A 4 p=false:=by
 constructor
 ·rintro⟨y,c,i⟩;obtain⟨j,d⟩:=Tf g 4 z b y c;refine⟨y.1,j,fun e f=>?_⟩;rw[i]at d;have h:=v7 d.symm;rw[m5]at h
  simpa using h e f
 rintro⟨p,k,l⟩;obtain⟨y,c,m⟩:=QT 4 z b p k;obtain⟨_,d⟩:=Tf g 4 z b y c;refine⟨y,c,?_⟩;rw[d,m4,m5];intro e f;rw[m e f,l e f];simp
open Go.Shelf
def NR (a:List Nat):List Deferred:=a.map fun D=>{target:=.collected D,args:=#[]}
def xn (W:y8):List Nat->y8
 |[]=>W
 |D::r=>xn (W.putObj D (.deferred V)) r
def Vg {F:Fence}{n:Nat}{P:Program}{c:Func}{tmps:Array x7}{R:Ending->y8->Prop}:∀(a:List Nat)(W:y8),a.Nodup->(∀D,D∈a->W.heap[D]?=U (.deferred (U [])))->LeavesIn F n P c tmps R [] .returning (xn W a)->LeavesInM F n P c tmps R (NR a) .returning W
 |[],_,_,_,h=>h
 |D::r,W,hd,hD,h=>by
  obtain⟨d,f⟩:=List.nodup_cons.1 hd;refine⟨y,.inl ⟨D,_,rfl,run_takeDeferred (hD D y),?_⟩⟩;refine Vg r _ f (fun E b=>?_) h;exact(j2 (fun e=>d (by first|exact e▸b|exact e.symm▸b))).trans (hD E (by simp[b]))
def YK {β:Type}(M:Nat)(I:β->y8->Prop):Prop:=∀s W a,I s W->Fr (fun k=>M<=k) W a->I s a
def xo {α:Type}(S:Nat->Prop)(I:List α->y8->Prop)(b:Code->List α->y8->Prop)(a:List α)(W:y8):Exit->Act->y8->Prop
 | .normal,_,W'=>Fr S W W'/\I a W'
 | .ret,_,W'=>Fr S W W'/\b .ret a W'
 | .exit id,_,W'=>Fr S W W'/\b (.exit id) a W'
 |_,_,_=>False
def IA (B:Nat)(r:Loop)(W:y8):Prop:=W.heap[B+1]?=U (.loop r)/\W.heap[B]?=U (.deferred (U []))
def xq (B:Nat)(r:Loop)(c:Code)(W:y8):Prop:=W.heap[B+1]?=U (.loop {r with state:=.done,pending:=U c})/\W.heap[B]?=U (.deferred (U []))
def TD (S:Nat->Prop)(B:Nat):Nat->Prop:=fun k=>S k\/k=B\/k=B+1
def QU {S l W}(h:S l)(o):Fr S W (W.putObj l o):=by
 have a:=grownBy_putObj' W l o;exact⟨a.os,a.tape,a.output,a.size,fun k c b=>j2 (by rintro rfl;exact b h)⟩
def YK.put {β M I}(h:YK M I){s:β}{W l}(o)(a:I s W)(b:M<=l):I s (W.putObj l o):=h s W _ a (QU b o)
def YK.alloc {β M I}(h:YK M I){s:β}{W}(o)(a:I s W):I s (W.alloc o):=h s W _ a (Zo.alloc o)
def YK.mono {β M N}{I:β->y8->Prop}(h:YK M I)(a:M<=N):YK N I:=fun s W b c d=>h s W b c (d.mono (fun _ e=>j3 a e))
def YK.and {β M}{I K:β->y8->Prop}(h:YK M I)(k:YK M K):YK M (fun s W=>I s W/\K s W):=fun s W a b c=>⟨h s W a b.1 c,k s W a b.2 c⟩
def YK.map {β γ M I}(h:YK M I)(f:γ->β):YK M (fun(s:γ) W=>I (f s) W):=fun s W a b c=>h (f s) W a b c
def YK.pure {β M}(p:β->Prop):YK M (fun(s:β)(_:y8)=>p s):=fun _ _ _ a _=>a
def YK.fr {β M S a}(h:a.heap.size<=M):YK M (fun(_:β) W=>Fr S a W):=fun _ _ _ b c=>b.monoNew c (fun _ d=>.inr (j3 h d))
def YK.block {β M b o}(h:b<M):YK M (fun(_:β)(W:y8)=>W.heap[b]?=U o):=fun _ W _ a c=>(c.block b (iA.1 a).1 (by show¬M<=b;omega)).trans a
def IB {M:Nat}:∀(a:List Nat)(W:y8),(∀D,D∈a->M<=D)->Fr (fun k=>M<=k) W (xn W a)
 |[],W,_=>Fr.refl _ W
 |D::r,W,h=>(QU (S:=fun k=>M<=k) (h D y) _).trans (IB r _ (fun E b=>h E (by simp[b])))
def PR {S k X Y o}(h:Fr S X Y)(b:¬S k)(a:X.heap[k]?=U o):Y.heap[k]?=U o:=
 (h.block k (iA.1 a).1 b).trans a
def Aw {α P m B S r I N}{b:α->Array x7}{x d}{O:Nat->Act->y8->Prop}{W}(Q:Fence.wide.fn r.fn)(q:r.state=.ready)(A:r.pending=V)(R:(b x).size=r.params.size)(hS:∀k,S k->k<B)(hI:YK B I)(C:∀c,YK B (N c))(X:∀m l,OwnFrom B (fun(_:Unit) W=>O m l W))(L:IA B r W)(f:∀K:Act->y8->Prop,(∀l a,Fr S W a->I d a->O W.heap.size l a->K l a)->r.assign.wpIn (Fence.wide.inRound (B+1)) m P (Exit.then K (fun _ _ _=>False)) {tmps:=(r.params.zip (b x)).foldl (fun t (p,v)=>t.setIfInBounds p v) r.tmps,defers:=[]} W)(u:∀M l a,B+2<=M->I d a->O M l a->r.body.wpIn (Fence.wide.inRound (B+1)) m P (xo (fun k=>S k\/M<=k) I N (d++[x]) a) l a):
  YieldAt Fence.wide m P (B+1) (b x) W fun e a=>Fr (TD S B) W a/\((e=z9 (z5 true)/\I (d++[x]) a/\IA B r a)\/(e=z9 (z5 false)/\∃c,N c (d++[x]) a/\xq B r c a)):=by
 refine⟨r.fn,_,r.assign,r.body,run_yield L.1 R,roundIn_of_wpIn Q (f _ fun l D E Y hx=>?_)⟩
 have n1:¬S (B+1):=fun h=>aj (hS _ h)
 have n0:¬S B:=fun h=>aj (hS _ h)
 have Z:B+2<=W.heap.size:=(iA.1 L.1).1;have hl:=PR E n1 L.1;have hd:=PR E n0 L.2;have E:=E.mono (T:=TD S B) (fun k h=>.inl h);refine⟨_,run_beginRound hl q,?_⟩;have a0:=(iA.1 hl).1;have b0:(D.putObj (B+1) (.loop {r with state:=.busy})).heap[B+1]?=U (.loop {r with state:=.busy}):=m6 a0;have c0:(D.putObj (B+1) (.loop {r with state:=.busy})).heap[B]?=U (.deferred (U [])):=(j2 az).trans hd;have d0:Fr (TD S B) D (D.putObj (B+1) (.loop {r with state:=.busy})):=QU (.inr (.inr rfl)) _;refine wpIn_mono (u _ l _ Z (hI.put _ Y az) ((X _ l).putObj (s:=()) _ hx az hl rfl)) ?_;intro e a3 F y
 have w:∀j,Fr (fun k=>S k\/W.heap.size<=k) (D.putObj (B+1) (.loop {r with state:=.busy})) F->F.heap[B+1]?=U (.loop {r with state:=.busy})/\(F.putObj (B+1) j).heap[B+1]?=U j/\(F.putObj (B+1) j).heap[B]?=U (.deferred (U []))/\Fr (TD S B) W (F.putObj (B+1) j):=fun j n=>by
  have o:=PR n (by rintro(h|h);exact n1 h;omega) b0;exact⟨o,m6 (iA.1 o).1,(j2 az).trans (PR n (by rintro(h|h);exact n0 h;omega) c0),((E.trans d0).monoNew n (fun i Y=>Y.elim (fun h=>.inl (.inl h)) .inr)).trans (QU (.inr (.inr rfl)) _)⟩
 have er:({{r with state:=.busy}with state:=.ready,pending:=V}:Loop)=r:=by
  cases r
  simp at q A;subst q A;rfl
 cases e with
 |normal=>
  obtain⟨n,g⟩:=y;obtain⟨o,G,H,J⟩:=w (.loop r) n;have z:=run_endRound (P:=P) V o;simp only[Option.isNone_none,if_true,er]at z;exact⟨_,_,z,J,.inl ⟨rfl,hI.put _ g az,G,H⟩⟩
 |ret=>
  obtain⟨n,g⟩:=y;obtain⟨o,G,H,J⟩:=w (.loop {r with state:=.done,pending:=U .ret}) n;have z:=run_endRound (P:=P) (U .ret) o;exact⟨_,_,z,J,.inr ⟨rfl,.ret,(C _).put _ g az,G,H⟩⟩
 |exit id=>
  obtain⟨n,g⟩:=y;obtain⟨o,G,H,J⟩:=w (.loop {r with state:=.done,pending:=U (.exit id)}) n;have z:=run_endRound (P:=P) (U (.exit id)) o;exact⟨_,_,z,J,.inr ⟨rfl,.exit id,(C _).put _ g az,G,H⟩⟩
 |goto t=>exact y.elim
 |panic c=>exact y.elim
 |outgrown=>exact y.elim
def GO {α:Type}(P:Program)(gf:Nat)(h:Array x7)(c:α->Array x7)(S:Nat->Prop)(d:List α)(w:y8):Prop:=
 ∀(n l:Nat)(J f:List α->y8->Prop)(W:y8),Fr S w W->(∀k,S k->k<W.heap.size)->YK W.heap.size J->YK W.heap.size f->
  (∀a x g,a++[x]<+:d->J a g->YieldAt Fence.wide n P l (c x) g fun e b=>Fr S g b/\((e=z9 (z5 true)/\J (a++[x]) b)\/(e=z9 (z5 false)/\f (a++[x]) b)))->
  J [] W->CallsIn Fence.wide (n+1) P gf (#[.func (.yield l) #[] #[]]++h) W fun e b=>(∃v,e=z9 v)/\(J d b\/∃a,a<+:d/\f a b)
def CK {A B k o p}(a:Fr (fun i=>k+2<=i) A B)(h:A.heap[k+1]?=U o/\A.heap[k]?=U p):B.heap[k+1]?=U o/\B.heap[k]?=U p:=
 ⟨(a.block _ (iA.1 h.1).1 (by show¬k+2<=k+1;omega)).trans h.1,(a.block _ (iA.1 h.2).1 (by show¬k+2<=k;omega)).trans h.2⟩
def OC {α P g d assign body Q a w w0 n gf S L f z}(hg:a.eval g=.func (.func gf) #[] L)(eg:∀args w,(callFunc gf args).run P w=.ok (.enter gf args) w)(C:GO P gf L f (TD S w.heap.size) z w0)(R:Fr S w0 w)(T:∀x,(f x).size=d.size)(hS:∀k,S k->k<w.heap.size)(I N)(D:YK w.heap.size I)(l:∀c,YK w.heap.size (N c))(h0:I [] w)(X:α->Nat->Act->y8->Prop)(Y:∀x m j,OwnFrom w.heap.size (fun(_:Unit) W=>X x m j W))(i:∀b x W K,b++[x]<+:z->I b W->(∀j y,Fr S W y->I b y->X x W.heap.size j y->K j y)->assign.wpIn (Fence.wide.inRound (w.heap.size+1)) n P (Exit.then K (fun _ _ _=>False)) {tmps:=(d.zip (f x)).foldl (fun t (p,v)=>t.setIfInBounds p v) a.tmps,defers:=[]} W)(o:∀b x M j W,b++[x]<+:z->w.heap.size+2<=M->I b W->X x M j W->body.wpIn (Fence.wide.inRound (w.heap.size+1)) n P (xo (fun k=>S k\/M<=k) I N (b++[x]) W) j W)(q:∀W,I z W->W.heap[w.heap.size]?=U (.deferred (U []))->Q .normal {a with defers:={target:=.collected w.heap.size,args:=#[]}::a.defers} W)(r:∀c b W,b<+:z->N c b W->W.heap[w.heap.size]?=U (.deferred (U []))->c.wpIn Fence.wide (n+2) P Q {a with defers:={target:=.collected w.heap.size,args:=#[]}::a.defers} W):
  (Code.rangeFunc g d assign body).wpIn Fence.wide (n+2) P Q a w:=by
 refine wpIn_rangeFunc ?_;intro fn Z;obtain⟨_,hD,hL⟩:=Hc w (.deferred (U [])) (.loop {state:=.ready,pending:=V,fn,tmps:=a.tmps,params:=d,assign,body,defers:=w.heap.size});have a0:=D.alloc (.loop {state:=.ready,pending:=V,fn,tmps:=a.tmps,params:=d,assign,body,defers:=w.heap.size}) (D.alloc (.deferred (U [])) h0);have b0:Fr (TD S w.heap.size) w0 ((w.alloc (.deferred (U []))).alloc (.loop {state:=.ready,pending:=V,fn,tmps:=a.tmps,params:=d,assign,body,defers:=w.heap.size})):=((R.alloc _).alloc _).mono (fun k h=>.inl h);have E:((w.alloc (.deferred (U []))).alloc (.loop {state:=.ready,pending:=V,fn,tmps:=a.tmps,params:=d,assign,body,defers:=w.heap.size})).heap.size=w.heap.size+2:=aA;refine⟨w.heap.size+1,_,((w.alloc (.deferred (U []))).alloc (.loop {state:=.ready,pending:=V,fn,tmps:=a.tmps,params:=d,assign,body,defers:=w.heap.size})),{target:=.fn (.func gf) L,args:=#[.func (.yield (w.heap.size+1)) #[] #[]]},((w.alloc (.deferred (U []))).alloc (.loop {state:=.ready,pending:=V,fn,tmps:=a.tmps,params:=d,assign,body,defers:=w.heap.size})),gf,#[.func (.yield (w.heap.size+1)) #[] #[]]++L,((w.alloc (.deferred (U []))).alloc (.loop {state:=.ready,pending:=V,fn,tmps:=a.tmps,params:=d,assign,body,defers:=w.heap.size})),run_enterLoop_outer _ _ _ _ _,?q1,?q0,?q2,?q4,?_⟩
 case q0=>exact fun _ _=>trivial
 case q4=>intro h;cases h
 case q1=>simp only[resolve,hg];simp[go_sem]
 case q2=>simp[invoke,go_sem,eg]
 generalize(w.alloc _).alloc _=W1 at*;have hr:=C n (w.heap.size+1) (fun b W=>I b W/\IA w.heap.size {state:=.ready,pending:=V,fn,tmps:=a.tmps,params:=d,assign,body,defers:=w.heap.size} W) (fun b W=>∃c,N c b W/\xq w.heap.size {state:=.ready,pending:=V,fn,tmps:=a.tmps,params:=d,assign,body,defers:=w.heap.size} c W) W1 b0 ?k0 ?k1 ?k2 ?k3 ⟨a0,hL,hD⟩
 case k0=>
  rintro k (h|rfl|rfl)
  ·have:=hS k h;omega
  ·omega
  omega
 case k1=>
  intro s A B O u;rw[E]at u;exact⟨D s A B O.1 (u.mono (fun k hk=>by show w.heap.size<=k;omega)),CK u O.2⟩
 case k2=>
  intro s A B O u;rw[E]at u;obtain⟨c,F,G⟩:=O;exact⟨c,l c s A B F (u.mono (fun k hk=>by show w.heap.size<=k;omega)),CK u G⟩
 case k3=>
  intro b x W2 hp hJ;exact Aw Z rfl rfl (T x) hS D l (Y x) hJ.2 (fun K hK=>i b x W2 K hp hJ.1 hK) (fun M j y hM H hx=>o b x M j y hp hM H hx)
 refine hr.mono ?_;rintro e W3 ⟨⟨v,rfl⟩,(⟨H,F,G⟩|⟨b,J,c,H,F,G⟩)⟩
 ·exact⟨V,_,run_endLoop F aA,q _ (D.put _ H az) ((j2 az).trans G)⟩
 exact⟨U c,_,run_endLoop F aA,r c b _ J ((l c).put _ H az) ((j2 az).trans G)⟩
attribute [local go_sem] Oper.semAt_some
def Jw (p:Qb):x7:=x8 #[O G (p.p0:Nat),O G (p.p1:Nat),O G (p.p2:Nat),O G (p.p3:Nat)]
def Ay (y:Qb×Nat):Array x7:=#[Jw y.1,O G (y.2:Nat)]
set_option maxRecDepth 100000 in
def Az (Bs i r N c S a w)(v:∀W,Fr S w W->W.cell? ⟨Bs,0,V⟩=U (O G 4)/\W.cell? ⟨i,0,V⟩=U (z4 a N c)):
  GO z7 212 #[y4 (U ⟨Bs,0,V⟩),y4 (U ⟨i,0,V⟩),y4 (U ⟨r,0,V⟩)] Ay S [(⟨0,0,0,0⟩,N)] w:=by
 intro n l J F W x H y z A B;obtain⟨s,t⟩:=v W x;have u:=(WM W (z8 #[.func (.yield l) #[] #[]] 312)).1;refine callsIn_wide.2 ?_
 show x5 _ _ #[.func (.yield l) #[] #[],y4 (U ⟨Bs,0,V⟩),y4 (U ⟨i,0,V⟩),y4 (U ⟨r,0,V⟩)] W _
 obtain⟨C,f,b,g,d,D⟩:=A [] (⟨0,0,0,0⟩,N) (W.alloc (z8 #[.func (.yield l) #[] #[]] 312)) aA (y.alloc _ B);unfold Ay Jw at d;replace d:(Instr.yield l #[x8 #[O G 0,O G 0,O G 0,O G 0],O G (N:Nat)]).run z7 (W.alloc (z8 #[.func (.yield l) #[] #[]] 312))=.ok (.round l C f b g) (W.alloc (z8 #[.func (.yield l) #[] #[]] 312)):=d;have j:=o D;have I:=(u.o.cell (p:=⟨i,0,V⟩) (bL W _ t)).trans t;have K:=(u.o.cell (p:=⟨Bs,0,V⟩) (bL W _ s)).trans s;go_enter func212,ntmps212;go_upto_region 2 with fail;refine(wpIn_wide (n:=n+1)).1 ?_
 gi_wp2
 refine j.o.mono ?_;rintro e L ⟨E,(⟨rfl,k⟩|⟨rfl,h⟩)⟩
 ·have m:=o k
  gi_wp2
  go_wp2;refine bodyPost_ret (results_none rfl _ _ _) rfl ?_;exact⟨⟨_,rfl⟩,.inl m.o⟩
 have q:=o h
 gi_wp2
 go_wp2;refine bodyPost_ret (results_none rfl _ _ _) rfl ?_;exact⟨⟨_,rfl⟩,.inr ⟨_,aA,q.o⟩⟩
def Qv {β}{C b:Nat}{d t}:OwnFrom C (fun(_:β)(W:y8)=>W.heap[b]?=U (z8 d t)):=fun _ W j f a g h=>
 (g.block _ (iA.1 a).1 (fun e=>by obtain⟨_,o,c,i⟩:=h _ e.symm;rw[a]at c;cases c;cases i)).trans a
def Ls:∀(b:List Tq)(k:Nat)(e:Tq),b[k]?=U e->∀(j:Nat)(v:x7),(PN e)[j]?=U v->(Vp b)[k*4+j]?=U v
 |[],k,e,h=>by simp at h
 |x::r,0,e,h=>by
  simp at h;subst h;intro j v a;have c:=(iG.1 a).1
  show(PN x++Vp r)[0*4+j]?=U v
  rw[List.getElem?_append_left z,Nat.zero_mul,j7];exact a
 |x::r,k+1,e,h=>by
  intro j v a;have l:(PN x).length=4:=rfl
  show(PN x++Vp r)[(k+1)*4+j]?=U v
  rw[aR z,l,show(k+1)*4+j-4=k*4+j from z];exact Ls r k e (by simpa using h) j v a
def CL {W n v b t}(h:W.ownsRow n t 4 v b.length (Vp b))(i:∀e,e∈b->e.ok W):∃a c,v=z4 a b.length c/\V5 W a b/\∀g o,a=U ⟨g,o,V⟩->n<=g/\g<W.heap.size:=by
 by_cases q:0<b.length
 ·obtain⟨g,l,rfl,m,r⟩:=h.form q;refine⟨_,_,rfl,fun k e d=>⟨i e (mG d),g,0,rfl,fun j v s=>?_⟩,fun u o e=>?_⟩
  ·have p:=h.cells (g:=g) rfl _ _ (Ls b k e d j v s)
   have f:∀k,(⟨g,0,V⟩:Addr).add k=⟨g,k,V⟩:=fun k=>aK
   rw[f]at p;rw[j7];exact p
  cases e
  exact⟨m,r⟩
 have d:b=[]:=m4.1 z;subst d;rcases h.2 with⟨rfl,_⟩|⟨g,l,w,rfl,m,x,_⟩
 ·exact⟨V,0,rfl,fun k e d=>by simp at d,fun g o e=>by cases e⟩
 refine⟨_,_,rfl,fun k e d=>by simp at d,fun u o e=>?_⟩
 cases e
 exact⟨m,(iA.1 x).1⟩
def V5.frS {w b S a es}(h:V5 w a es)(n:Fr S w b)(q:∀g o,a=U ⟨g,o,V⟩->g<w.heap.size->¬S g)(c:∀e,e∈es->e.ok b):V5 b a es:=by
 intro k e d;obtain⟨_,g,o,f,i⟩:=h k e d;refine⟨c e (mG d),g,o,f,fun j v l=>?_⟩;have m:=bL w _ (i j v l);exact(n.cell (p:=⟨g,o+k*4+j,V⟩) m (q g o f m)).trans (i j v l)
def V5.old {w b a c}(h:V5 w a c)(d:Fr (fun k=>w.heap.size<=k) w b):V5 b a c:=by
 refine h.frS d (fun g o _ f i=>z) (fun e j=>?_);obtain⟨k,l⟩:=m8.1 j;exact(h k e l).1.frS d (fun x _ g o _ f i=>z)
structure IC (W:y8)(Bs Bo Ba side:Nat)(A:Re)(x0 x1 x2 x3:F4)(a:Option Addr)(c:Nat)(es:List Tq):Prop where
 s:W.cell? ⟨Bs,0,V⟩=U (O G (side:Nat))
 o:W.cell? ⟨Bo,0,V⟩=U (z4 a es.length c)
 a0:W.cell? ⟨Ba,0,V⟩=U (Xy x0 A.s0)
 a1:W.cell? ⟨Ba,1,V⟩=U (Xy x1 A.s1)
 a2:W.cell? ⟨Ba,2,V⟩=U (Xy x2 A.s2)
 a3:W.cell? ⟨Ba,3,V⟩=U (Xy x3 A.s3)
 ar:Oz W A x0 x1 x2 x3
 ars:V5 W a es
def I8 (a n:Nat)(y:Qb×Nat):Qb×Nat:=(y.1.set a n,y.2)
def xr (A:Re)(k:Nat)(b:List Tq)(a n:Nat):List (Qb×Nat):=(X9 A k (Vu a n b)).map (I8 a n)
def Wn (A:Re)(k:Nat)(b:List Tq)(a:Nat)(l:List Nat):List (Qb×Nat):=l.flatMap (xr A k b a)
def xt (A k a b)(h:a+k=3):X9 A (k+1) b=Wn A k b a (XJ a A b):=by
 obtain rfl:a=3-k:=z;rfl
def Dd (A k b a l n):Wn A k b a (l++[n])=Wn A k b a l++xr A k b a n:=by simp[Wn]
def Lt {A k b a}{l:List Nat}{j n}(h:l[j]?=U n):Wn A k b a (l.take (j+1))=Wn A k b a (l.take j)++xr A k b a n:=by
 rw[v4,h];exact Dd A k b a _ n
def AA {A k b a l}(j):Wn A k b a (l.take j)<+:Wn A k b a l:=by
 refine⟨Wn A k b a (l.drop j),?_⟩;unfold Wn;rw[<-List.flatMap_append,List.take_append_drop]
def Lu {A k b a l j n}(h:l[j]?=U n){pre}(c:pre<+:X9 A k (Vu a n b)):Wn A k b a (l.take j)++pre.map (I8 a n)<+:Wn A k b a l:=by
 refine List.IsPrefix.trans ?_ (AA (j+1));rw[Lt h];exact(List.prefix_append_right_inj _).2 (c.map _)
def De {W b A d f g i a c}(o:c.length<=10)(h:Oz W A d f g i)(j:V5 W a c):(XJ b A c).length<=2010:=by
 have l:∀e,e∈c->(e.A.at b).length<=10:=fun e m=>by
  obtain⟨k,n⟩:=m8.1 m;exact(j k e n).1.few b
 have p:=OB b c l (A.at b);have q:=E8 (Y5 b (A.at b) c);have r:=p6 (show 1+20*c.length<=201 by omega) (h.few b);unfold XJ;omega
def vX {W:y8}{B a b c d e t}(f:a<4)(h:W.heap[B]?=U (z8 #[b,c,d,e] t)):∃u,W.cell? ⟨B,a,V⟩=U u:=by
 have:a=0\/a=1\/a=2\/a=3:=z;rcases this with rfl|rfl|rfl|rfl
 ·exact⟨_,Zc h 0⟩
 ·exact⟨_,Zc h 1⟩
 ·exact⟨_,Zc h 2⟩
 exact⟨_,Zc h 3⟩
def sJ (p:Qb)(a n)(f:a<4)(B)(W:y8)(t)(h:W.heap[B]?=U (z8 #[O G (p.p0:Nat),O G (p.p1:Nat),O G (p.p2:Nat),O G (p.p3:Nat)] t)):
  (W.setCell ⟨B,a,V⟩ (O G (n:Nat))).cell? ⟨B,0,V⟩=U (O G ((p.set a n).p0:Nat))/\(W.setCell ⟨B,a,V⟩ (O G (n:Nat))).cell? ⟨B,1,V⟩=U (O G ((p.set a n).p1:Nat))/\(W.setCell ⟨B,a,V⟩ (O G (n:Nat))).cell? ⟨B,2,V⟩=U (O G ((p.set a n).p2:Nat))/\(W.setCell ⟨B,a,V⟩ (O G (n:Nat))).cell? ⟨B,3,V⟩=U (O G ((p.set a n).p3:Nat)):=by
 obtain⟨b,c,d,e⟩:=au h;have:a=0\/a=1\/a=2\/a=3:=z;rcases this with rfl|rfl|rfl|rfl
 ·exact⟨cS _ _ _ b,(cO _ _ _ _ y).trans c,(cO _ _ _ _ y).trans d,(cO _ _ _ _ y).trans e⟩
 ·exact⟨(cO _ _ _ _ y).trans b,cS _ _ _ c,(cO _ _ _ _ y).trans d,(cO _ _ _ _ y).trans e⟩
 ·exact⟨(cO _ _ _ _ y).trans b,(cO _ _ _ _ y).trans c,cS _ _ _ d,(cO _ _ _ _ y).trans e⟩
 exact⟨(cO _ _ _ _ y).trans b,(cO _ _ _ _ y).trans c,(cO _ _ _ _ y).trans d,cS _ _ _ e⟩
