import Derived.Test.YtccikgogjfbpeaaGreatDoorShelf
import Derived.Test.YtccikgogjfbpeaaGreatDoorZa
import Derived.Lib.ItoaMem
import Derived.Lib.AppendIntMem
import Derived.Lib.ItoaLen
open Go.Value renaming string->I,int->J,slice->H,bool->N,pointer->F,oneCell'->y8
open Go.IntKind renaming i64->P,i64->x2
open Option renaming some->S,none->V
open Go.Proofs.Tryz renaming prog->Y
open Go renaming World->Z,Calls->G,Value->C
open List renaming length_map->U,getElem?_map->O,replicate->D,take_of_length_le->R,length_cons->L,take_add_one->A,flatMap_cons->z7,map_append->y0,mem_map->x0
open Go.Ending renaming returned->K,returned->y7
open Go.RowKit renaming Hid->E
open Go.Obj renaming cells->M
open Nat renaming le_trans->Q,mul_le_mul->z0,add_mul->z8,zero_le->z9,zero_add->y9,le_refl->x1
namespace Go.Proofs.YtccikgogjfbpeaaGreatDoor
set_option maxRecDepth 30000
set_option maxHeartbeats 8000000
open Go.RowKit
def QA (w:Z):Prop:=Lib.TabIs Y w "internal/strconv.uint64pow10" .u64 Lib.pow10Tab
theorem QA.fr {w w':Z}(h:QA w)(a:F0 w w'):QA w':=Lib.tabBelow_of_tabIs h w' (a.below (x1 _) (by simp))
theorem QA.below {w w':Z}(h:QA w){B:Nat}(b:w.heap.size<=B)(a:Below B w w'):QA w':=Lib.tabBelow_of_tabIs h w' ⟨a.os,a.tape,a.output,a.size,fun k c=>a.block k (nL c b)⟩
def ZV (l:List UInt8):ByteArray:=⟨l.toArray⟩
theorem XE (l:List UInt8):(ZV l).size=l.length:=rfl
theorem RX (n:Nat)(w:Z)(f:n<=9223372036854775807)(b:QA w):G Y 106 #[J P (n:Int)] w fun e w'=>e=K (I (ZV (Z6 n)))/\F0 w w':=
 (Tryz.strconv_Itoa (n:Int) (by omega) (by omega) w b).mono fun e w' ⟨a,k,os,c⟩=>by
  rw[Lib.itoa_nonneg]at a;refine⟨a,?_⟩;subst c;refine⟨rfl,rfl,rfl,?_,fun i d _=>?_⟩
  ·show w.heap.size<=(w.heap++os).size
   simp
  ·show(w.heap++os)[i]?=w.heap[i]?
   exact Array.getElem?_append_left d
theorem Xn (n:Nat)(h:n<1000000000):(Z6 n).length<=21:=by
 have:=Lib.itoa_length_le (n:Int) (by omega) (by omega);rw[Lib.itoa_nonneg]at this;exact this
def Bd (w:Z)(B b:Nat)(l:List UInt8):Prop:=Lib.IsBuilderF 116 5 B b (Lib.byteCells l) w
theorem Hl {T e:TypeId}{B b:Nat}{p:C}{bs:List C}{w w':Z}(h:Lib.BuilderAtF T e B b p bs w)(i:F0 w w'):Lib.BuilderAtF T e B b p bs w':=by
 obtain⟨j,v,k,⟨a,c⟩,d⟩:=h;refine⟨j,v,i.whole k (by simp),⟨a,?_⟩,d⟩;rcases c with l|⟨g,cap,f,m,n,o,q,r⟩
 ·exact .inl l
 ·exact .inr ⟨g,cap,f,m,n,o,i.whole q (by simp),r⟩
theorem Bd.fr {w w':Z}{B b:Nat}{l:List UInt8}(h:Bd w B b l)(a:F0 w w'):Bd w' B b l:=
 h.elim (fun x=>.inl (Hl x a)) (fun x=>.inr (Hl x a))
theorem Bd.lt {w:Z}{B b:Nat}{l:List UInt8}(h:Bd w B b l):B<=b/\b<w.heap.size:=
 h.elim (fun x=>⟨x.1,x.lt⟩) (fun x=>⟨x.1,x.lt⟩)
theorem Fs (B b:Nat)(l:List UInt8)(s:ByteArray)(w:Z)(h:Bd w B b l)(a:l.length+s.size<=140737488355328)(c:B<=w.heap.size):
  G Y 105 #[F (S ⟨b,0,V⟩),I s] w fun e w'=>e=K (.tuple #[J P s.size,.nilIface])/\Bd w' B b (l++s.data.toList)/\Below B w w'/\Lib.OthersKept 5 (S b) w w':=
 (Any.Builder_WriteString_k (ρ:=Tryz.lays156_ren) {Tryz.lays156 with} Tryz.Builder_Extra_156 B b (Lib.byteCells l) s w h (by rw[Lib.byteCells_length];exact a) c).mono fun e w' ⟨f,d,g,i⟩=>by
  refine⟨f,?_,g,i⟩;rw[Lib.strCells_eq]at d
  have j:Lib.byteCells (l++s.data.toList)=Lib.byteCells l++Lib.byteCells s.data.toList:=by unfold Lib.byteCells;rw[y0]
  unfold Bd;rw[j];exact .inr d
theorem Ky (B b:Nat)(l:List UInt8)(w:Z)(h:Bd w B b l)(a:B<=w.heap.size):
  G Y 61 #[F (S ⟨b,0,V⟩)] w fun e w'=>e=K (I (ZV l))/\Below B w w':=
 (Tryz.Builder_String_any_k B b l w h a).mono fun _ _ ⟨c,_,d,_⟩=>⟨c,d⟩
theorem Kz (c:Nat):Lib.repeatL [48] c=D c 48:=by
 induction c with
 |zero=>rfl
 |succ c a=>rw[Lib.repeatL,a];rfl
theorem Iq (c:Nat)(w:Z)(d:c<=9):G Y 162 #[I ⟨#[48]⟩,J P (c:Int)] w fun e w'=>e=K (I (ZV (D c 48)))/\F0 w w':=
 (Tryz.strings_Repeat ⟨#[48]⟩ c w (by omega) (by show 1*c<=_;omega)).mono fun e w' ⟨a,b⟩=>⟨by rw[a];show _=y7 (I ⟨(D c 48).toArray⟩);rw[<-Kz],Fr.of_below b⟩
theorem Ir (n d:Nat)(w:Z)(i:QA w)(z:n<1000000000)(A:d<=9)(p:(Z6 n).length<=d):
  G Y 107 #[J P (n:Int),J P (d:Int)] w fun e w'=>e=K (I (ZV (Tf n d)))/\F0 w w':=by
 have j:=Za (RX n w (by omega) i);obtain⟨t,b⟩:∃t,t=ZV (Z6 n):=⟨_,rfl⟩;rw[<-b]at j
 have c:t.size=(Z6 n).length:=by rw[b];rfl
 obtain⟨k,l⟩:∃k,k=t.size:=⟨_,rfl⟩
 have q:k<=d:=by omega
 have r:t.size=k:=l.symm
 have B:x2.wrap ((d:Int)-(k:Int))=((d-k:Nat):Int):=by rw[IntWalk.i64_in _ (by omega)];omega
 have s:=Za b
 have v:E (k=(Z6 n).length):=by show _=_;omega
 have m:E (∀W,G Y 162 #[I ⟨#[48]⟩,J P ((d-k:Nat):Int)] W fun e w'=>e=K (I (ZV (D (d-k) 48)))/\F0 W w'):=fun W=>Iq (d-k) W (by omega)
 have x:(ZV (D (d-k) 48)).size<=9:=by rw[XE,List.length_replicate];omega
 obtain⟨u,f⟩:∃u,u=ZV (D (d-k) 48):=⟨_,rfl⟩;rw[<-f]at m x;have y:=Za f;clear b c l f p i;go_enter Tryz.func107,Tryz.ntmps107;go_wp2_with fail;refine j.o.mono ?_;rintro e C ⟨rfl,a⟩;have g:=Za a;clear a;go_wp2_with fail;refine(m.o _).mono ?_;rintro e w2 ⟨rfl,a⟩;have h:=Za (g.o.trans a);clear a;go_wp2_with fail;go_ret;refine⟨?_,h.o⟩
 have e:u++t=ZV (Tf n d):=by
  apply ByteArray.ext;apply Array.ext';rw[y.o,s.o];simp[ZV,Tf,v.o]
 rw[<-e];rfl
theorem Ml (g o k:Nat):(⟨g,o,V⟩:Addr).add k=⟨g,o+k,V⟩:=by unfold Addr.add;split<;>simp_all
theorem SL:(Y.info? 9).map (fun i=>(i.zero,i.size,i.bytes))=S (S (I ByteArray.empty),1,16):=by kernel_rfl
def Tu (l:List Bs):List C:=l.map fun x=>Value.string (ZV x)
theorem Q7 (l:List Bs)(x:Bs):Tu (l++[x])=Tu l++[I (ZV x)]:=by unfold Tu;rw[y0];rfl
theorem Is (r:List Bs):(r.map ([44,32]++·)).flatten=r.flatMap fun u=>44::32::u:=by
 induction r with
 |nil=>rfl
 |cons y r a=>rw[List.map_cons,List.flatten_cons,a];rfl
theorem OR (l:List Bs):Lib.join l [44,32]=Y6 l:=by
 cases l with
 |nil=>rfl
 |cons x r=>rw[Lib.join_cons,Lib.joinTail,Is];rfl
theorem V1 (l:List Bs)(m:Nat)(h:∀x,x∈l->x.length<=m):(Y6 l).length<=l.length*(m+2):=by
 have c:∀r:List Bs,(∀x,x∈r->x.length<=m)->(r.flatMap fun u=>44::32::u).length<=r.length*(m+2):=by
  intro r
  induction r with
  |nil=>intro _;simp
  |cons y r d=>
   intro b;have e:=d (fun x a=>b x (by simp[a]));have f:=b y (by simp);rw[z7,lA];simp only[L];rw[z8];omega
 cases l with
 |nil=>simp[Y6]
 |cons x r=>
  have e:=c r (fun x a=>h x (by simp[a]));have f:=h x (by simp);simp only[Y6];rw[lA,L,z8];omega
theorem Ub {w:Z}{base:Nat}{e:TypeId}{a:Nat}{v:C}{n:Nat}{b:List C}(h:w.ownsRow base e a v n b)(k:0<n):∃g cap,v=H (S ⟨g,0,V⟩) n cap/\base<=g/\g<w.heap.size/\n<=cap:=by
 rcases h.2 with⟨_,e⟩|⟨g,cap,c,d,f,i,j,_⟩
 ·omega
 ·exact⟨g,cap,d,f,(iA.1 i).1,j⟩
theorem KA (w:Z)(base:Nat)(v:C)(l:List Bs)(m:Nat)(h:w.ownsRow base 9 1 v l.length (Tu l))(o:l.length<=4000)(p:∀x,x∈l->x.length<=m)(q:m<=3000):
  G Y 163 #[v,I ⟨#[44,32]⟩] w fun e w'=>e=K (I (ZV (Y6 l)))/\F0 w w':=by
 by_cases r:0<l.length
 ·obtain⟨g,cap,e,B,s,t⟩:=Ub h r
  subst e
  have k:((l.map ZV).map (·.data.toList))=l:=by rw[List.map_map];exact List.map_id' l
  have n:=V1 l m p;have d:l.length*(m+2)<=4000*3002:=z0 o (by omega)
  have:=Tryz.strings_Join g 0 cap (l.map ZV) ⟨#[44,32]⟩ w (fun j x b=>by
   rw[O]at b
   cases f:l[j]? with
   |none=>rw[f]at b;cases b
   |some y=>
    rw[f]at b;simp only[Option.map_some,Option.some.injEq]at b;have:=h.cells (g:=g) rfl j (I (ZV y)) (by unfold Tu;rw[O,f];rfl);rw[Ml]at this;rw[<-b]
    exact this) s (by rw[U];omega) (by rw[U];exact t) (by rw[k];show(Lib.join l [44,32]).length<=_;rw[OR];omega)
  rw[U]at this
  refine this.mono fun e w' ⟨i,u⟩=>⟨?_,Fr.of_below u⟩
  rw[i,k]
  show _=y7 (I ⟨(Y6 l).toArray⟩)
  rw[<-OR]
 ·have z:l=[]:=List.length_eq_zero_iff.1 (by omega)
  subst z;obtain⟨a,c,e⟩:=oL h;subst e
  exact(Tryz.strings_Join_none a c ⟨#[44,32]⟩ w).mono fun e w' ⟨i,hw⟩=>⟨i,by rw[hw];exact Fr.refl _ _⟩
theorem QB (w:Z)(base:Nat)(v:C)(l:List Nat)(h:w.ownsRow base 3 1 v l.length (Zg l))(h0:0<l.length)(hl:l.length<=4000)(z:∀x,x∈l->x<1000000000)(ht:QA w):
  G Y 108 #[v] w fun e w'=>e=K (I (ZV (Y6 (l.map Z6))))/\F0 w w':=by
 obtain⟨ii,hi,F,H,L⟩:=info_parts SL;obtain⟨g,cap,rfl,hb,q,r⟩:=Ub h h0
 have f:E (∀j x,l[j]?=S x->w.cell? ⟨g,j,V⟩=S (J P (x:Nat))):=by
  intro j x hj;have:=h.cells (g:=g) rfl j (J P x) (by unfold Zg;rw[O,hj];rfl)
  rwa [Ml,y9]at this
 have HT:=Za ht;have HX:=Za z;have HG:=Za q;obtain⟨n,M⟩:∃n,l.length=n:=⟨_,rfl⟩;have N:=Za M;rw[M]at hl h0 r ⊢;clear h z ht M hb q;go_enter Tryz.func108,Tryz.ntmps108;go_wp2_with fail
 go_loopg [3,5,8] n (fun m o _ ix wr=>∃k,k<=n/\m=n-k/\ix=J P (k:Nat)/\E (wr.ownsRow w.heap.size 9 1 o k (Tu ((l.map Z6).take k)))/\E (F0 w wr))
 case atStart=>exact⟨0,z9 _,rfl,rfl,oZ _ _ _ _,Fr.refl _ _⟩
 case round=>
  obtain⟨k,B,rfl,rfl,HO,D⟩:=hrel;by_cases f0:k<n
  ·obtain⟨x,b⟩:∃x,l[k]?=S x:=⟨_,gE (by have:=N.o;omega)⟩
   have c0:wr.cell? ⟨g,k,V⟩=S (J P (x:Nat)):=(D.o.cell (p:=⟨g,k,V⟩) HG.o (by simp)).trans (f.o k x b)
   have Q:E ((l.map Z6).take (k+1)=(l.map Z6).take k++[Z6 x]):=by show _=_;rw[A,O,b];rfl
   have HI:=Za (RX x wr (by have:=HX.o x (mG b);omega) (HT.o.fr D.o))
   have T:(k:Int)<(n:Int):=by omega
   clear b;go_wp2_with fail;refine HI.o.mono ?_;rintro e w1 ⟨rfl,i⟩;have s:=Za (D.o.trans i);have u:=Za (oF HO.o i (by simp));have g0:=s.o.size;obtain⟨t,W⟩:∃t,t=ZV (Z6 x):=⟨_,rfl⟩;rw[<-W];have X:=Za W;clear i c0 W
   go_wp2_with (at_builtin;refine wpList_append_lies _ rfl (.tmp 12) (.tmp 15) 28 rfl w.heap.size 9 ii _ 1 16 Tryz.underlying28 hi F H L rfl (by decide) u3 k (Tu ((l.map Z6).take k)) rfl ?h1 ⟨w1.heap.size,0,V⟩ 1 1 [I t] rfl rfl ?h2 ?h3 (by decide) ?h4 ?h5 ?h6 _ rfl ?h7)
   case h1=>exact u.o.alloc _
   case h2=>exact World.news_of_block (aN w1 _)
   case h3=>simp[y8]
   case h4=>unfold maxLen;omega
   case h5=>omega
   case h6=>first|omega|(simp;omega)
   case h7=>
    intro g2 e0 w5 c a _ _
    have d:∀k,u3.ownBlock=S k->w.heap.size<=k:=fun k B=>(u.o.lt k B).1
    have a0:=Za c;have b0:=Za ((s.o.alloc _).grown a (fun k B=>Or.inr (d k B)));clear a c d;go_wp2;go_roundg (n-(k+1))
    case measure=>omega
    case rel=>
     refine⟨k+1,by omega,rfl,by go_num,?_,b0⟩
     show World.ownsRow _ _ _ _ _ _ _
     rw[Q.o,Q7,<-X.o];exact a0.o
  ·have T:¬(k:Int)<(n:Int):=by omega
   have ek:k=n:=by omega
   subst ek
   have HJ:E (G Y 163 #[u3,I ⟨#[44,32]⟩] wr fun e w'=>e=K (I (ZV (Y6 (l.map Z6))))/\F0 wr w'):=by
    have ho:=HO.o;rw[R (by rw[U];have:=N.o;omega)]at ho;have e:=N.o;refine KA wr w.heap.size u3 (l.map Z6) 21 (by rw[U,e];exact ho) (by rw[U,e];exact hl) (fun x z=>?_) (by omega);obtain⟨y,hy,rfl⟩:=x0.1 z;exact Xn y (HX.o y hy)
   go_wp2_with fail;refine HJ.o.mono ?_;rintro e w2 ⟨rfl,i⟩;have d0:=Za (D.o.trans i);clear i;go_wp2;go_ret;exact⟨rfl,d0.o⟩
def OS (a b:Bool)(l:List Bs):Bs:=if a then[100,101,99,108,105,110,101]else(if b then[99,104,101,97,112,101,115,116,32]else[])++Y6 l
theorem Ci (a:List Zd)(r:Zc):32::OS r.decline r.cheapest (r.routes.map (Z1 a))=BK a r:=by
 unfold OS BK
 cases r.decline<;>cases r.cheapest<;>rfl
def Mm (c:ByteArray)(d e f g:Int)(h:Option Addr)(i j:Nat)(a:Bool)(k l:Int)(m:Option Addr)(n o:Nat)(p q:Bool)(r:Option Addr)(s t:Nat)(b:Int):C:=
 .agg #[I c,J P d,J P e,J P f,J P g,H h i j,N a,J P k,J P l,H m n o,N p,N q,H r s t,J P b]
theorem Pr (w:Z)(Bb:Nat)(vr:C)(a:List Zd)(base:Nat)(b:List Nat)(nm:ByteArray)(i1 i2 i3 i4:Int)(ma:Option Addr)(mn mc:Nat)(d:Bool)(i7 i8:Int)(ca:Option Addr)(cn cc:Nat)(dc q:Bool)(B:Option Addr)(L:Nat)(f:Int)
  (hb:w.cell? ⟨Bb,0,V⟩=S vr)(hr:w.ownsRow base 148 3 vr a.length (YU a))(hp:w.ownsRow base 3 1 (H B b.length L) b.length (Zg b))(hl:b.length<=4000)(Q:∀p,p∈b->p<a.length)(T:∀t,t∈a->t.name.size<=3000)(h6:a.length<=6):
  G Y 109 #[F (S ⟨Bb,0,V⟩),Mm nm i1 i2 i3 i4 ma mn mc d i7 i8 ca cn cc dc q B b.length L f] w fun e w'=>e=K (I (ZV (OS dc q (b.map (Z1 a)))))/\F0 w w':=by
 unfold Mm;obtain⟨ii,hi,j0,k0,l0⟩:=info_parts SL;obtain⟨va,vc,hv⟩:=oL hr;subst hv;have m0:=Za (bL w _ hb)
 have n0:E (∀j p,b[j]?=S p->∃g,B=S ⟨g,0,V⟩/\g<w.heap.size/\w.cell? ⟨g,j,V⟩=S (J P (p:Nat))):=by
  intro j p h;obtain⟨g,cap,e,_,W,_⟩:=Ub hp (by have:=(iG.1 h).1;omega);injection e with e1 e2 e3;subst e1;refine⟨g,rfl,W,?_⟩;have:=hp.cells (g:=g) rfl j (J P p) (by unfold Zg;rw[O,h];rfl)
  rwa [Ml,y9]at this
 have o0:E (∀j t,a[j]?=S t->∃g,va=S ⟨g,0,V⟩/\g<w.heap.size/\w.cell? ⟨g,j*3,V⟩=S (I t.name)):=by
  intro j t h;obtain⟨g,cap,e,_,W,hc⟩:=SZ hr (by have:=(iG.1 h).1;omega);injection e with e1 e2 e3;exact⟨g,e1,W,(hc j t h).1⟩
 have p0:=Za Q;have q0:=Za T;have a0:=Za hb;obtain⟨n,hn⟩:∃n,b.length=n:=⟨_,rfl⟩;have HN:=Za hn;obtain⟨nr,u⟩:∃nr,a.length=nr:=⟨_,rfl⟩;have d0:=Za u;rw[u]at a0 h6;rw[hn]at hl ⊢;clear hb hr hp Q T hn u;go_enter Tryz.func109,Tryz.ntmps109
 cases dc with
 |true=>
  go_wp2_with fail;go_ret;exact⟨rfl,(Fr.refl _ _).alloc _⟩
 |false=>
  go_wp2_with fail;have e0:=aN w (M #[I nm,J P i1,J P i2,J P i3,J P i4,H ma mn mc,N d,J P i7,J P i8,H ca cn cc,N false,N q,H B n L,J P f] 120);have v:=Za (bC e0 11 _ rfl);have s0:E (F0 w (w.alloc (M #[I nm,J P i1,J P i2,J P i3,J P i4,H ma mn mc,N d,J P i7,J P i8,H ca cn cc,N false,N q,H B n L,J P f] 120))):=(Fr.refl _ _).alloc _;clear e0;generalize w.alloc (M #[I nm,J P i1,J P i2,J P i3,J P i4,H ma mn mc,N d,J P i7,J P i8,H ca cn cc,N false,N q,H B n L,J P f] 120)=D at*;obtain⟨X,hX⟩:∃X,w.heap.size=X:=⟨_,rfl⟩;rw[hX]at v ⊢;clear hX
  go_loopg [5,7,14] n (fun m o _ ix wr=>∃k,k<=n/\m=n-k/\ix=J P (k:Nat)/\E (wr.ownsRow D.heap.size 9 1 o k (Tu ((b.map (Z1 a)).take k)))/\E (F0 D wr))
  case atStart=>exact⟨0,z9 _,rfl,rfl,oZ _ _ _ _,Fr.refl _ _⟩
  case round=>
   obtain⟨k,hk,rfl,rfl,HO,HF⟩:=hrel;have i:=Za (s0.o.trans HF.o);by_cases G0:k<n
   ·obtain⟨p,l⟩:∃p,b[k]?=S p:=⟨_,gE (by have:=HN.o;omega)⟩
    obtain⟨g,t0,W,c0⟩:=n0.o k p l;rw[<-i.o.cell (p:=⟨g,k,V⟩) W (by simp)]at c0
    have H0:p<nr:=by have:=p0.o p (mG l);have:=d0.o;omega
    obtain⟨t,y⟩:∃t,a[p]?=S t:=⟨_,gE (by have:=d0.o;omega)⟩;obtain⟨gr,f0,v0,r0⟩:=o0.o p t y;rw[<-i.o.cell (p:=⟨gr,p*3,V⟩) v0 (by simp)]at r0;have b0:wr.cell? ⟨Bb,0,V⟩=S (H va nr vc):=(i.o.cell (p:=⟨Bb,0,V⟩) m0.o (by simp)).trans a0.o;rw[f0]at b0;subst t0
    have w0:E ((b.map (Z1 a)).take (k+1)=(b.map (Z1 a)).take k++[t.name.data.toList]):=by show _=_;rw[A,O,l];simp[Z1,y]
    have y0:(k:Int)<(n:Int):=by omega
    have I0:(p:Int)<(nr:Int):=by omega
    have J0:=HF.o.size;clear l y f0
    go_wp2_with (at_builtin;refine wpList_append_lies _ rfl (.tmp 18) (.tmp 27) 28 rfl D.heap.size 9 ii _ 1 16 Tryz.underlying28 hi j0 k0 l0 rfl (by decide) u5 k (Tu ((b.map (Z1 a)).take k)) rfl ?h1 ⟨wr.heap.size,0,V⟩ 1 1 [I t.name] rfl rfl ?h2 ?h3 (by decide) ?h4 ?h5 ?h6 _ rfl ?h7)
    case h1=>exact HO.o.alloc _
    case h2=>exact World.news_of_block (aN wr _)
    case h3=>simp[y8]
    case h4=>unfold maxLen;omega
    case h5=>omega
    case h6=>first|omega|(simp;omega)
    case h7=>
     intro g2 D0 w5 r c _ _
     have s:∀k,u5.ownBlock=S k->D.heap.size<=k:=fun k hk=>(HO.o.lt k hk).1
     have A0:=Za r;have B0:=Za ((HF.o.alloc _).grown c (fun k hk=>Or.inr (s k hk)));clear c r s;go_wp2;go_roundg (n-(k+1))
     case measure=>omega
     case rel=>
      refine⟨k+1,by omega,rfl,by go_num,?_,B0⟩
      show World.ownsRow _ _ _ _ _ _ _
      rw[w0.o,Q7];exact A0.o
   ·have y0:¬(k:Int)<(n:Int):=by omega
    have ek:k=n:=by omega
    subst ek;have z:wr.cell? ⟨X,11,V⟩=S (N q):=(HF.o.cell (p:=⟨X,11,V⟩) (bL D _ v.o) (by simp)).trans v.o
    have g0:E (∀x,x∈b.map (Z1 a)->x.length<=3000):=fun x hx=>by
     obtain⟨p,hp,rfl⟩:=x0.1 hx;unfold Z1
     cases hq:a[p]? with
     |none=>simp
     |some t=>
      have:=q0.o t (mG hq)
      simpa using this
    have HJ:E (G Y 163 #[u5,I ⟨#[44,32]⟩] wr fun e w'=>e=K (I (ZV (Y6 (b.map (Z1 a)))))/\F0 wr w'):=by
     have ho:=HO.o;rw[R (by rw[U];have:=HN.o;omega)]at ho;have e:=HN.o;exact KA wr D.heap.size u5 (b.map (Z1 a)) 3000 (by rw[U,e];exact ho) (by rw[U,e];exact hl) g0.o (by omega)
    have C0:(ZV (Y6 (b.map (Z1 a)))).size<=4000*3002:=by
     have h1:=V1 (b.map (Z1 a)) 3000 g0.o;rw[U,HN.o]at h1;have h2:k*(3000+2)<=4000*3002:=z0 hl (by omega);rw[XE];omega
    obtain⟨j,h⟩:∃j,j=ZV (Y6 (b.map (Z1 a))):=⟨_,rfl⟩;rw[<-h]at HJ C0;have h0:=Za h;clear h;go_wp2_with fail;refine HJ.o.mono ?_;rintro e w2 ⟨rfl,hf⟩;have i0:=Za (i.o.trans hf);have E0:w2.cell? ⟨X,11,V⟩=S (N q):=(hf.cell (p:=⟨X,11,V⟩) (bL wr _ z) (by simp)).trans z;clear hf z
    cases q with
    |true=>
     go_wp2;go_ret;refine⟨?_,i0.o⟩
     have e:(⟨#[99,104,101,97,112,101,115,116,32]⟩:ByteArray)++j=ZV (OS false true (b.map (Z1 a))):=by
      apply ByteArray.ext;apply Array.ext';rw[h0.o];simp[ZV,OS]
     rw[<-e];rfl
    |false=>
     go_wp2;go_ret;refine⟨?_,i0.o⟩;rw[h0.o];rfl
theorem XF (a b:ByteArray)(m n:Nat)(c:a.size<=m)(d:b.size<=n)(h:m+n<=80000000):∃y,E (y=a++b)/\y.size<=m+n/\∀W,(Op.stringOp .add a b).run Y W=.ok (I y) W:=
 ⟨a++b,rfl,by rw[ByteArray.size_append];omega,fun W=>run_string_add_sum W a b (by omega)⟩
structure Wr (w0:Z)(B b:Nat)(l:List UInt8)(X:Nat)(o:Obj)(W:Z):Prop where
 bd:Bd W B b l
 be:Below B w0 W
 le:B<=W.heap.size
 ob:W.heap[X]?=S o
 ok:Lib.OthersKept 5 (S b) w0 W
theorem E3 {b:Option Nat}{w0 W a:Z}(h:Lib.OthersKept 5 b w0 W)(c:F0 W a):Lib.OthersKept 5 b w0 a:=fun k o d e f=>c.whole (h k o d e f) (by simp)
theorem KB {b:Option Nat}{w W:Z}(h:Below w.heap.size w W):Lib.OthersKept 5 b w W:=fun k o a _ _=>by
 rw[h.block k (iA.1 a).1];exact a
theorem Wr.fr {w0:Z}{B b:Nat}{l:List UInt8}{X:Nat}{o:Obj}{W c:Z}(h:Wr w0 B b l X o W)(a:F0 W c):Wr w0 B b l X o c:=
 ⟨h.bd.fr a,h.be.trans (a.below h.le (by simp)),Q h.le a.size,a.whole h.ob (by simp),E3 h.ok a⟩
theorem Wr.write {w0:Z}{B b:Nat}{l:List UInt8}{X:Nat}{a:Array C}{T:TypeId}{W:Z}(h:Wr w0 B b l X (M a T) W)(s:ByteArray)(g:l.length+s.size<=140737488355328)(i:X≠b)(j:T≠5):
  G Y 105 #[F (S ⟨b,0,V⟩),I s] W fun e w'=>e=K (.tuple #[J P s.size,.nilIface])/\Wr w0 B b (l++s.data.toList) X (M a T) w':=
 (Fs B b l s W h.bd g h.le).mono fun e w' ⟨k,m,d,f⟩=>⟨k,m,h.be.trans d,Q h.le d.size,f X _ h.ob (by simpa using i) (fun c o e=>by injection e with _ n;exact j n),h.ok.trans f⟩
theorem Wr.itoa {w0:Z}{B b:Nat}{l:List UInt8}{X:Nat}{o:Obj}{W:Z}(h:Wr w0 B b l X o W)(a:∀w',Below B w0 w'->QA w')(m:Nat)(f:m<1000000000):
  G Y 106 #[J P (m:Int)] W fun e w'=>e=K (I (ZV (Z6 m)))/\Wr w0 B b l X o w':=
 (RX m W (by omega) (a W h.be)).mono fun e w' ⟨c,d⟩=>⟨c,h.fr d⟩
def Ft (w:Z)(B:Nat)(a:Option Addr)(b:List Zd):Prop:=
 ∀j t,b[j]?=S t->∃g o,a=S ⟨g,o,V⟩/\g<B/\w.cell? ⟨g,o+j*3,V⟩=S (I t.name)/\w.cell? ⟨g,o+j*3+1,V⟩=S (J P t.base)/\w.cell? ⟨g,o+j*3+2,V⟩=S (J P t.rate)
theorem E4 (t:Zd)(h:Nz t):(Uh t).length<=3060:=by
 have a:=Xn _ h.2.1;have b:=Xn _ h.2.2
 have c:t.name.data.toList.length=t.name.size:=by simp
 have d:=h.1;unfold Uh;simp only[List.length_append,L,List.length_nil];omega
theorem Hm (l:List Zd)(h:∀t,t∈l->Nz t):(l.flatMap Uh).length<=l.length*3060:=by
 induction l with
 |nil=>simp
 |cons x r a=>
  have c:=a (fun t b=>h t (by simp[b]));have d:=E4 x (h x (by simp));rw[z7,lA,L,z8];omega
theorem TI (w:Z)(B b:Nat)(i:List UInt8)(a:Option Addr)(c:Nat)(d:List Zd)(hB:B<=w.heap.size)(hd:Bd w B b i)(z:∀w',Below B w w'->QA w')(hr:Ft w B a d)(f:∀t,t∈d->Nz t)(b0:d.length<=6)(r0:i.length<=100000000):
  G Y 59 #[F (S ⟨b,0,V⟩),H a d.length c] w fun e w'=>e=K (.tuple #[])/\Bd w' B b (i++d.flatMap Uh)/\Below B w w'/\Lib.OthersKept 5 (S b) w w':=by
 have HD:=Za hd;have d0:=Za z;have HR:=Za hr;have C:=Za f;obtain⟨n,hn⟩:∃n,d.length=n:=⟨_,rfl⟩;have HN:=Za hn;rw[hn]at b0 ⊢;clear hd z hr f hn;go_enter Tryz.func59,Tryz.ntmps59;go_wp2_with fail
 go_loopg [5,8] n (fun m _ ix wr=>∃k,k<=n/\m=n-k/\ix=J P (k:Nat)/\E (Bd wr B b (i++(d.take k).flatMap Uh))/\E (Below B w wr)/\E (Lib.OthersKept 5 (S b) w wr))
 case atStart=>exact⟨0,z9 _,rfl,rfl,by show Bd _ _ _ _;simpa using HD.o,Below.refl _ _,Lib.OthersKept.refl _ _ _⟩
 case round=>
  obtain⟨k,hk,rfl,rfl,p,HF,D⟩:=hrel;by_cases t0:k<n
  ·obtain⟨t,Uq⟩:∃t,d[k]?=S t:=⟨_,gE (by have:=HN.o;omega)⟩
   obtain⟨g,o,ha,hg,c0,c1,c2⟩:=HR.o k t Uq
   have v0:g<w.heap.size:=by omega
   have q:∀j v,w.cell? ⟨g,j,V⟩=S v->wr.cell? ⟨g,j,V⟩=S v:=fun j v hv=>by
    rw[show wr.cell? ⟨g,j,V⟩=w.cell? ⟨g,j,V⟩from by simp only[World.cell?,HF.o.block g hg]];exact hv
   replace c0:=q _ _ c0;replace c1:=q _ _ c1;replace c2:=q _ _ c2;clear q;subst ha
   have e0:(k:Int)<(n:Int):=by omega
   have L:E (i++(d.take (k+1)).flatMap Uh=(i++(d.take k).flatMap Uh)++Uh t):=by show _=_;rw[A,Uq,List.flatMap_append,List.append_assoc];simp
   have f:=C.o t (mG Uq);have f0:=f.1;have g0:(ZV (Z6 t.base)).size<=21:=Xn _ f.2.1;have h0:(ZV (Z6 t.rate)).size<=21:=Xn _ f.2.2;have r:=Za f;have N:=Za (Q hB HF.o.size)
   have O:(i++(d.take k).flatMap Uh).length<=100100000:=by
    have h1:=Hm (d.take k) (fun t ht=>C.o t (List.mem_of_mem_take ht))
    have h2:(d.take k).length<=6:=by rw[List.length_take];omega
    have h3:(d.take k).length*3060<=6*3060:=z0 h2 (x1 _);rw[lA];omega
   obtain⟨u,T⟩:∃u,u=i++(d.take k).flatMap Uh:=⟨_,rfl⟩;rw[<-T]at p L O;clear Uq f T;go_upto_region 3 with fail
   have HZ:E (Wr w B b u wr.heap.size (M #[I t.name,J P t.base,J P t.rate] 148) (wr.alloc (M #[I t.name,J P t.base,J P t.rate] 148))):=
    ⟨p.o.fr ((Fr.refl _ _).alloc _),HF.o.trans (((Fr.refl (fun _=>False) wr).alloc _).below N.o (by simp)),Q N.o (by simp),aN wr _,E3 D.o ((Fr.refl _ _).alloc _)⟩
   have i0:E (wr.heap.size≠b):=by have:=p.o.lt.2;show _≠_;omega
   generalize wr.alloc (M #[I t.name,J P t.base,J P t.rate] 148)=W1 at*;generalize wr.heap.size=X at*
   have x:E (∀l W,Wr w B b l X (M #[I t.name,J P t.base,J P t.rate] 148) W->W.cell? ⟨X,0,V⟩=S (I t.name)/\W.cell? ⟨X,1,V⟩=S (J P t.base)/\W.cell? ⟨X,2,V⟩=S (J P t.rate)):=fun l W h=>⟨bC h.ob 0 _ rfl,bC h.ob 1 _ rfl,bC h.ob 2 _ rfl⟩
   have HI:E (∀(m:Nat)(W:Z),E (m<1000000000)->E (Wr w B b u X (M #[I t.name,J P t.base,J P t.rate] 148) W)->G Y 106 #[J P (m:Int)] W fun e w'=>e=K (I (ZV (Z6 m)))/\E (Wr w B b u X (M #[I t.name,J P t.base,J P t.rate] 148) w')/\w'.cell? ⟨X,0,V⟩=S (I t.name)/\w'.cell? ⟨X,1,V⟩=S (J P t.base)/\w'.cell? ⟨X,2,V⟩=S (J P t.rate)):=
    fun m W hm hZ=>(hZ.o.itoa d0.o m hm.o).mono fun e w' ⟨he,hz⟩=>⟨he,hz,x.o _ _ hz⟩
   have HW:E (∀(s:ByteArray)(W:Z),s.size<=4000->E (Wr w B b u X (M #[I t.name,J P t.base,J P t.rate] 148) W)->G Y 105 #[F (S ⟨b,0,V⟩),I s] W fun e w'=>e=K (.tuple #[J P s.size,.nilIface])/\E (Wr w B b (u++s.data.toList) X (M #[I t.name,J P t.base,J P t.rate] 148) w')/\w'.cell? ⟨X,0,V⟩=S (I t.name)/\w'.cell? ⟨X,1,V⟩=S (J P t.base)/\w'.cell? ⟨X,2,V⟩=S (J P t.rate)):=
    fun s W hs hZ=>(hZ.o.write s (by omega) i0.o (by decide)).mono fun e w' ⟨he,hz⟩=>⟨he,hz,x.o _ _ hz⟩
   have w0:=Za r.o.2.1;have x0:=Za r.o.2.2;obtain⟨s0,s1,s2⟩:=x.o _ _ HZ.o;clear c0 c1 c2;have y0:=Za (HZ.o.fr (Fr.refl _ _).drew);clear HZ;obtain⟨y1,j0,z1,k1⟩:=XF ⟨#[114,111,117,116,101,32]⟩ t.name 6 3000 (by decide) f0 (by omega);obtain⟨y2,k0,z2,k2⟩:=XF y1 ⟨#[32]⟩ _ 1 z1 (by decide) (by omega);obtain⟨y3,m0,z3,k3⟩:=XF y2 (ZV (Z6 t.base)) _ 21 z2 g0 (by omega);obtain⟨y4,n0,z4,k4⟩:=XF y3 ⟨#[32]⟩ _ 1 z3 (by decide) (by omega);obtain⟨y5,o0,z5,k5⟩:=XF y4 (ZV (Z6 t.rate)) _ 21 z4 h0 (by omega);obtain⟨y6,p0,z6,k6⟩:=XF y5 ⟨#[59,10]⟩ _ 2 z5 (by decide) (by omega)
   go_region_held3 (fun W=>W.cell? ⟨X,0,V⟩=S (I t.name)/\W.cell? ⟨X,1,V⟩=S (J P t.base)/\W.cell? ⟨X,2,V⟩=S (J P t.rate)) (first|assumption|go_keep) (first
    |(go_at_call 106;refine(HI.o _ _ (by assumption) (by assumption)).mono ?_;rintro e w7 ⟨rfl,A0,a0⟩)
    |(go_at_call 105;refine(HW.o _ _ (by omega) (by assumption)).mono ?_;rintro e w7 ⟨rfl,y,a0⟩))
   have HY:E (y6.data.toList=Uh t):=by
    show _=_
    rw[p0.o,o0.o,n0.o,m0.o,k0.o,j0.o];simp[Uh,ZV]
   clear a0;go_wp2;go_roundg (n-(k+1))
   case measure=>omega
   case rel=>
    refine⟨k+1,by omega,rfl,by go_num,?_,y.o.be,y.o.ok⟩
    show Bd _ _ _ _
    have e:=y.o.bd;rw[HY.o]at e;rw[L.o];exact e
  ·have e0:¬(k:Int)<(n:Int):=by omega
   have ek:k=n:=by omega
   subst ek
   have q0:E (Bd wr B b (i++d.flatMap Uh)):=by
    have e:=p.o;rw[R (by have:=HN.o;omega)]at e;exact e
   go_wp2_with fail
   go_end0
   exact⟨rfl,q0.o,HF.o,D.o⟩
