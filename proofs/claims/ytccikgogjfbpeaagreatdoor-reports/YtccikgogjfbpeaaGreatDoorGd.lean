import Derived.Test.YtccikgogjfbpeaaGreatDoorGc
import Derived.Laws.AppendOwnNone
open Go.Value renaming int->I,slice->P,bool->Y,string->H,oneCell'->N,string->Q,agg->y9,pointer->x3
open Go.IntKind renaming i64->J,u8->O
open Option renaming none->S,some->V
open Go.Obj renaming cells->Z
open Go.World renaming cell?_setCell_other->U,news_of_block->D,cell?_setCell_same->F
open Go renaming World->K,Value->B,Calls->x1
open Or renaming inr->E
open Go.RowKit renaming Hid->M
open List renaming length_eq_zero_iff->T,append_assoc->z9,length_take->x0,append_nil->x2
open Go.Proofs.Tryz renaming prog->X
open Go.Ending renaming returned->A
open Nat renaming le_of_eq->C,le_trans->z0,zero_add->z8,le_refl->y8,add_zero->x4,sub_self->q0,zero_le->q8
namespace Go.Proofs.YtccikgogjfbpeaaGreatDoor
set_option maxRecDepth 30000
set_option maxHeartbeats 8000000
open Go.RowKit
structure Zn where
 sort:Nat
 nums:List Nat
 rule:Nat
 skip:Nat
def Yf (r:Zc):List Zn:=
 (if r.mcc=[]then[]else[⟨0,r.mcc,0,0⟩])++((match r.am with|none=>[]|some a=>[⟨1,[a.1,a.2],0,0⟩])++(if r.cur=[]then[]else[⟨2,r.cur,0,0⟩]))
def Ts (i:Nat)(r:Zc):Zn:=if r.decline then⟨3,[],i,0⟩else if r.cheapest then⟨5,r.routes,i,0⟩else⟨4,r.routes,i,0⟩
def Z4 (m:Nat):Nat->List Zn->List Zn
 |_,[]=>[]
 |a,s::r=>{s with skip:=m-a+1}::Z4 m (a+1) r
def Rf (r:Zc):List Zn:=Z4 (Yf r).length 0 (Yf r)
def Z2 (R:List Zc)(met:Nat):List Nat->List Zn
 |[]=>[⟨6,[],0,0⟩]
 | i::L=>if met.testBit i then(match R[i]? with
   |none=>Z2 R met L
   |some r=>if Yf r=[]then[Ts i r]else Rf r++(Ts i r::Z2 R met L))else Z2 R met L
def Ab (b:Nat)(w:K)(s:Zn)(c:List B):Prop:=∃a,c=[I O s.sort,a,I J s.rule,I J s.skip]/\w.ownsRow b 3 1 a s.nums.length (Zg s.nums)
def XJ (b:Nat)(w:K):List Zn->List B->Prop
 |[],xs=>xs=[]
 |s::r,xs=>∃c a,xs=c++a/\Ab b w s c/\XJ b w r a
theorem XJ.keep {b:Nat}{w w':K}(d:∀v n a,w.ownsRow b 3 1 v n a->w'.ownsRow b 3 1 v n a):∀{l:List Zn}{a:List B},XJ b w l a->XJ b w' l a
 |[],_,h=>h
 |_::_,_,⟨c,rest,e,⟨vn,e1,h1⟩,h2⟩=>⟨c,rest,e,⟨vn,e1,d _ _ _ h1⟩,XJ.keep d h2⟩
theorem XJ.append {a:Nat}{w:K}:∀{l l':List Zn}{b d:List B},XJ a w l b->XJ a w l' d->XJ a w (l++l') (b++d)
 |[],_,_,_,h,h'=>by
  have e:_=[]:=h;subst e;exact h'
 |_::_,_,_,_,⟨c,rest,e,h1,h2⟩,h'=>⟨c,rest++_,by rw[e,z9],h1,XJ.append h2 h'⟩
theorem XJ.one {a:Nat}{w:K}{s:Zn}{c:List B}(h:Ab a w s c):XJ a w [s] c:=⟨c,[],by simp,h,rfl⟩
def YW (b:Nat)(w:K)(base:Nat)(v:B)(l:List Zn):Prop:=∃a,w.ownsRow base 208 4 v l.length a/\XJ b w l a
theorem SI:(X.info? 208).map (fun i=>(i.zero,i.size,i.bytes))=V (V (y9 #[I O 0,P S 0 0,I J 0,I J 0]),4,48):=by kernel_rfl
theorem OB {a:Nat}{w w':K}{base:Nat}{v:B}{l:List Zn}(h:YW a w base v l)(b:F0 w w'):YW a w' base v l:=by
 obtain⟨c,d,e⟩:=h;exact⟨c,oF d b (by simp),e.keep (fun v n g f=>oF f b (by simp))⟩
theorem YW.grown {a:Nat}{w b:K}{base g cap:Nat}{v:B}{l l':List Zn}{d:List B}{c:List B}(j:w.ownsRow base 208 4 v l.length c)(k:XJ a w l c)(m:XJ a w l' d)(o:w.grownBy b v.ownBlock)(p:b.ownsRow base 208 4 (P (V ⟨g,0,S⟩) (l.length+l'.length) cap) (l.length+l'.length) (c++d)):
  YW a b base (P (V ⟨g,0,S⟩) (l.length+l'.length) cap) (l++l'):=by
 have h:∀e n f,w.ownsRow a 3 1 e n f->b.ownsRow a 3 1 e n f:=fun e n f i=>i.kept o (WW i j (by decide))
 exact⟨c++d,by rw[lA];exact p,(k.keep h).append (m.keep h)⟩
def Sw (b:ByteArray)(rk c lo d:Nat)(e:Option Addr)(f g:Nat)(a:Bool)(h i:Nat)(j:Option Addr)(k l:Nat)(m n:Bool)(o:Option Addr)(p q:Nat)(r:Nat):Obj:=
 Z #[H b,I J rk,I J c,I J lo,I J d,P e f g,Y a,I J h,I J i,P j k l,Y m,Y n,P o p q,I J r] 120
def J8 (a:List Nat):List Zn:=if a=[]then[]else[⟨0,a,0,0⟩]
def F1 (a:Bool)(b c:Nat):List Zn:=if a then[⟨1,[b,c],0,0⟩]else[]
def J9 (a:List Nat):List Zn:=if a=[]then[]else[⟨2,a,0,0⟩]
theorem OC (r:Zc):Yf r=J8 r.mcc++(F1 r.am.isSome (r.am.getD (0,0)).1 (r.am.getD (0,0)).2++J9 r.cur):=by
 unfold Yf J8 F1 J9
 cases r.am<;>rfl
theorem Le {c:Nat}{w:K}{g a b:Nat}(d:c<=g)(h:w.heap[g]?=V (Z #[I J a,I J b] 3)):w.ownsRow c 3 1 (P (V ⟨g,0,S⟩) 2 2) 2 (Zg [a,b]):=
 ⟨rfl,.inr ⟨g,2,_,rfl,d,h,y8 _,by unfold maxLen;omega,rfl,rfl⟩⟩
structure Pq (zb:Nat)(w:K)(b:Nat)(o:Obj)(v:B)(l:List Zn)(wx:K):Prop where
 row:YW zb wx (b+1) v l
 fr:F0 w wx
 bx:wx.heap[b]?=V o
 nz:l=[]->v=P S 0 0
theorem Pq.grown {f:Nat}{w n i:K}{b g cap:Nat}{o:Obj}{v:B}{l:List Zn}{j c:List B}{s:Zn}{W:K}(h:Pq f w b o v l n)(x:w.heap.size<=b)(p:F0 n W)(q:W.ownsRow (b+1) 208 4 v l.length j)(r:XJ f W l j)(t:Ab f W s c)(m:W.grownBy i v.ownBlock)(u:i.ownsRow (b+1) 208 4 (P (V ⟨g,0,S⟩) (l.length+1) cap) (l.length+1) (j++c)):
  Pq f w b o (P (V ⟨g,0,S⟩) (l.length+1) cap) (l++[s]) i:=by
 have a:∀k,v.ownBlock=V k->b+1<=k:=fun k d=>(q.lt k d).1
 refine⟨YW.grown (l':=[s]) q r (XJ.one t) m u,(h.fr.trans p).grown m (fun k d=>E (by have:=a k d;omega)),?_,fun e=>by simp at e⟩;exact((Fr.refl (fun k=>v.ownBlock=V k) W).grown m (fun k d=>Or.inl d)).whole (p.whole h.bx (by simp)) (fun e=>by have:=a b e;omega)
theorem Ia {x:Nat}(F:ByteArray)(rk G lo L:Nat)(q:Option Addr)(r:Nat)(c:Bool)(i j:Nat)(t:Option Addr)(u:Nat)(Q R:Bool)(U:Option Addr)(W pc:Nat)(ah:Nat)(d a:List Nat)(w:K)(hz:x<=w.heap.size)
  (hm:w.ownsRow x 3 1 (P q d.length r) d.length (Zg d))(hc:w.ownsRow x 3 1 (P t a.length u) a.length (Zg a))(B0:d.length<=4000)(C0:a.length<=4000):
  x1 X 222 #[Kh F rk G lo L q d.length r c i j t a.length u Q R U W pc ah] w fun e w'=>(∃v,e=A v/\YW x w' w.heap.size v (J8 d++(F1 c i j++J9 a))/\(J8 d++(F1 c i j++J9 a)=[]->v=P S 0 0))/\F0 w w':=by
 obtain⟨ii,f0,g0,i0,j0⟩:=info_parts SI;have HM:=Za hm;have HC:=Za hc;obtain⟨k,k0⟩:∃k,d.length=k:=⟨_,rfl⟩;obtain⟨l,l0⟩:∃l,a.length=l:=⟨_,rfl⟩;rw[k0]at HM B0 ⊢;rw[l0]at HC C0 ⊢;have m0:=Za k0;have n0:=Za l0;have HZ:=Za hz;clear hm hc k0 l0 hz;unfold Kh;go_enter Tryz.func222,Tryz.ntmps222;have m:M (Pq x w w.heap.size (Sw F rk G lo L q k r c i j t l u Q R U W pc ah) (P S 0 0) [] (w.alloc (Sw F rk G lo L q k r c i j t l u Q R U W pc ah))):=⟨⟨[],oZ _ _ _ _,rfl⟩,(Fr.refl _ _).alloc _,aN w _,fun _=>rfl⟩;unfold Sw at m
 go_upto_if 7 with fail
 generalize w.alloc (Z #[H F,I J rk,I J G,I J lo,I J L,P q k r,Y c,I J i,I J j,P t l u,Y Q,Y R,P U W pc,I J ah] 120)=W0 at*;obtain⟨b,hb⟩:∃b,w.heap.size=b:=⟨_,rfl⟩;have HB:=Za hb;rw[hb]at m;rw[hb];clear hb
 go_cut [3] (fun v wx=>M (Pq x w b (Z #[H F,I J rk,I J G,I J lo,I J L,P q k r,Y c,I J i,I J j,P t l u,Y Q,Y R,P U W pc,I J ah] 120) v (J8 d) wx))
 case first=>
  have x5:=bC m.o.bx 5 _ rfl;have x0:b+1<=W0.heap.size:=(iA.1 m.o.bx).1;by_cases h0:0<k
  ·have o0:(0:Int)<(k:Int):=by omega
   go_wp2_with (at_builtin;refine wpList_append_lies _ rfl (.tmp 8) (.tmp 12) 129 rfl (b+1) 208 ii _ 4 48 Tryz.underlying129 f0 g0 i0 j0 rfl (by decide) (P S 0 0) 0 [] rfl ?h1 ⟨W0.heap.size,0,S⟩ 1 1 [I O 0,P q k r,I J 0,I J 0] rfl rfl ?h2 ?h3 (by decide) ?h4 ?h5 ?h6 _ rfl ?h7)
   case h1=>exact oZ _ _ _ _
   case h2=>exact D (aN W0 (Z #[I O 0,P q k r,I J 0,I J 0] 208))
   case h3=>simp[N]
   case h4=>unfold maxLen;omega
   case h5=>omega
   case h6=>simp;omega
   case h7=>
    intro g2 p w8 g f a0 _
    have b0:M (Pq x w b (Z #[H F,I J rk,I J G,I J lo,I J L,P q k r,Y c,I J i,I J j,P t l u,Y Q,Y R,P U W pc,I J ah] 120) (P (V ⟨g2,0,S⟩) (0+1) p) (J8 d) w8):=by
     have hf:F0 W0 (W0.alloc (Z #[I O 0,P q k r,I J 0,I J 0] 208)):=(Fr.refl _ _).alloc _;have e:=m.o.grown (s:=⟨0,d,0,0⟩) (C HB.o) hf (oZ _ _ _ _) rfl ⟨_,rfl,by rw[m0.o];exact oF (oF HM.o m.o.fr (by simp)) hf (by simp)⟩ f g
     have e2:J8 d=[]++[⟨0,d,0,0⟩]:=by
      unfold J8;rw[if_neg (by intro e;have:=m0.o;rw[e]at this;simp at this;omega)];rfl
     rw[e2];exact e
    clear g f a0;go_wp2_with fail;go_meet;exact b0
  ·have o0:¬(0:Int)<(k:Int):=by omega
   have h:M (Pq x w b (Z #[H F,I J rk,I J G,I J lo,I J L,P q k r,Y c,I J i,I J j,P t l u,Y Q,Y R,P U W pc,I J ah] 120) (P S 0 0) (J8 d) W0):=by
    have e:J8 d=[]:=by
     unfold J8;rw[if_pos (T.1 (by have:=m0.o;omega))]
    rw[e];exact m
   go_wp2_with fail;go_meet;exact h
 case rest=>
  have h:=hcut;clear hcut;obtain⟨B,c0⟩:∃B,J8 d=B:=⟨_,rfl⟩;have D0:=Za c0
  have L0:B.length<=1:=by rw[<-c0];unfold J8;split<;>simp
  rw[c0]at h;obtain⟨p0,q0,y0⟩:=h.o.row;obtain⟨va,vc,e3⟩:=oL q0;subst e3;have d0:M (wc.ownsRow (b+1) 208 4 (P va B.length vc) B.length p0/\XJ x wc B p0):=⟨q0,y0⟩;have x0:b+1<=wc.heap.size:=(iA.1 h.o.bx).1;have x6:=bC h.o.bx 6 _ rfl;clear c0 q0 y0 m
  go_upto_if 15 with fail
  go_cut [3] (fun v wx=>M (Pq x w b (Z #[H F,I J rk,I J G,I J lo,I J L,P q k r,Y c,I J i,I J j,P t l u,Y Q,Y R,P U W pc,I J ah] 120) v (B++F1 c i j) wx))
  case first=>
   cases c with
   |true=>
    have x7:=bC h.o.bx 7 _ rfl;have x8:=bC h.o.bx 8 _ rfl
    go_wp2_with (at_builtin;refine wpList_append_lies _ rfl (.tmp 16) (.tmp 25) 129 rfl (b+1) 208 ii _ 4 48 Tryz.underlying129 f0 g0 i0 j0 rfl (by decide) (P va B.length vc) B.length p0 rfl ?h1 ⟨wc.heap.size+1,0,S⟩ 1 1 [I O 1,P (V ⟨wc.heap.size,0,S⟩) 2 2,I J 0,I J 0] rfl rfl ?h2 ?h3 (by decide) ?h4 ?h5 ?h6 _ rfl ?h7)
    case h1=>exact(d0.o.1.alloc _).alloc _
    case h2=>exact D (by have e:=aN (wc.alloc (Z #[I J i,I J j] 3)) (Z #[I O 1,P (V ⟨wc.heap.size,0,S⟩) 2 2,I J 0,I J 0] 208);simpa using e)
    case h3=>simp[N]
    case h4=>unfold maxLen;omega
    case h5=>omega
    case h6=>simp;omega
    case h7=>
     intro g2 p w8 g f a0 _
     have b0:M (Pq x w b (Z #[H F,I J rk,I J G,I J lo,I J L,P q k r,Y true,I J i,I J j,P t l u,Y Q,Y R,P U W pc,I J ah] 120) (P (V ⟨g2,0,S⟩) (B.length+1) p) (B++F1 true i j) w8):=by
      have hf:F0 wc ((wc.alloc (Z #[I J i,I J j] 3)).alloc (Z #[I O 1,P (V ⟨wc.heap.size,0,S⟩) 2 2,I J 0,I J 0] 208)):=((Fr.refl _ _).alloc _).alloc _;exact h.o.grown (s:=⟨1,[i,j],0,0⟩) (C HB.o) hf ((d0.o.1.alloc _).alloc _) (d0.o.2.keep (fun v n ys hv=>(hv.alloc _).alloc _)) ⟨_,rfl,Le (by have:=HZ.o;have:=h.o.fr.size;omega) (((Fr.refl (fun _=>False) _).alloc _).whole (aN wc _) (by simp))⟩ f g
     clear g f a0;go_wp2_with fail;go_meet;exact b0
   |false=>
    go_wp2_with fail;go_meet;rw[show B++F1 false i j=B from by simp[F1]];exact h
  case rest=>
   have y:=hcut;clear hcut;obtain⟨z,e0⟩:∃z,B++F1 c i j=z:=⟨_,rfl⟩;have E0:=Za e0
   have M0:z.length<=2:=by rw[<-e0,lA];unfold F1;split<;>simp<;>omega
   rw[e0]at y;obtain⟨r0,s0,z0⟩:=y.o.row;obtain⟨t0,v0,e3⟩:=oL s0;subst e3;have w0:M (wc.ownsRow (b+1) 208 4 (P t0 z.length v0) z.length r0/\XJ x wc z r0):=⟨s0,z0⟩;have K0:b+1<=wc.heap.size:=(iA.1 y.o.bx).1;have x9:=bC y.o.bx 9 _ rfl;clear e0 s0 z0 h d0 x6 x0
   go_upto_if 30 with fail
   go_cut [3] (fun v wx=>M (Pq x w b (Z #[H F,I J rk,I J G,I J lo,I J L,P q k r,Y c,I J i,I J j,P t l u,Y Q,Y R,P U W pc,I J ah] 120) v (z++J9 a) wx))
   case first=>
    by_cases h0:0<l
    ·have o0:(0:Int)<(l:Int):=by omega
     go_wp2_with (at_builtin;refine wpList_append_lies _ rfl (.tmp 31) (.tmp 35) 129 rfl (b+1) 208 ii _ 4 48 Tryz.underlying129 f0 g0 i0 j0 rfl (by decide) (P t0 z.length v0) z.length r0 rfl ?h1 ⟨wc.heap.size,0,S⟩ 1 1 [I O 2,P t l u,I J 0,I J 0] rfl rfl ?h2 ?h3 (by decide) ?h4 ?h5 ?h6 _ rfl ?h7)
     case h1=>exact w0.o.1.alloc _
     case h2=>exact D (aN wc (Z #[I O 2,P t l u,I J 0,I J 0] 208))
     case h3=>simp[N]
     case h4=>unfold maxLen;omega
     case h5=>omega
     case h6=>simp;omega
     case h7=>
      intro g2 p w8 g f a0 _
      have b0:M (Pq x w b (Z #[H F,I J rk,I J G,I J lo,I J L,P q k r,Y c,I J i,I J j,P t l u,Y Q,Y R,P U W pc,I J ah] 120) (P (V ⟨g2,0,S⟩) (z.length+1) p) (z++J9 a) w8):=by
       have hf:F0 wc (wc.alloc (Z #[I O 2,P t l u,I J 0,I J 0] 208)):=(Fr.refl _ _).alloc _;have e:=y.o.grown (s:=⟨2,a,0,0⟩) (C HB.o) hf (w0.o.1.alloc _) (w0.o.2.keep (fun v n ys hv=>hv.alloc _)) ⟨_,rfl,by rw[n0.o];exact oF (oF HC.o y.o.fr (by simp)) hf (by simp)⟩ f g
       have e2:J9 a=[⟨2,a,0,0⟩]:=by
        unfold J9;rw[if_neg (by intro e;have:=n0.o;rw[e]at this;simp at this;omega)]
       rw[e2];exact e
      clear g f a0;go_wp2_with fail;go_meet;exact b0
    ·have o0:¬(0:Int)<(l:Int):=by omega
     have E:M (Pq x w b (Z #[H F,I J rk,I J G,I J lo,I J L,P q k r,Y c,I J i,I J j,P t l u,Y Q,Y R,P U W pc,I J ah] 120) (P t0 z.length v0) (z++J9 a) wc):=by
      have e:J9 a=[]:=by
       unfold J9;rw[if_pos (T.1 (by have:=n0.o;omega))]
      rw[e,x2];exact y
     go_wp2_with fail;go_meet;exact E
   case rest=>
    have E:=hcut;clear hcut;obtain⟨N0,A0,G0⟩:=E.o.row;obtain⟨H0,I0,e3⟩:=oL A0;subst e3;clear A0 G0;go_wp2_with fail;go_ret
    have J0:w.heap.size<=b+1:=by have:=HB.o;omega
    have e:J8 d++(F1 c i j++J9 a)=z++J9 a:=by rw[<-E0.o,<-D0.o,z9]
    refine⟨⟨P H0 (z++J9 a).length I0,rfl,?_,fun ez=>E.o.nz (by rw[<-e];exact ez)⟩,E.o.fr⟩;rw[e];obtain⟨xs,h1,h2⟩:=E.o.row;exact⟨xs,oS (base:=b+1) h1 J0,h2⟩
theorem Bc {w:K}{b:Nat}{u0 u1 u2 u3 v0 v1 v2 v3:B}(a:w.cell? ⟨b,0,S⟩=V u0)(c:w.cell? ⟨b,1,S⟩=V u1)(d:w.cell? ⟨b,2,S⟩=V u2)(e:w.cell? ⟨b,3,S⟩=V u3):
  let W:=(((w.setCell ⟨b,0,S⟩ v0).setCell ⟨b,1,S⟩ v1).setCell ⟨b,2,S⟩ v2).setCell ⟨b,3,S⟩ v3
  W.cell? ⟨b,0,S⟩=V v0/\W.cell? ⟨b,1,S⟩=V v1/\W.cell? ⟨b,2,S⟩=V v2/\W.cell? ⟨b,3,S⟩=V v3:=by
 refine⟨?_,?_,?_,?_⟩
 ·rw[cO _ _ _ _ (by simp),cO _ _ _ _ (by simp),cO _ _ _ _ (by simp)];exact cS _ _ _ a
 ·rw[U _ _ _ _ (by simp),U _ _ _ _ (by simp)];exact F _ _ _ (by rw[U _ _ _ _ (by simp)];exact c)
 ·rw[U _ _ _ _ (by simp)];exact F _ _ _ (by rw[U _ _ _ _ (by simp),U _ _ _ _ (by simp)];exact d)
 ·exact cS _ _ _ (by rw[cO _ _ _ _ (by simp),cO _ _ _ _ (by simp),cO _ _ _ _ (by simp)];exact e)
theorem Ko (w:K)(G:Nat)(u:ByteArray)(rk x lo y:Nat)(z:Option Addr)(B D:Nat)(h:Bool)(F L:Nat)(N:Option Addr)(R T:Nat)(q r:Bool)(j:Option Addr)(k l:Nat)(U:Nat)(g n c i:Nat)
  (h0:w.cell? ⟨G,0,S⟩=V (P (V ⟨g,0,S⟩) n c))(a0:i<n)
  (hr:∀o v,[Q u,I J rk,I J x,I J lo,I J y,P z B D,Y h,I J F,I J L,P N R T,Y q,Y r,P j k l,I J U][o]?=V v->w.cell? ⟨g,i*14+o,S⟩=V v):
  x1 X 223 #[x3 (V ⟨G,0,S⟩),I J i] w fun e w'=>e=A (if q then y9 #[I O 3,P S 0 0,I J i,I J 0]else if r then y9 #[I O 5,P j k l,I J i,I J 0]else y9 #[I O 4,P j k l,I J i,I J 0])/\F0 w w':=by
 have f0:(i:Int)<(n:Int):=by omega
 have HR:=Za hr;clear hr a0;go_enter Tryz.func223,Tryz.ntmps223;go_upto_region 1 with fail;have s:M (F0 w (w.alloc (Z #[I O 0,P S 0 0,I J 0,I J 0] 208))):=(Fr.refl _ _).alloc _;have HX:M ((w.alloc (Z #[I O 0,P S 0 0,I J 0,I J 0] 208)).heap[w.heap.size]?=V (Z #[I O 0,P S 0 0,I J 0,I J 0] 208)):=aN w _;generalize w.alloc (Z #[I O 0,P S 0 0,I J 0,I J 0] 208)=W at*
 have d:∀o v,[Q u,I J rk,I J x,I J lo,I J y,P z B D,Y h,I J F,I J L,P N R T,Y q,Y r,P j k l,I J U][o]?=V v->W.cell? ⟨g,i*14+o,S⟩=V v:=fun o v ho=>by
  have e:=HR.o o v ho;exact(s.o.cell (p:=⟨g,i*14+o,S⟩) (bL w _ e) (by simp)).trans e
 have g0:=(s.o.cell (p:=⟨G,0,S⟩) (bL w _ h0) (by simp)).trans h0;have v0:=d 0 _ rfl;have v1:=d 1 _ rfl;have v2:=d 2 _ rfl;have v3:=d 3 _ rfl;have v4:=d 4 _ rfl;have v5:=d 5 _ rfl;have v6:=d 6 _ rfl;have v7:=d 7 _ rfl;have v8:=d 8 _ rfl;have v9:=d 9 _ rfl;have b0:=d 10 _ rfl;have c0:=d 11 _ rfl;have d0:=d 12 _ rfl;have e0:=d 13 _ rfl;rw[x4]at v0;clear d h0;obtain⟨b,hb⟩:∃b,w.heap.size=b:=⟨_,rfl⟩;have HB:=Za hb;rw[hb]at HX;rw[hb];clear hb;go_upto_region 2 with fail;have t:M (F0 w (W.alloc (Z #[H u,I J rk,I J x,I J lo,I J y,P z B D,Y h,I J F,I J L,P N R T,Y q,Y r,P j k l,I J U] 120))):=s.o.alloc _;have f:M ((W.alloc (Z #[H u,I J rk,I J x,I J lo,I J y,P z B D,Y h,I J F,I J L,P N R T,Y q,Y r,P j k l,I J U] 120)).heap[b]?=V (Z #[I O 0,P S 0 0,I J 0,I J 0] 208)):=((Fr.refl (fun _=>False) _).alloc _).whole HX.o (by simp);have m:=aN W (Z #[H u,I J rk,I J x,I J lo,I J y,P z B D,Y h,I J F,I J L,P N R T,Y q,Y r,P j k l,I J U] 120);have i0:=bC m 10 _ rfl;have j0:=bC m 11 _ rfl;have k0:=bC m 12 _ rfl;have a:w.heap.size<=b:=C HB.o;clear m v0 v1 v2 v3 v4 v5 v6 v7 v8 v9 b0 c0 d0 e0 g0;generalize W.alloc (Z #[H u,I J rk,I J x,I J lo,I J y,P z B D,Y h,I J F,I J L,P N R T,Y q,Y r,P j k l,I J U] 120)=W2 at*;generalize W.heap.size=X2 at*
 cases q with
 |true=>
  have y0:=bC f.o 0 _ rfl;have y1:=bC f.o 1 _ rfl;have y2:=bC f.o 2 _ rfl;have y3:=bC f.o 3 _ rfl;have yf:=bF f.o;go_wp2_with fail;obtain⟨s0,s1,s2,s3⟩:=Bc (v0:=I O 3) (v1:=P S 0 0) (v2:=I J i) (v3:=I J 0) y0 y1 y2 y3;refine bodyPost_ret (v:=y9 #[I O 3,P S 0 0,I J i,I J 0]) (by simp[results,Tryz.results223,go_sem,s0,s1,s2,s3]) rfl ⟨rfl,?_⟩;exact(((t.o.setCell (p:=⟨b,0,S⟩) (E a) _).setCell (p:=⟨b,1,S⟩) (E a) _).setCell (p:=⟨b,2,S⟩) (E a) _).setCell (p:=⟨b,3,S⟩) (E a) _
 |false=>
  cases r with
  |true=>
   have y0:=bC f.o 0 _ rfl;have y1:=bC f.o 1 _ rfl;have y2:=bC f.o 2 _ rfl;have y3:=bC f.o 3 _ rfl;have yf:=bF f.o;go_wp2_with fail;obtain⟨s0,s1,s2,s3⟩:=Bc (v0:=I O 5) (v1:=P j k l) (v2:=I J i) (v3:=I J 0) y0 y1 y2 y3;refine bodyPost_ret (v:=y9 #[I O 5,P j k l,I J i,I J 0]) (by simp[results,Tryz.results223,go_sem,s0,s1,s2,s3]) rfl ⟨rfl,?_⟩;exact(((t.o.setCell (p:=⟨b,0,S⟩) (E a) _).setCell (p:=⟨b,1,S⟩) (E a) _).setCell (p:=⟨b,2,S⟩) (E a) _).setCell (p:=⟨b,3,S⟩) (E a) _
  |false=>
   have y0:=bC f.o 0 _ rfl;have y1:=bC f.o 1 _ rfl;have y2:=bC f.o 2 _ rfl;have y3:=bC f.o 3 _ rfl;have yf:=bF f.o;go_wp2_with fail;obtain⟨s0,s1,s2,s3⟩:=Bc (v0:=I O 4) (v1:=P j k l) (v2:=I J i) (v3:=I J 0) y0 y1 y2 y3;refine bodyPost_ret (v:=y9 #[I O 4,P j k l,I J i,I J 0]) (by simp[results,Tryz.results223,go_sem,s0,s1,s2,s3]) rfl ⟨rfl,?_⟩;exact(((t.o.setCell (p:=⟨b,0,S⟩) (E a) _).setCell (p:=⟨b,1,S⟩) (E a) _).setCell (p:=⟨b,2,S⟩) (E a) _).setCell (p:=⟨b,3,S⟩) (E a) _
structure Cb (zb:Nat)(w:K)(G:Nat)(rls:List Zc)(ord:Nat->Nat):Prop where
 zl:zb<=w.heap.size
 rl:∃va c,w.cell? ⟨G,0,S⟩=V (P va rls.length c)/\∀i r,rls[i]?=V r->∃g ma mc ca cc pa pc,va=V ⟨g,0,S⟩/\g<w.heap.size/\
   (∀o v,[Q r.name,I J r.rank,I J r.digits,I J r.lo,I J r.hi,P ma r.mcc.length mc,Y r.am.isSome,I J (r.am.getD (0,0)).1,I J (r.am.getD (0,0)).2,P ca r.cur.length cc,Y r.decline,Y r.cheapest,P pa r.routes.length pc,I J r.ahead][o]?=V v->w.cell? ⟨g,i*14+o,S⟩=V v)/\
   w.ownsRow zb 3 1 (P ma r.mcc.length mc) r.mcc.length (Zg r.mcc)/\w.ownsRow zb 3 1 (P ca r.cur.length cc) r.cur.length (Zg r.cur)/\w.ownsRow zb 3 1 (P pa r.routes.length pc) r.routes.length (Zg r.routes)
 od:∃oa oc,w.cell? ⟨G,1,S⟩=V (P oa rls.length oc)/\∀k,k<rls.length->∃og,oa=V ⟨og,0,S⟩/\og<w.heap.size/\w.cell? ⟨og,k,S⟩=V (I J (ord k))
theorem Cb.fr {l:Nat}{w w':K}{G:Nat}{b:List Zc}{d:Nat->Nat}(h:Cb l w G b d)(a:F0 w w'):Cb l w' G b d:=by
 obtain⟨s,⟨t,c,m,u⟩,x,y,n,z⟩:=h;refine⟨z0 s a.size,⟨t,c,(a.cell (p:=⟨G,0,S⟩) (bL w _ m) (by simp)).trans m,fun i r A=>?_⟩,x,y,(a.cell (p:=⟨G,1,S⟩) (bL w _ n) (by simp)).trans n,fun k B=>?_⟩
 ·obtain⟨g,C,D,E,F,H,I,f,e,j,J,L,M⟩:=u i r A
  exact⟨g,C,D,E,F,H,I,f,nL e a.size,fun o v N=>(a.cell (p:=⟨g,i*14+o,S⟩) e (by simp)).trans (j o v N),oF J a (by simp),oF L a (by simp),oF M a (by simp)⟩
 ·obtain⟨q,f,e,j⟩:=z k B
  exact⟨q,f,nL e a.size,(a.cell (p:=⟨q,k,S⟩) e (by simp)).trans j⟩
theorem WO (m:Nat):∀(a:Nat)(l:List Zn),(Z4 m a l).length=l.length
 |_,[]=>rfl
 |a,_::r=>by show(Z4 m (a+1) r).length+1=r.length+1;rw[WO m (a+1) r]
theorem XJ.get {d:Nat}{w:K}:∀{l:List Zn}{a:List B}{j:Nat}{s:Zn},XJ d w l a->l[j]?=V s->∃c,Ab d w s c/\∀o v,c[o]?=V v->a[j*4+o]?=V v
 |[],_,j,_,_,hj=>by simp at hj
 |s::r,a,0,s',⟨c,rest,e,h1,h2⟩,hj=>by
  simp at hj;subst hj;refine⟨c,h1,fun o v b=>?_⟩;have:=(iG.1 b).1;rw[e,Nat.zero_mul,z8,List.getElem?_append_left this];exact b
 |s::r,a,j+1,s',⟨c,rest,e,h1,h2⟩,hj=>by
  obtain⟨f,g,h⟩:=XJ.get h2 (j:=j) (s:=s') (by simpa using hj)
  have l:c.length=4:=by obtain⟨k,i,_⟩:=h1;rw[i];rfl
  refine⟨f,g,fun o v b=>?_⟩;rw[e,aR (by omega),l,show(j+1)*4+o-4=j*4+o from by omega];exact h o v b
theorem XJ.ones {f:Nat}{w:K}:∀{l:List Zn}{d:List B},XJ f w l d->∀u,u∈d->u.oneCell'=true
 |[],_,h,u,hu=>by
  have e:_=[]:=h;rw[e]at hu;simp at hu
 |s::r,d,⟨c,rest,e,⟨vn,e1,h1⟩,h2⟩,u,hu=>by
  rw[e,e1]at hu;rcases List.mem_append.1 hu with h|h
  ·obtain⟨a,b,g⟩:=oL h1
   rw[g]at h;simp only[List.mem_cons,List.not_mem_nil,or_false]at h
   rcases h with rfl|rfl|rfl|rfl<;>rfl
  ·exact XJ.ones h2 u h
theorem XJ.skip {b:Nat}{w:K}:∀{l:List Zn}{a:List B}{j:Nat}{s:Zn}(k:Nat),XJ b w l a->l[j]?=V s->XJ b w (l.set j {s with skip:=k}) (a.set (j*4+3) (I J k))
 |[],_,j,_,_,_,hj=>by simp at hj
 |s::r,a,0,s',k,⟨c,rest,e,⟨vn,e1,h1⟩,h2⟩,hj=>by
  simp at hj;subst hj;subst e e1;exact⟨[I O s.sort,vn,I J s.rule,I J k],rest,rfl,⟨vn,rfl,h1⟩,h2⟩
 |s::r,a,j+1,s',k,⟨c,rest,e,⟨vn,e1,h1⟩,h2⟩,hj=>by
  subst e e1;refine⟨[I O s.sort,vn,I J s.rule,I J s.skip],rest.set (j*4+3) (I J k),?_,⟨vn,rfl,h1⟩,XJ.skip k h2 (by simpa using hj)⟩;rw[show(j+1)*4+3=j*4+3+4 from by omega];rfl
def T7 (b:List Zn)(a:Nat):List Zn:=(Z4 b.length 0 b).take a++b.drop a
theorem OD (m:Nat):∀(l:List Zn)(b a:Nat)(s:Zn),l[a]?=V s->(Z4 m b l)[a]?=V {s with skip:=m-(b+a)+1}
 |[],_,_,_,h=>by simp at h
 |x::r,b,0,s,h=>by
  simp at h;subst h;rfl
 |x::r,b,a+1,s,h=>by
  show(Z4 m (b+1) r)[a]?=_
  rw[OD m r (b+1) a s (by simpa using h),show b+1+a=b+(a+1)from by omega]
theorem G6 {b:List Zn}{a:Nat}{s:Zn}(h:b[a]?=V s):(T7 b a)[a]?=V s/\T7 b (a+1)=(T7 b a).set a {s with skip:=b.length-a+1}:=by
 have f:=(iG.1 h).1;have g:=WO b.length 0 b;have d:=OD b.length b 0 a s h;rw[z8]at d
 have e:b.drop a=s::b.drop (a+1):=by
  rw[dC f];rw[(iG.1 h).2]
 have c:((Z4 b.length 0 b).take a).length=a:=by rw[x0];omega
 unfold T7
 constructor
 ·rw[aR (by omega),c,q0,e]
  rfl
 ·rw[List.take_add_one,d,e,List.set_append,if_neg (by omega),c,q0]
  simp
theorem Me (a:List Zn):T7 a 0=a:=by simp[T7]
theorem ES (a:List Zn):T7 a a.length=Z4 a.length 0 a:=by
 unfold T7;rw[List.take_of_length_le (by rw[WO];exact y8 _),dL (y8 _),x2]
theorem QZ (b:List Zn)(a:Nat)(h:a<=b.length):(T7 b a).length=b.length:=by
 unfold T7;rw[lA,x0,List.length_drop,WO];omega
theorem T8 (r:Zc):(Yf r).length<=3:=by
 rw[OC,lA,lA];unfold J8 F1 J9
 split<;>split<;>split<;>simp
def WY (n:Nat)(a:Nat->Nat):List Nat:=(List.range n).map a
theorem G7 {n k:Nat}{a:Nat->Nat}(h:k<n):(WY n a).drop k=a k::(WY n a).drop (k+1):=by
 have b:k<(WY n a).length:=by unfold WY;simpa using h
 rw[dC b]
 have e:(WY n a)[k]=a k:=by simp[WY]
 rw[e]
theorem Kp (R:List Zc)(met i:Nat)(L:List Nat)(r:Zc)(h:R[i]?=V r):Z2 R met (i::L)=if met.testBit i then(if Yf r=[]then[Ts i r]else Rf r++(Ts i r::Z2 R met L))else Z2 R met L:=by
 rw[Z2,h]
structure AS (zb:Nat)(w:K)(R:List Zc)(met n:Nat)(ord:Nat->Nat)(k:Nat)(v:B)(l:List Zn)(wr:K):Prop where
 row:YW zb wr w.heap.size v l
 fr:F0 w wr
 eq:Z2 R met (WY n ord)=l++Z2 R met ((WY n ord).drop k)
 le:l.length<=k*4
structure Kq (zb:Nat)(w0:K)(v:B)(gs:List Zn)(a:Nat)(wx:K):Prop where
 row:YW zb wx w0.heap.size v (T7 gs a)
 fr:F0 w0 wx
theorem Kq.step {i:Nat}{w0 e:K}{g m c a:Nat}{b:List Zn}(h:Kq i w0 (P (V ⟨g,0,S⟩) m c) b a e)(f:b.length=m)(A:a<m):
  Kq i w0 (P (V ⟨g,0,S⟩) m c) b (a+1) (e.setCell ⟨g,a*4+3,S⟩ (I J ((m-a+1:Nat):Int)))/\(∃u,e.cell? ⟨g,a*4+3,S⟩=V u)/\e.frozen? ⟨g,a*4+3,S⟩=false:=by
 obtain⟨o,d,j⟩:=h.row;rw[QZ b a (by omega),f]at d;obtain⟨s,q⟩:∃s,b[a]?=V s:=⟨_,gE (by omega)⟩;obtain⟨k,r⟩:=G6 q;obtain⟨t,w⟩:=d.stored (a*4+3) (I J ((m-a+1:Nat):Int));obtain⟨B,⟨C,rfl,_⟩,x⟩:=j.get k;have y:=x 3 _ rfl;have z:=(d.lt g rfl).1;refine⟨⟨⟨o.set (a*4+3) (I J ((m-a+1:Nat):Int)),?_,?_⟩,h.fr.setCell (p:=⟨g,a*4+3,S⟩) (E z) _⟩,⟨_,(d.cellAt (a*4+3) (by omega)).trans y⟩,d.frozenAt _⟩
 ·rw[QZ b (a+1) (by omega),f]
  exact t
 ·rw[r,f]
  refine(j.skip (m-a+1) k).keep fun v n D l=>l.kept w (WW l d (by decide))
theorem He {l:Nat}{W:K}{G:Nat}{R:List Zc}{k:Nat->Nat}(h:Cb l W G R k)(i:Nat)(r:Zc)(m:R[i]?=V r):
  x1 X 223 #[x3 (V ⟨G,0,S⟩),I J i] W fun e w'=>(∃s a b c,∃d:List Nat,e=A (y9 #[I O (s:Nat),P a b c,I J i,I J 0])/\Ts i r=⟨s,d,i,0⟩/\w'.ownsRow l 3 1 (P a b c) d.length (Zg d))/\F0 W w':=by
 obtain⟨v,c,q,t⟩:=h.rl;obtain⟨g,w,x,y,z,n,o,rfl,_,f,_,_,u⟩:=t i r m;refine(Ko W G _ _ _ _ _ _ _ _ _ _ _ _ _ _ _ _ _ _ _ _ g R.length c i q (iG.1 m).1 f).mono ?_;rintro e w' ⟨rfl,p⟩;refine⟨?_,p⟩;have j:=oF u p (by simp);unfold Ts
 cases r.decline with
 |true=>exact⟨3,S,0,0,[],rfl,rfl,oZ _ _ _ _⟩
 |false=>
  cases r.cheapest with
  |true=>exact⟨5,n,_,o,r.routes,rfl,rfl,j⟩
  |false=>exact⟨4,n,_,o,r.routes,rfl,rfl,j⟩
theorem Ib {H:Nat}(w:K)(G:Nat)(R:List Zc)(y:Nat->Nat)(met:Nat)(h:Cb H w G R y)(hn:R.length<=8)(hm:met<256)(ho:∀k,k<R.length->y k<R.length)(hR:∀r,r∈R->r.mcc.length<=4000/\r.cur.length<=4000):
  x1 X 187 #[x3 (V ⟨G,0,S⟩),I .u64 met] w fun e w'=>(∃v,e=A v/\YW H w' w.heap.size v (Z2 R met (WY R.length y)))/\F0 w w':=by
 obtain⟨ii,h0,w0,x0,y0⟩:=info_parts SI;have HG:=Za h;have HO:=Za ho;have t1:=Za hR;obtain⟨oa,oc,c1,V0⟩:=h.od;have W0:=Za V0;obtain⟨n,H0⟩:∃n,R.length=n:=⟨_,rfl⟩;have HN:=Za H0;rw[H0]at c1 hn;clear h ho hR V0 H0;go_enter Tryz.func187,Tryz.ntmps187;go_wp2_with fail
 go_loopg [5,15] n (fun m v kv wr=>∃k l,k<=n/\m=n-k/\kv=I J (k:Nat)/\M (AS H w R met n y k v l wr))
 case atStart=>exact⟨0,[],q8 _,rfl,rfl,⟨⟨[],oZ _ _ _ _,rfl⟩,Fr.refl _ _,rfl,by simp⟩⟩
 case round=>
  obtain⟨k,l,hk,rfl,rfl,HS⟩:=hrel;obtain⟨xs,I0,X0⟩:=HS.o.row;obtain⟨va,vc,e3⟩:=oL I0;subst e3;have L:M (wr.ownsRow w.heap.size 208 4 (P va l.length vc) l.length xs/\XJ H wr l xs):=⟨I0,X0⟩;have V1:=HS.o.le;have W1:=HS.o.fr.size;clear I0 X0;by_cases w1:k<n
  ·have A1:(k:Int)<(n:Int):=by omega
   obtain⟨og,B1,G0,J0⟩:=W0.o k (by have:=HN.o;omega);subst B1;obtain⟨i,hi⟩:∃i,y k=i:=⟨_,rfl⟩;have HI:=Za hi
   have X1:i<n:=by have:=HO.o k (by have:=HN.o;omega);have:=HN.o;omega
   rw[hi]at J0;have d0:wr.cell? ⟨og,k,S⟩=V (I J i):=(HS.o.fr.cell (p:=⟨og,k,S⟩) G0 (by simp)).trans J0;obtain⟨r,hr⟩:∃r,R[i]?=V r:=⟨_,gE (by have:=HN.o;omega)⟩;have A0:=Za hr
   have i0:M (∀W,x1 X 145 #[I .u64 met,I J i] W fun e w'=>e=A (Y (met.testBit i))/\w'=W):=fun W=>Ha met i W hm (by omega)
   have c0:M (Z2 R met ((WY n y).drop k)=if met.testBit i then(if Yf r=[]then[Ts i r]else Rf r++(Ts i r::Z2 R met ((WY n y).drop (k+1))))else Z2 R met ((WY n y).drop (k+1))):=by
    show _=_
    rw[G7 w1,hi,Kp R met i _ r hr]
   clear hi hr J0
   cases hb:met.testBit i with
   |false=>
    rw[hb]at i0 c0;go_wp2_with fail;refine(i0.o _).mono ?_;rintro e w2 ⟨rfl,hw⟩;replace hw:=hw.symm;subst hw;go_wp2_with fail;go_roundg (n-(k+1))
    case measure=>omega
    case rel=>
     refine⟨k+1,l,by omega,rfl,by go_num,⟨HS.o.row,HS.o.fr,?_,by omega⟩⟩;have e:=HS.o.eq;rw[c0.o]at e
     simpa using e
   |true=>
    rw[hb]at i0 c0;have K0:=HG.o.fr HS.o.fr;obtain⟨Y1,c2,g0,Y0⟩:=K0.rl;obtain⟨g,ma,mc,ca,cc,pa,pc,eg,B0,b,Z0,d1,f1⟩:=Y0 i r A0.o;subst eg;rw[HN.o]at g0;have v0:=b 0 _ rfl;have v1:=b 1 _ rfl;have v2:=b 2 _ rfl;have v3:=b 3 _ rfl;have v4:=b 4 _ rfl;have v5:=b 5 _ rfl;have v6:=b 6 _ rfl;have v7:=b 7 _ rfl;have v8:=b 8 _ rfl;have v9:=b 9 _ rfl;have C1:=b 10 _ rfl;have D1:=b 11 _ rfl;have E1:=b 12 _ rfl;have F1:=b 13 _ rfl;rw[x4]at v0;have L0:=t1.o r (mG A0.o)
    have M0:M (x1 X 222 #[Kh r.name r.rank r.digits r.lo r.hi ma r.mcc.length mc r.am.isSome (r.am.getD (0,0)).1 (r.am.getD (0,0)).2 ca r.cur.length cc r.decline r.cheapest pa r.routes.length pc r.ahead] wr fun e w'=>(∃v,e=A v/\YW H w' wr.heap.size v (Yf r)/\(Yf r=[]->v=P S 0 0))/\F0 wr w'):=by
     rw[OC];exact Ia r.name r.rank r.digits r.lo r.hi ma mc r.am.isSome _ _ ca cc r.decline r.cheapest pa r.routes.length pc r.ahead r.mcc r.cur wr K0.zl Z0 d1 L0.1 L0.2
    unfold Kh at M0;have G1:=Za b;have H1:=Za B0;have q:=Za f1
    have Z1:(i:Int)<(n:Int):=by omega
    clear b Z0 d1 f1 L0 Y0 K0 B0;go_wp2_with fail;refine(i0.o _).mono ?_;rintro e w2 ⟨rfl,hw⟩;replace hw:=hw.symm;subst hw;go_wp2_with fail;refine M0.o.mono ?_;rintro e w3 ⟨⟨a2,rfl,g1,N0⟩,i1⟩;obtain⟨f,j0⟩:∃f,Yf r=f:=⟨_,rfl⟩;have b2:=Za j0
    have B0:f.length<=3:=by rw[<-j0];exact T8 r
    rw[show Rf r=Z4 (Yf r).length 0 (Yf r)from rfl,j0]at c0;rw[j0]at g1 N0;obtain⟨I1,z,k0⟩:=g1;obtain⟨l0,e0,e8⟩:=oL z;subst e8;obtain⟨m,m0⟩:∃m,f.length=m:=⟨_,rfl⟩;have f0:=Za m0;obtain⟨wo,J1⟩:∃x,x=wr:=⟨_,rfl⟩;subst J1;have j1:M (Kq H wo (P l0 m e0) f 0 w3):=⟨⟨I1,by rw[Me,<-m0];exact z,by rw[Me];exact k0⟩,i1⟩
    have K1:M (f=[]->Value.slice l0 m e0=P S 0 0):=by rw[<-m0];exact N0
    rw[m0]at B0 ⊢;clear j0 m0 N0 z k0 i1 v0 v1 v2 v3 v4 v5 v6 v7 v8 v9 C1 D1 E1 F1 g0 i0 M0 G1 H1 q d0 G0 c1 W0;go_wp2_with fail
    go_loopg [33] m (fun mm kv wx=>∃a,a<=m/\mm=m-a/\kv=I J (a:Nat)/\M (Kq H wo (P l0 m e0) f a wx))
    case atStart=>exact⟨0,q8 _,rfl,rfl,j1⟩
    case round=>
     obtain⟨a,ha,rfl,rfl,HF⟩:=hrel;by_cases k1:a<m
     ·have l1:(a:Int)<(m:Int):=by omega
      obtain⟨g8,e8⟩:∃g8,l0=V ⟨g8,0,S⟩:=by
       obtain⟨d2,L1,_⟩:=HF.o.row;rcases L1.2 with⟨e,_⟩|⟨g',Q1,f2,e,_⟩
       ·injection e with _ e2 _
        omega
       ·injection e with e1 _ _
        exact⟨g',e1⟩
      subst e8;obtain⟨O0,⟨u,hu⟩,i2⟩:=HF.o.step f0.o k1;rw[show((m-a+1:Nat):Int)=(m:Int)-a+1 from by omega]at O0;have M1:=Za O0;clear O0;go_wp2_with fail;go_roundg (m-(a+1))
      case measure=>omega
      case rel=>exact⟨a+1,by omega,rfl,by go_num,M1⟩
     ·have N1:a=m:=by omega
      subst N1
      have l1:¬(a:Int)<(a:Int):=by omega
      have P0:F0 w wr:=HS.o.fr.trans HF.o.fr;have Q0:=Za P0
      have O1:M (YW H wr wo.heap.size (P l0 a e0) (Z4 f.length 0 f)):=by
       have e:=HF.o.row;rw[<-f0.o,ES]at e;rw[<-f0.o];exact e
      have q:M (wr.ownsRow w.heap.size 208 4 (P va l.length vc) l.length xs/\XJ H wr l xs):=⟨oF L.o.1 HF.o.fr (by simp),L.o.2.keep (fun v n ys hv=>oF hv HF.o.fr (by simp))⟩;have m1:w.heap.size<=wr.heap.size:=P0.size;clear P0 HF j1 L;by_cases n1:a=0
      ·subst n1
       have a0:f=[]:=T.1 f0.o;have e8:=K1.o a0;injection e8 with e8 _ e9;subst e8 e9
       go_wp2_with (at_builtin;refine wpList_append_own_none rfl (.tmp 46) (.tmp 47) 129 rfl w.heap.size 208 ii 4 Tryz.underlying129 h0 (P va l.length vc) l.length xs rfl ?h1 rfl ?h2)
       case h1=>exact q.o.1
       refine(He (HG.o.fr Q0.o) i r A0.o).mono ?_;rintro e w5 ⟨⟨s,a1,b1,c1,n0,rfl,B,C⟩,Q⟩;have o0:=Za B;have p0:=Za C;have q0:=Za Q;have o1:w.heap.size<=w5.heap.size:=z0 m1 Q.size;clear B C Q
       go_wp2_with (at_builtin;refine wpList_append_lies _ rfl (.tmp 49) (.tmp 53) 129 rfl w.heap.size 208 ii _ 4 48 Tryz.underlying129 h0 w0 x0 y0 rfl (by decide) (P va l.length vc) l.length xs rfl ?q1 ⟨w5.heap.size,0,S⟩ 1 1 [I O s,P a1 b1 c1,I J i,I J 0] rfl rfl ?q2 ?q3 (by decide) ?q4 ?q5 ?q6 _ rfl ?q7)
       case q1=>exact(oF q.o.1 q0.o (by simp)).alloc _
       case q2=>exact D (aN w5 (Z #[I O s,P a1 b1 c1,I J i,I J 0] 208))
       case q3=>simp[N]
       case q4=>unfold maxLen;omega
       case q5=>omega
       case q6=>simp;omega
       case q7=>
        intro g2 t w6 d c U _
        have F:M (YW H w6 w.heap.size (P (V ⟨g2,0,S⟩) (l.length+1) t) (l++[Ts i r])/\F0 w w6):=by
         have hf:F0 wr (w5.alloc (Z #[I O s,P a1 b1 c1,I J i,I J 0] 208)):=q0.o.alloc _;rw[o0.o];refine⟨YW.grown (l':=[⟨s,n0,i,0⟩]) (oF q.o.1 hf (by simp)) (q.o.2.keep (fun v n ys hv=>oF hv hf (by simp))) (XJ.one ⟨_,rfl,p0.o.alloc _⟩) c d,(Q0.o.trans hf).grown c (fun k hk=>E (q.o.1.lt k hk).1)⟩
        clear d c U;go_wp2_with fail;go_ret;refine⟨⟨_,rfl,?_⟩,F.o.2⟩;have e:=HS.o.eq;rw[c0.o,if_pos trivial,if_pos a0]at e;rw[HN.o,e];exact F.o.1
      ·have a0:¬f=[]:=fun e=>n1 (by have:=f0.o;rw[e]at this;exact this.symm)
       have R1:¬(a:Int)=0:=by omega
       obtain⟨r0,z,k0⟩:=O1.o
       have R0:(Z4 f.length 0 f).length=a:=by rw[WO];exact f0.o
       rw[R0]at z;obtain⟨g8,S1,e8,j2,T1⟩:=z.form (by omega);injection e8 with e8 _ e9;subst e8 e9;have C0:M (wr.ownsRow wo.heap.size 208 4 (P (V ⟨g8,0,S⟩) a e0) a r0/\XJ H wr (Z4 f.length 0 f) r0):=⟨z,k0⟩;have s0:=Za R0;clear z k0 R0
       go_wp2_with (at_builtin;refine wpList_append_lies _ rfl (.tmp 46) (.tmp 47) 129 rfl w.heap.size 208 ii _ 4 48 Tryz.underlying129 h0 w0 x0 y0 rfl (by decide) (P va l.length vc) l.length xs rfl ?p1 ⟨g8,0,S⟩ a e0 r0 rfl C0.o.1.1 ?p2 ?p3 (by omega) ?p4 ?p5 ?p6 _ rfl ?p7)
       case p1=>exact q.o.1
       case p2=>
        intro j u hu;have e:=C0.o.1.cells (g:=g8) rfl j u hu
        rwa [YN,z8]at e
       case p3=>exact C0.o.2.ones
       case p4=>unfold maxLen;omega
       case p5=>omega
       case p7=>
        intro g4 b0 w4 d c U _
        have D0:M (YW H w4 w.heap.size (P (V ⟨g4,0,S⟩) (l.length+a) b0) (l++Z4 f.length 0 f)/\F0 w w4):=by
         refine⟨?_,Q0.o.grown c (fun k hk=>E (q.o.1.lt k hk).1)⟩;have e:=YW.grown (g:=g4) (cap:=b0) (l':=Z4 f.length 0 f) q.o.1 q.o.2 C0.o.2 c (by rw[s0.o];exact d);rw[s0.o]at e;exact e
        have r1:w.heap.size<=w4.heap.size:=D0.o.2.size;clear d c U;obtain⟨S0,T0,s1⟩:=D0.o.1;rw[lA,s0.o]at T0;have E0:M (w4.ownsRow w.heap.size 208 4 (P (V ⟨g4,0,S⟩) (l.length+a) b0) (l.length+a) S0/\XJ H w4 (l++Z4 f.length 0 f) S0):=⟨T0,s1⟩;clear T0 s1;go_wp2_with fail;refine(He (HG.o.fr D0.o.2) i r A0.o).mono ?_;rintro e w5 ⟨⟨s,a1,b1,c1,n0,rfl,B,C⟩,Q⟩;have o0:=Za B;have p0:=Za C;have q0:=Za Q;have o1:w.heap.size<=w5.heap.size:=z0 r1 Q.size;clear B C Q
        go_wp2_with (at_builtin;refine wpList_append_lies _ rfl (.tmp 49) (.tmp 53) 129 rfl w.heap.size 208 ii _ 4 48 Tryz.underlying129 h0 w0 x0 y0 rfl (by decide) (P (V ⟨g4,0,S⟩) (l.length+a) b0) (l.length+a) S0 rfl ?y1 ⟨w5.heap.size,0,S⟩ 1 1 [I O s,P a1 b1 c1,I J i,I J 0] rfl rfl ?y2 ?y3 (by decide) ?y4 ?y5 ?y6 _ rfl ?y7)
        case y1=>exact(oF E0.o.1 q0.o (by simp)).alloc _
        case y2=>exact D (aN w5 (Z #[I O s,P a1 b1 c1,I J i,I J 0] 208))
        case y3=>simp[N]
        case y4=>unfold maxLen;omega
        case y5=>omega
        case y6=>simp;omega
        case y7=>
         intro g2 t w6 d c U _
         have F:M (YW H w6 w.heap.size (P (V ⟨g2,0,S⟩) (l.length+a+1) t) ((l++Z4 f.length 0 f)++[Ts i r])/\F0 w w6):=by
          have hf:F0 w4 (w5.alloc (Z #[I O s,P a1 b1 c1,I J i,I J 0] 208)):=q0.o.alloc _;rw[o0.o]
          have t0:(l++Z4 f.length 0 f).length=l.length+a:=by rw[lA,s0.o]
          refine⟨?_,(D0.o.2.trans hf).grown c (fun k hk=>E (E0.o.1.lt k hk).1)⟩;have e:=YW.grown (g:=g2) (cap:=t) (l:=l++Z4 f.length 0 f) (l':=[⟨s,n0,i,0⟩]) (by rw[t0];exact oF E0.o.1 hf (by simp)) (E0.o.2.keep (fun v n ys hv=>oF hv hf (by simp))) (XJ.one ⟨_,rfl,p0.o.alloc _⟩) c (by rw[t0];exact d);rw[t0]at e;exact e
         clear d c U;go_wp2_with fail;go_roundg (n-(k+1))
         case measure=>omega
         case rel=>
          refine⟨k+1,(l++Z4 f.length 0 f)++[Ts i r],by omega,rfl,by go_num,⟨?_,F.o.2,?_,?_⟩⟩
          ·exact F.o.1
          ·have e:=HS.o.eq
           rw[c0.o,if_pos trivial,if_neg a0]at e;rw[e];simp
          ·rw[lA,lA,s0.o]
           simp;omega
  ·have P1:k=n:=by omega
   subst P1
   have A1:¬(k:Int)<(k:Int):=by omega
   go_wp2_with (at_builtin;refine wpList_append_lies _ rfl (.tmp 60) (.tmp 62) 129 rfl w.heap.size 208 ii _ 4 48 Tryz.underlying129 h0 w0 x0 y0 rfl (by decide) (P va l.length vc) l.length xs rfl ?z1 ⟨wr.heap.size,0,S⟩ 1 1 [I O 6,P S 0 0,I J 0,I J 0] rfl rfl ?z2 ?z3 (by decide) ?z4 ?z5 ?z6 _ rfl ?z7)
   case z1=>exact L.o.1.alloc _
   case z3=>simp[N]
   case z4=>unfold maxLen;omega
   case z5=>omega
   case z6=>omega
   case z7=>
    intro g2 t w6 d c U _
    have F:M (YW H w6 w.heap.size (P (V ⟨g2,0,S⟩) (l.length+1) t) (l++[⟨6,[],0,0⟩])/\F0 w w6):=by
     have hf:F0 wr (wr.alloc (Z #[I O 6,P S 0 0,I J 0,I J 0] 208)):=(Fr.refl _ _).alloc _;exact⟨YW.grown (l':=[⟨6,[],0,0⟩]) (L.o.1.alloc _) (L.o.2.keep (fun v n ys hv=>hv.alloc _)) (XJ.one ⟨P S 0 0,rfl,oZ _ _ _ _⟩) c d,(HS.o.fr.trans hf).grown c (fun k hk=>E (L.o.1.lt k hk).1)⟩
    clear d c U;go_wp2_with fail;go_ret;refine⟨⟨_,rfl,?_⟩,F.o.2⟩;have e:=HS.o.eq;rw[dL (by unfold WY;simp)]at e;rw[HN.o,e];exact F.o.1
