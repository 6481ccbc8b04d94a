import Derived.Test.YtccikgogjfbpeaaGreatDoorAk
import Derived.Laws.Tables
open Option renaming none->I,some->J
open Go.Value renaming bool->V,int->Y,string->U,slice->E,pointer->G,agg->z7,bool->y4,oneCell'->q3,string->q9
open Go.IntKind renaming i64->Z,u8->q8,u8->j3
open Go.Proofs.Tryz renaming prog->O
open Go.Ending renaming returned->H,returned->z6
open Go.RowKit renaming Hid->M
open _root_.ByteArray renaming empty->N
open Or renaming inr->C,inl->z5
open Go renaming Calls->z0,World->z4,Value->y5
open Nat renaming le_refl->z1,zero_add->z8,zero_le->y6,le_of_eq->q7
open Go.Obj renaming cells->z2
open List renaming getElem?_map->z3,length_eq_zero_iff->y7,mem_append->y8,length_map->y9,getElem?_toArray->x4,mem_of_mem_take->x5,getElem?_range->x6,length_cons->x8,getElem_mem->x9,mem_cons->q4,any_cons->q5,mem_map->j0,getD->j2
open Go.AllReadyH renaming nil->z9
open Bool renaming and_eq_true->y0,false_eq_true->x7,false_or->q6,true_or->j1
namespace Go.Proofs.YtccikgogjfbpeaaGreatDoor
set_option maxRecDepth 30000
set_option maxHeartbeats 8000000
open Go.RowKit
theorem UP {s}(h:XT s=true):6<=s.size/\s.size<=19/\∀c,c∈s.data.toList->48<=c.toNat/\c.toNat<=57:=by
 unfold XT at h;simp only[y0,decide_eq_true_eq,List.all_eq_true]at h;exact⟨h.1,h.2.1,h.2.2⟩
theorem vA {s}(h:XT s=true)(n)(e:n<6):∃d:Nat,d<10/\ZD s n=48+(d:Int)/\IY (Zy s) n=d:=by
 obtain⟨f,_,b⟩:=UP h
 have g:6<=s.data.toList.length:=by simpa using f
 obtain⟨c,a⟩:∃c,s.data.toList[n]?=J c:=⟨_,gE (by omega)⟩;have i:=b c (mG a);refine⟨c.toNat-48,by omega,?_,FT b g n e c a⟩;unfold ZD;rw[gD,a];simp only[Option.getD_some];omega
theorem FW (d:Nat)(h:d<10):j3.wrap (48+(d:Int)-48)=(d:Int):=by
 have:d=0\/d=1\/d=2\/d=3\/d=4\/d=5\/d=6\/d=7\/d=8\/d=9:=by omega
 rcases this with rfl|rfl|rfl|rfl|rfl|rfl|rfl|rfl|rfl|rfl<;>decide
def xq (w:z4)(d B o n:Nat)(t:Tr)(a b:y5)(dg:Nat->Nat)(c:Nat):Prop:=
 w.cell? ⟨B,o,I⟩=J a/\w.cell? ⟨B,o+1,I⟩=J b/\Xf w d t (z7 #[a,b])/\t.deep n/\t.find dg n=c
theorem zi (w u v t a b s f)(h:xq w u v 3 0 t a b (IY (Zy s)) f)(D:XT s=true):
  z0 O 65 #[G (J ⟨v,0,I⟩),U s] w fun e w'=>e=H (Y Z (f:Nat))/\F0 w w':=by
 have S:=Za h;have T:=Za D;have V:=(UP D).1;go_enter Tryz.func65,Tryz.ntmps65;go_wp2_with fail
 go_loopg [5,6] 7 (fun m x i wr=>∃B o n t a b,n<=6/\m=7-n/\x=G (J ⟨B,o,I⟩)/\i=Y Z (n:Nat)/\M (xq w u B o n t a b (IY (Zy s)) f)/\M (F0 w wr))
 case atStart=>exact⟨v,3,0,t,a,b,by omega,rfl,rfl,rfl,S,Zt⟩
 obtain⟨B,o,n,t,a,b,hn,rfl,rfl,rfl,W,r⟩:=hrel;obtain⟨E,c1,F,X,k⟩:=W.o;have l:=bL w _ E;have d0:=(r.o.cell (p:=⟨B,o,I⟩) l).trans E;have d1:=(r.o.cell (p:=⟨B,o+1,I⟩) l).trans c1
 cases t with
 |leaf q=>
  have e:=F;injection e with e
  obtain⟨rfl,rfl⟩:a=G I/\b=Y Z (q:Nat):=by simpa using e
  have hq:=k;subst hq;go_wp2_with fail;go_ret;exact⟨rfl,r.o⟩
 |node L=>
  obtain⟨K,cs,e,a0,N,b0,g⟩:=F;injection e with e
  obtain⟨rfl,rfl⟩:a=G (J ⟨K,0,I⟩)/\b=Y Z 0:=by simpa using e
  obtain⟨y,j⟩:=X;obtain⟨d,c,hb,z⟩:=vA T.o n y;obtain⟨Q,R,e1,e2,e3⟩:=g d c
  have A:M (xq w u K (d*2) (n+1) (L d) Q R (IY (Zy s)) f):=by
   refine⟨bC N _ _ e1,bC N _ _ e2,e3,j d c,?_⟩;rw[<-k,Tr.find,z]
  have C:=fun w=>VK (P:=O) Tryz.underlying9 s n (n:Int) rfl (by omega) w
  rw[hb]at C
  have e0:(n:Int)<(s.size:Int):=by omega
  have f0:(d:Int)<10:=by omega
  have g0:=FW d c;go_wp2_with fail
  go_quiet (fail)
  go_wp2_with fail;go_roundg (7-(n+1))
  case measure=>omega
  exact⟨K,d*2,n+1,L d,Q,R,by omega,rfl,rfl,by go_num,A,r.o.trans ⟨rfl,rfl,rfl,z1 _,fun _ _ _=>rfl⟩⟩
theorem He (w D a c l s)(i:w.cell? ⟨D,0,I⟩=J (E a l.length c))(h:Yf w a l)(f:l.length<=maxLen):
  z0 O 37 #[U s,G (J ⟨D,0,I⟩)] w fun e w'=>e=H (V (JH l s))/\w'=w:=by
 have g:=Za (LH w a c l s h f);clear h f;generalize l.length=n at*;generalize JH l s=b at*;go_enter Tryz.func37,Tryz.ntmps37;go_wp2_with fail;refine g.o.mono ?_;rintro e j ⟨rfl,d⟩;replace d:=d.symm;subst d;go_wp2_with fail;go_ret;exact⟨rfl,rfl⟩
def Vk (rts:List Zf)(l:List ByteArray)(i:Nat):Bool:=match rts[i]? with
 |none=>false
 |some t=>JH l t.name
def Mu (f:Nat->Bool)(i:Nat):Array y5:=((List.range 6).map fun j=>y4 (if j<i then f j else false)).toArray
theorem C0 (f i)(h:i<6):(Mu f i).setIfInBounds i (V (f i))=Mu f (i+1):=by
 have:i=0\/i=1\/i=2\/i=3\/i=4\/i=5:=by omega
 rcases this with rfl|rfl|rfl|rfl|rfl|rfl<;>rfl
theorem C1 (rts l j)(a:j<6):(Mu (Vk rts l) rts.length)[j]?=J (V (Vk rts l j)):=by
 unfold Mu;rw[x4,z3,x6 a];simp only[Option.map_some];by_cases e:j<rts.length
 ·rw[if_pos e]
 rw[if_neg e,Vk,List.getElem?_eq_none (by omega)]
theorem FX (f i j)(a:j<6):∃v,(Mu f i)[j]?=J v:=by
 unfold Mu;rw[x4,z3,x6 a];exact⟨_,rfl⟩
structure wC (w:z4)(A1 A2:Nat)(f:Nat->Bool)(i:Nat)(wx:z4):Prop where
 fr:F0 w wx
 b1:wx.heap[A1]?=J (z2 #[V false,V false,V false,V false,V false,V false] 124)
 b2:wx.heap[A2]?=J (z2 (Mu f i) 124)
theorem wC.fr' {w b c d e f i}(h:wC w d e f i b)(a:F0 b c):wC w d e f i c:=
 ⟨h.fr.trans a,a.whole h.b1,a.whole h.b2⟩
theorem wC.step {w b c a f i}(h:wC w c a f i b)(g:w.heap.size<=a)(d:c≠a)(hi:i<6):wC w c a f (i+1) (b.setCell ⟨a,i,I⟩ (V (f i)))/\(∃u,b.cell? ⟨a,i,I⟩=J u)/\b.frozen? ⟨a,i,I⟩=false:=by
 have j:Fr (fun k=>k=a) b (b.setCell ⟨a,i,I⟩ (V (f i))):=(Fr.refl (fun k=>k=a) b).setCell (p:=⟨a,i,I⟩) (z5 rfl) _;refine⟨⟨h.fr.setCell (p:=⟨a,i,I⟩) (C g) _,j.whole h.b1 d,?_⟩,?_,bF h.b2 i⟩
 ·have e:=heap_setCell_same b a i _ _ (V (f i)) h.b2
  rw[C0 f i hi]at e;exact e
 obtain⟨v,l⟩:=FX f i i hi
 exact⟨v,bC h.b2 _ _ l⟩
theorem C2 (w F Q D rts ra rc a c l)(B:PS w F Q rts ra rc)(h6:rts.length<=6)(K:w.cell? ⟨D,0,I⟩=J (E a l.length c))(h:Yf w a l)(hl:l.length<=maxLen):
  z0 O 63 #[G (J ⟨F,0,I⟩),.func (.func 37) #[] #[G (J ⟨D,0,I⟩)]] w fun e w'=>e=H (z7 #[V (Vk rts l 0),V (Vk rts l 1),V (Vk rts l 2),V (Vk rts l 3),V (Vk rts l 4),V (Vk rts l 5)])/\F0 w w':=by
 have HR:=Za B;have L:=B.c0;have r:=bL w _ K
 have HD:M (∀W s,F0 w W->z0 O 37 #[U s,G (J ⟨D,0,I⟩)] W fun e w'=>e=H (V (JH l s))/\w'=W):=fun W s hf=>He W D a c l s ((hf.cell (p:=⟨D,0,I⟩) r).trans K) (h.fr hf) hl
 obtain⟨n,N⟩:∃n,rts.length=n:=⟨_,rfl⟩;have HN:=Za N;rw[N]at L h6;have P:=Za (bL w _ B.c0)
 have q:M (wC w w.heap.size (w.heap.size+1) (Vk rts l) 0 ((w.alloc (z2 #[V false,V false,V false,V false,V false,V false] 124)).alloc (z2 #[V false,V false,V false,V false,V false,V false] 124))):=
  ⟨(Zt.alloc _).alloc _,((Fr.refl (fun _=>False) _).alloc _).whole (aN w _),by have e:=aN (w.alloc (z2 #[V false,V false,V false,V false,V false,V false] 124)) (z2 #[V false,V false,V false,V false,V false,V false] 124);rw[show(w.alloc (z2 #[V false,V false,V false,V false,V false,V false] 124)).heap.size=w.heap.size+1 from by simp]at e;exact e⟩
 have i0:=(q.o.fr.cell (p:=⟨F,0,I⟩) P.o).trans L;clear B K h hl r N L;go_enter Tryz.func63,Tryz.ntmps63;go_upto_region 2 with fail;generalize(w.alloc _).alloc _=W at*;obtain⟨A,k⟩:∃A,w.heap.size=A:=⟨_,rfl⟩;have HA:=Za k;rw[k]at q;rw[k];clear k;go_wp2_with fail
 go_loopg [6,7,13] n (fun m _ _ kv wx=>∃i,i<=n/\m=n-i/\kv=Y Z (i:Nat)/\M (wC w A (A+1) (Vk rts l) i wx))
 case atStart=>exact⟨0,y6 _,rfl,rfl,q⟩
 obtain⟨i,hi,rfl,rfl,b⟩:=hrel;by_cases j0:i<n
 ·have R:(i:Int)<(n:Int):=by omega
  have k0:(i:Int)<6:=by omega
  obtain⟨t,S⟩:∃t,rts[i]?=J t:=⟨_,gE (by have:=HN.o;omega)⟩;obtain⟨g,rfl,_,e0,e1,e2⟩:=(HR.o.fr (b.o.fr.mono)).rt i t S
  have T:M (Vk rts l i=JH l t.name):=by show _=_;unfold Vk;rw[S]
  have a0:=(VA wr (z2 #[U t.name,Y Z (t.base:Nat),Y Z (t.rate:Nat)] 148)).1;have hX:=aN wr (z2 #[U t.name,Y Z (t.base:Nat),Y Z (t.rate:Nat)] 148);have x0:=Zc hX 0;clear S hX;go_upto_region 5 with fail;generalize wr.alloc _=W1 at*;generalize wr.heap.size=X at*;have x:=Za (b.o.fr' a0.o);obtain⟨y,⟨u,hu⟩,l0⟩:=x.o.step (by have:=HA.o;omega) (by omega) (by omega);have z:=Za y;rw[T.o]at z;clear y e0 e1 e2;go_wp2_with fail;refine(HD.o _ _ x.o.fr).mono ?_;rintro e w2 ⟨rfl,hw⟩;replace hw:=hw.symm;subst hw;go_wp2_with fail;go_roundg (n-(i+1))
  case measure=>omega
  exact⟨i+1,by omega,rfl,by go_num,z⟩
 have R:¬(i:Int)<(n:Int):=by omega
 have g0:i=n:=by omega
 subst g0
 have d:=fun j hj=>bC b.o.b2 j _ (by have e:=C1 rts l j hj;rw[HN.o]at e;exact e)
 have d0:=d 0 (by omega);have d1:=d 1 (by omega);have d2:=d 2 (by omega);have d3:=d 3 (by omega);have d4:=d 4 (by omega);have d5:=d 5 (by omega);have b0:wr.cell? ⟨A,0,I⟩=J (V false):=bC b.o.b1 0 _ rfl;have f0:=bF b.o.b1 0;have b1:wr.cell? ⟨A,1,I⟩=J (V false):=bC b.o.b1 1 _ rfl;have f1:=bF b.o.b1 1;have b2:wr.cell? ⟨A,2,I⟩=J (V false):=bC b.o.b1 2 _ rfl;have f2:=bF b.o.b1 2;have b3:wr.cell? ⟨A,3,I⟩=J (V false):=bC b.o.b1 3 _ rfl;have f3:=bF b.o.b1 3;have b4:wr.cell? ⟨A,4,I⟩=J (V false):=bC b.o.b1 4 _ rfl;have f4:=bF b.o.b1 4;have b5:wr.cell? ⟨A,5,I⟩=J (V false):=bC b.o.b1 5 _ rfl;have f5:=bF b.o.b1 5;clear d;have e6:=heap_setCell_same _ A 5 _ _ (V (Vk rts l 5)) (heap_setCell_same _ A 4 _ _ (V (Vk rts l 4)) (heap_setCell_same _ A 3 _ _ (V (Vk rts l 3)) (heap_setCell_same _ A 2 _ _ (V (Vk rts l 2)) (heap_setCell_same _ A 1 _ _ (V (Vk rts l 1)) (heap_setCell_same wr A 0 _ _ (V (Vk rts l 0)) b.o.b1)))));have f:=Za e6;clear e6;go_wp2_with fail;have s0:=bC f.o 0 (V (Vk rts l 0)) rfl;have s1:=bC f.o 1 (V (Vk rts l 1)) rfl;have s2:=bC f.o 2 (V (Vk rts l 2)) rfl;have s3:=bC f.o 3 (V (Vk rts l 3)) rfl;have s4:=bC f.o 4 (V (Vk rts l 4)) rfl;have s5:=bC f.o 5 (V (Vk rts l 5)) rfl;have k:w.heap.size<=A:=q7 HA.o;refine bodyPost_ret (v:=z7 #[V (Vk rts l 0),V (Vk rts l 1),V (Vk rts l 2),V (Vk rts l 3),V (Vk rts l 4),V (Vk rts l 5)]) (by simp[results,Tryz.results63,go_sem,s0,s1,s2,s3,s4,s5]) rfl ⟨rfl,?_⟩;exact(((((b.o.fr.setCell (p:=⟨A,0,I⟩) (C k) _).setCell (p:=⟨A,1,I⟩) (C k) _).setCell (p:=⟨A,2,I⟩) (C k) _).setCell (p:=⟨A,3,I⟩) (C k) _).setCell (p:=⟨A,4,I⟩) (C k) _).setCell (p:=⟨A,5,I⟩) (C k) _
theorem FY (w):z0 O 112 #[] w fun e w'=>e=H (z7 #[.func (.func 165) #[] #[],.func (.func 166) #[] #[],.func (.func 167) #[] #[],.func (.func 168) #[] #[],.func (.func 169) #[] #[],.func (.func 170) #[] #[],.func (.func 171) #[] #[]])/\F0 w w':=by
 have f:=fun(w:z4)(a:Addr)(m:Mode)(fn:Fn)(x y:Array y5)=>run_store O w a (.func fn x y) m rfl
 go_enter Tryz.func112,Tryz.ntmps112;have b:=aN w (z2 #[.nilFunc,.nilFunc,.nilFunc,.nilFunc,.nilFunc,.nilFunc,.nilFunc] 204);have g:=(VA w (z2 #[.nilFunc,.nilFunc,.nilFunc,.nilFunc,.nilFunc,.nilFunc,.nilFunc] 204)).1;go_upto_region 1 with fail;generalize w.alloc _=W at*;obtain⟨A,c⟩:∃A,w.heap.size=A:=⟨_,rfl⟩;have h:=Za c;rw[c]at b;rw[c];have s:W.cell? ⟨A,0,I⟩=J .nilFunc:=bC b 0 _ rfl;have t:=bF b 0;have u:W.cell? ⟨A,1,I⟩=J .nilFunc:=bC b 1 _ rfl;have z:=bF b 1;have B:W.cell? ⟨A,2,I⟩=J .nilFunc:=bC b 2 _ rfl;have D:=bF b 2;have E:W.cell? ⟨A,3,I⟩=J .nilFunc:=bC b 3 _ rfl;have F:=bF b 3;have G:W.cell? ⟨A,4,I⟩=J .nilFunc:=bC b 4 _ rfl;have K:=bF b 4;have L:W.cell? ⟨A,5,I⟩=J .nilFunc:=bC b 5 _ rfl;have M:=bF b 5;have N:W.cell? ⟨A,6,I⟩=J .nilFunc:=bC b 6 _ rfl;have P:=bF b 6;have d:=Za (heap_setCell_same _ A 6 _ _ (.func (.func 171) #[] #[]) (heap_setCell_same _ A 5 _ _ (.func (.func 170) #[] #[]) (heap_setCell_same _ A 4 _ _ (.func (.func 169) #[] #[]) (heap_setCell_same _ A 3 _ _ (.func (.func 168) #[] #[]) (heap_setCell_same _ A 2 _ _ (.func (.func 167) #[] #[]) (heap_setCell_same _ A 1 _ _ (.func (.func 166) #[] #[]) (heap_setCell_same W A 0 _ _ (.func (.func 165) #[] #[]) b)))))));go_wp2_with fail;have i:=bC d.o 0 (.func (.func 165) #[] #[]) rfl;have j:=bC d.o 1 (.func (.func 166) #[] #[]) rfl;have k:=bC d.o 2 (.func (.func 167) #[] #[]) rfl;have l:=bC d.o 3 (.func (.func 168) #[] #[]) rfl;have n:=bC d.o 4 (.func (.func 169) #[] #[]) rfl;have q:=bC d.o 5 (.func (.func 170) #[] #[]) rfl;have r:=bC d.o 6 (.func (.func 171) #[] #[]) rfl;have b:w.heap.size<=A:=q7 h.o;refine bodyPost_ret (v:=z7 #[.func (.func 165) #[] #[],.func (.func 166) #[] #[],.func (.func 167) #[] #[],.func (.func 168) #[] #[],.func (.func 169) #[] #[],.func (.func 170) #[] #[],.func (.func 171) #[] #[]]) (by simp[results,Tryz.results112,go_sem,i,j,k,l,n,q,r]) rfl ⟨rfl,?_⟩
 exact((((((g.o.setCell (p:=⟨A,0,I⟩) (C b) _).setCell (p:=⟨A,1,I⟩) (C b) _).setCell (p:=⟨A,2,I⟩) (C b) _).setCell (p:=⟨A,3,I⟩) (C b) _).setCell (p:=⟨A,4,I⟩) (C b) _).setCell (p:=⟨A,5,I⟩) (C b) _).setCell (p:=⟨A,6,I⟩) (C b) _
def Mv (w:z4)(Q:Nat)(c:Option Addr)(l:List Zl):Prop:=
 ∀k s,l[k]?=J s->∃g a d,c=J ⟨g,0,I⟩/\g≠Q/\w.cell? ⟨g,k*4,I⟩=J (Y q8 (s.sort:Nat))/\w.cell? ⟨g,k*4+1,I⟩=J (E a s.nums.length d)/\w.cell? ⟨g,k*4+2,I⟩=J (Y Z (s.rule:Nat))/\w.cell? ⟨g,k*4+3,I⟩=J (Y Z (s.skip:Nat))/\Zu w a s.nums/\∀b,a=J ⟨b,0,I⟩->b≠Q
theorem Mv.fr {w w' Q d l}(h:Mv w Q d l)(a:Fr (fun j=>j=Q) w w'):Mv w' Q d l:=by
 intro k s i;obtain⟨g,m,n,o,b,e,q,r,t,u,f⟩:=h k s i;have c:=bL w _ e;exact⟨g,m,n,o,b,(a.cell (p:=⟨g,k*4,I⟩) c b).trans e,(a.cell (p:=⟨g,k*4+1,I⟩) c b).trans q,(a.cell (p:=⟨g,k*4+2,I⟩) c b).trans r,(a.cell (p:=⟨g,k*4+3,I⟩) c b).trans t,u.fr a f,f⟩
def vB (s:Zl):Prop:=s.nums.length<=4000/\s.skip<=255/\(s.sort=1->∃x y,s.nums=[x,y])
def U6 (rts:List Zf)(a:ByteArray)(s:Zl)(b:Nat->Bool)(c:Int):Nat×ByteArray×ByteArray:=
 if s.sort=3 then(3,a,N)else if s.sort=4 then Mt rts a (YL false (XR rts c) b s.nums I)else if s.sort=5 then Mt rts a (YL true (XR rts c) b s.nums I)else(2,N,N)
def zj (w:z4)(a Q:Nat)(rts:List Zf)(b:ByteArray)(s:Zl):Prop:=
 s.sort=6\/((s.sort=3\/s.sort=4\/s.sort=5)/\s.nums.length<=4000/\(∀x,x∈s.nums->x<rts.length)/\∃g m c,OT w a Q s.rule b g m c)
theorem zj.fr {w w' a Q rts b s}(h:zj w a Q rts b s)(c:Fr (fun j=>j=Q) w w'):zj w' a Q rts b s:=by
 rcases h with h|⟨d,e,f,g,m,i,k⟩
 ·exact z5 h
 exact C ⟨d,e,f,g,m,i,k.fr c⟩
def uq (W:z4)(Q b:Nat)(p:WF)(c:Nat->Bool)(o:Nat×ByteArray×ByteArray)(l:List Zl)(d:Zl)(a:Nat×ByteArray×ByteArray)(m:Nat)(wr:z4):Prop:=
 Fr (fun j=>j=Q) W wr/\((∃k,wr.heap[Q]?=J (UF b p c k false o)/\XQ (RS p) l m k=J d)\/∃k,wr.heap[Q]?=J (UF b p c k true a))
theorem C3 {c l m k d}(h:XQ c l m k=J d):∃b s,m=b+1/\l[k]?=J s/\(s.sort<3/\XQ c l b (if c s then k+1 else k+s.skip)=J d\/¬s.sort<3/\s=d):=by
 cases m with
 |zero=>simp[XQ]at h
 |succ b=>
  unfold XQ at h
  cases e:l[k]? with
  |none=>rw[e]at h;cases h
  |some s=>
   rw[e]at h
   dsimp only at h
   refine⟨b,s,rfl,rfl,?_⟩
   split at h
   ·rename_i a
    exact z5 ⟨a,h⟩
   rename_i a
   injection h with h;exact C ⟨a,h⟩
theorem Hf (w Q r p t o pa pc l sE rts ra rc nm)(h:w.heap[Q]?=J (UF r p t 0 false o))(w0:Mv w Q pa l)(x0:∀s,s∈l->s.sort<3->vB s)(hl:l.length<=1000)(hm:∃n,XQ (RS p) l n 0=J sE)(y0:zj w r Q rts nm sE)(hr:PS w r Q rts ra rc)(h6:rts.length<=6)(A0:0<=p.am/\p.am<=1000000000):
  z0 O 64 #[G (J ⟨Q,0,I⟩),E pa l.length pc] w fun e w'=>e=H (.tuple #[])/\(∃k,w'.heap[Q]?=J (UF r p t k true (U6 rts nm sE t p.am)))/\Fr (fun j=>j=Q) w w':=by
 obtain⟨n0,hm⟩:=hm;obtain⟨u,a0⟩:∃u,U6 rts nm sE t p.am=u:=⟨_,rfl⟩;have j0:=Za a0;have HH:=Za h;have B0:=Za w0;have C0:=Za x0;have HM:=Za hm;have D0:=Za y0;have HR:=Za hr;have H6:=Za h6;have k0:=Za A0;obtain⟨n,hn⟩:∃n,l.length=n:=⟨_,rfl⟩;have HN:=Za hn;rw[hn]at hl;rw[hn,a0]
 have X0:=fun(w:z4)(a:Addr)(m:Mode)(fn:Fn)(x y:Array y5)=>run_store O w a (.func fn x y) m rfl
 go_enter Tryz.func64,Tryz.ntmps64;go_wp2_with fail;refine(FY w).mono ?_;rintro e w1 ⟨rfl,l0⟩;have P:=Za (l0.alloc (z2 #[.func (.func 165) #[] #[],.func (.func 166) #[] #[],.func (.func 167) #[] #[],.func (.func 168) #[] #[],.func (.func 169) #[] #[],.func (.func 170) #[] #[],.func (.func 171) #[] #[]] 204));have HA:=(VA w1 (z2 #[.func (.func 165) #[] #[],.func (.func 166) #[] #[],.func (.func 167) #[] #[],.func (.func 168) #[] #[],.func (.func 169) #[] #[],.func (.func 170) #[] #[],.func (.func 171) #[] #[]] 204)).2
 have m0:M (w1.heap.size≠Q):=by have:=(iA.1 HH.o).1;have:=l0.size;show _≠_;omega
 go_upto_region 1 with fail;generalize w1.alloc _=W at*;generalize w1.heap.size=A at*;have E0:M (uq W Q r p t o l sE u n0 W):=⟨Zt,z5 ⟨0,P.o.whole HH.o,HM.o⟩⟩;have o0:=Za (B0.o.fr (P.o.mono));have p0:=Za (D0.o.fr (P.o.mono));have q0:=Za (HR.o.fr (P.o.mono))
 go_loopg [5] n0 (fun m _ wr=>M (uq W Q r p t o l sE u m wr))
 case atStart=>exact E0
 obtain⟨b0,⟨k,hq,G0⟩|⟨k,hq⟩⟩:=hrel.o
 ·obtain⟨m',s,rfl,hs,c0⟩:=C3 G0
  obtain⟨g,B,K,rfl,Y0,e0,e1,e2,e3,H0,I0⟩:=(o0.o.fr b0) k s hs;have J0:=Zc hq 12;have Z0:=Zc hq 11
  have a1:k<n:=by have:=(iG.1 hs).1;have:=HN.o;omega
  have b1:(k:Int)<(n:Int):=by omega
  have HK:M (k<=100000):=by show _<=_;omega
  have S:=Za b0;have HQ:=Za hq;have K0:M (Q<wr.heap.size):=(iA.1 hq).1;have HS:=Za (mG hs);have L0:=Za c0;have M0:M (Zu wr B s.nums/\∀g',B=J ⟨g',0,I⟩->g'≠Q):=⟨H0,I0⟩;obtain⟨U,N0⟩:=VA wr (z2 #[Y q8 (s.sort:Nat),E B s.nums.length K,Y Z (s.rule:Nat),Y Z (s.skip:Nat)] 208);have r0:M (wr.heap.size≠Q/\A≠Q):=⟨by have:=K0.o;omega,m0.o⟩;go_upto_region 3 with fail;generalize wr.alloc _=N at*;generalize wr.heap.size=X at*;have O0:=Za (U.o.whole HQ.o);have d0:=U.o.whole (S.o.whole HA.o m0.o);have d0:=Za d0;have s0:=Za (S.o.trans (U.o.mono));have P0:=Za (M0.o.1.fr U.o)
  have Q0:M (∃F,(∀b,Fr (fun j=>j=Q) N b->b.cell? ⟨A,s.sort,I⟩=J (.func (.func F) #[] #[]))/\s.sort<7/\(∀args W,(callFunc F args).run O W=.ok (.enter F args) W)/\∀b,F0 N b->z0 O F #[G (J ⟨Q,0,I⟩),z7 #[Y q8 (s.sort:Nat),E B s.nums.length K,Y Z (s.rule:Nat),Y Z (s.skip:Nat)]] b fun e w'=>e=H (.tuple #[])/\uq W Q r p t o l sE u m' w'/\Fr (fun j=>j=Q) b w'):=by
   have cA:=fun i v hv b (d:Fr (fun j=>j=Q) N b)=>bC (d.whole d0.o (fun e=>r0.o.2 e)) i v hv
   have q:=fun b (d:F0 N b)=>s0.o.trans (d.mono (T:=fun j=>j=Q))
   have hQ:=fun b (d:F0 N b)=>d.whole O0.o
   have hI:=fun b (d:F0 N b)=>P0.o.fr d
   rcases L0.o with⟨R0,L⟩|⟨c1,S0⟩
   ·obtain⟨R,d1,T0⟩:=C0.o s HS.o R0
    have f:s.sort=0\/s.sort=1\/s.sort=2:=by omega
    rcases f with c|c|c
    ·refine⟨165,c▸cA 0 _ rfl,by omega,fun _ _=>by kernel_rfl,fun b d=>?_⟩
     rw[c];refine(zh _ p.mcc b Q r k p t o 0 B s.nums K s.rule s.skip (hQ b d) HK.o (by omega) (hI b d) R (z5 ⟨rfl,rfl⟩)).mono ?_;rintro e w' ⟨D,z,f⟩;rw[show RS p s=Uo s.nums p.mcc from by unfold RS;rw[if_pos c]]at L;exact⟨D,⟨(q b d).trans f,z5 ⟨_,z,L⟩⟩,f⟩
    ·refine⟨166,c▸cA 1 _ rfl,by omega,fun _ _=>by kernel_rfl,fun b d=>?_⟩
     obtain⟨x,y,f0⟩:=T0 c;have hi:=hI b d;rw[f0]at hi;rw[c,show s.nums.length=2 from by rw[f0];rfl];refine(LJ b Q r k p t o 1 B x y K s.rule s.skip (hQ b d) HK.o (by omega) hi).mono ?_;rintro e w' ⟨D,z,f⟩;rw[show RS p s=(decide ((x:Int)<=p.am)&&decide (p.am<=(y:Int)))from by unfold RS;rw[if_neg (by omega),if_pos c,f0];rfl]at L;exact⟨D,⟨(q b d).trans f,z5 ⟨_,z,L⟩⟩,f⟩
    refine⟨167,c▸cA 2 _ rfl,by omega,fun _ _=>by kernel_rfl,fun b d=>?_⟩
    rw[c];refine(zh _ p.cur b Q r k p t o 2 B s.nums K s.rule s.skip (hQ b d) HK.o (by omega) (hI b d) R (C ⟨rfl,rfl⟩)).mono ?_;rintro e w' ⟨D,z,f⟩;rw[show RS p s=Uo s.nums p.cur from by unfold RS;rw[if_neg (by omega),if_neg (by omega)]]at L;exact⟨D,⟨(q b d).trans f,z5 ⟨_,z,L⟩⟩,f⟩
   have V:=j0.o
   subst S0;unfold U6 at V
   have hE:∀{v:Nat×ByteArray×ByteArray}{b w':z4},F0 N b->w'.heap[Q]?=J (UF r p t k true v)->v=u->Fr (fun j=>j=Q) b w'->uq W Q r p t o l s u m' w':=fun d z ev f=>⟨(q _ d).trans f,C ⟨k,ev▸z⟩⟩
   rcases p0.o with c|⟨c,R,t0,ng,g0,h0,i0⟩
   ·refine⟨171,c▸cA 6 _ rfl,by omega,fun _ _=>by kernel_rfl,fun b d=>?_⟩
    simp only[c]at V ⊢
    exact(Ms b Q r k p t o 6 B s.nums.length K s.rule s.skip (hQ b d)).mono fun e w' ⟨D,z,f⟩=>⟨D,hE d z (by simpa using V) f,f⟩
   rcases c with c|c|c
   ·refine⟨168,c▸cA 3 _ rfl,by omega,fun _ _=>by kernel_rfl,fun b d=>?_⟩
    simp only[c]at V ⊢
    exact(JI b Q r k p t o 3 B s.nums.length K s.rule s.skip nm ng g0 h0 (hQ b d) (i0.fr (q b d))).mono fun e w' ⟨D,z,f⟩=>⟨D,hE d z (by simpa using V) f,f⟩
   ·refine⟨169,c▸cA 4 _ rfl,by omega,fun _ _=>by kernel_rfl,fun b d=>?_⟩
    simp only[c]at V ⊢
    exact(LK b Q r k p t o 4 B s.nums K s.rule s.skip nm ng g0 h0 rts ra rc (hQ b d) (i0.fr (q b d)) (q0.o.fr (q b d)) (hI b d) R t0 H6.o k0.o).mono fun e w' ⟨D,z,f⟩=>⟨D,hE d z (by simpa using V) f,f⟩
   refine⟨170,c▸cA 5 _ rfl,by omega,fun _ _=>by kernel_rfl,fun b d=>?_⟩
   simp only[c]at V ⊢
   exact(PT b Q r k p t o 5 B s.nums K s.rule s.skip nm ng g0 h0 rts ra rc (hQ b d) (i0.fr (q b d)) (q0.o.fr (q b d)) (hI b d) R t0 H6.o k0.o).mono fun e w' ⟨D,z,f⟩=>⟨D,hE d z (by simpa using V) f,f⟩
  obtain⟨F,hF,f1,g1,hC⟩:=Q0.o
  have v0:M (∀b,Fr (fun j=>j=Q) N b->b.cell? ⟨X,0,I⟩=J (Y q8 (s.sort:Nat))/\b.cell? ⟨X,1,I⟩=J (E B s.nums.length K)/\b.cell? ⟨X,2,I⟩=J (Y Z (s.rule:Nat))/\b.cell? ⟨X,3,I⟩=J (Y Z (s.skip:Nat))/\b.cell? ⟨A,s.sort,I⟩=J (.func (.func F) #[] #[])):=fun b d=>by
   have hx:=d.whole N0.o (fun e=>r0.o.1 e);exact⟨Zc hx 0,Zc hx 1,Zc hx 2,Zc hx 3,hF b d⟩
  have HC:M (∀b,M (F0 N b)->z0 O F #[G (J ⟨Q,0,I⟩),z7 #[Y q8 (s.sort:Nat),E B s.nums.length K,Y Z (s.rule:Nat),Y Z (s.skip:Nat)]] b fun e w'=>e=H (.tuple #[])/\M (uq W Q r p t o l sE u m' w')/\w'.cell? ⟨X,0,I⟩=J (Y q8 (s.sort:Nat))/\w'.cell? ⟨X,1,I⟩=J (E B s.nums.length K)/\w'.cell? ⟨X,2,I⟩=J (Y Z (s.rule:Nat))/\w'.cell? ⟨X,3,I⟩=J (Y Z (s.skip:Nat))/\w'.cell? ⟨A,s.sort,I⟩=J (.func (.func F) #[] #[])):=fun b d=>(hC b d.o).mono fun e w' ⟨D,z,f⟩=>⟨D,z,v0.o _ ((d.o.mono).trans f)⟩
  have hS:=v0.o N Zt;have h1:M (F0 N N.drew):=Zt.drew
  have W0:(s.sort:Int)<7:=by omega
  go_region_held3 (fun b=>b.cell? ⟨X,0,I⟩=J (Y q8 (s.sort:Nat))/\b.cell? ⟨X,1,I⟩=J (E B s.nums.length K)/\b.cell? ⟨X,2,I⟩=J (Y Z (s.rule:Nat))/\b.cell? ⟨X,3,I⟩=J (Y Z (s.skip:Nat))/\b.cell? ⟨A,s.sort,I⟩=J (.func (.func F) #[] #[])) (first|assumption|go_keep) (first
   |(refine(HC.o _ (by assumption)).mono ?_;rintro e w7 ⟨rfl,V0,i1⟩))
  go_wp2_with fail;go_roundg m'
  case measure=>omega
  exact V0
 have J0:=Zc hq 12
 have HQ:=Za hq;have S:=Za ((P.o.mono).trans b0);go_wp2_with fail
 go_end0
 exact⟨rfl,⟨k,HQ.o⟩,S.o⟩
theorem Fr.setRow {S w0 w}(h:Fr S w0 w){g}(b:S g\/w0.heap.size<=g)(a):Fr S w0 (w.setRow g a):=
 h.monoNew (T:=fun k=>k=g) ⟨rfl,rfl,rfl,by simp,fun k _ c=>setRow_other w g k a c⟩ (fun k d=>by subst d;exact b)
theorem Sl (R:List Ze)(met:Nat):∀L:List Nat,(ZJ R met L).length<=L.length*4+1
 |[]=>by simp[ZJ]
 |i::L=>by
  have a:=Sl R met L;simp only[ZJ,x8]
  split
  ·cases b:R[i]? with
   |none=>dsimp only;omega
   |some r=>
    dsimp only
    split
    ·simp
    have c:=Tp r
    rw[lA,x8,Si,VJ];omega
  omega
theorem Kv {m:Nat}:∀{l:List Zl}{a:Nat}{s:Zl},s∈ZO m a l->∃b,b∈l/\s.sort=b.sort/\s.nums=b.nums/\s.skip<=m+1
 |[],_,_,h=>by cases h
 |x::r,a,s,h=>by
  rcases q4.1 h with e|h
  ·subst e
   exact⟨x,by simp,rfl,rfl,by show m-a+1<=m+1;omega⟩
  obtain⟨b,c,d⟩:=Kv h
  exact⟨b,by simp[c],d⟩
theorem C4 {n r}(h:Tf n r):∀s,s∈Z6 r->s.nums.length<=4000/\(s.sort=1->∃x y,s.nums=[x,y]):=by
 intro s a;unfold Z6 at a;rw[y8,y8]at a;rcases a with e|e|e
 ·split at e
  ·cases e
  simp at e;subst e;exact⟨h.mc.1,fun e=>by simp at e⟩
 ·cases b:r.am with
  |none=>rw[b]at e;cases e
  |some c=>rw[b]at e;simp at e;subst e;exact⟨by simp,fun _=>⟨_,_,rfl⟩⟩
 split at e
 ·cases e
 simp at e;subst e;exact⟨h.cu.1,fun e=>by simp at e⟩
theorem Pc {R:List Ze}{n:Nat}(c:∀r,r∈R->Tf n r)(met:Nat):∀(L:List Nat)(s:Zl),s∈ZJ R met L->s.sort<3->vB s
 |[],s,h,hs=>by
  simp[ZJ]at h;subst h;simp at hs
 |i::L,s,h,hs=>by
  have a:=Pc c met L s;simp only[ZJ]at h
  split at h
  ·cases b:R[i]? with
   |none=>rw[b]at h;exact a h hs
   |some r=>
    rw[b]at h
    dsimp only at h
    split at h
    ·simp at h
     subst h;exact absurd hs (Q7 i r)
    rw[y8]at h
    rcases h with h|h
    ·obtain⟨f,g,j,d,k⟩:=Kv h
     obtain⟨g1,g2⟩:=C4 (c r (mG b)) f g;have g3:=Tp r;exact⟨by rw[d];exact g1,by omega,fun e=>by rw[d];exact g2 (by rw[<-j];exact e)⟩
    rcases q4.1 h with e|h
    ·subst e
     exact absurd hs (Q7 i r)
    exact a h hs
  exact a h hs
theorem JJ {s}(h:XT s=true):Zy s<10^6:=by
 obtain⟨f,_,a⟩:=UP h
 have b:(s.data.toList.take 6).length=6:=by rw[List.length_take];simp;omega
 have e:=O4 (s.data.toList.take 6) 0 (fun c d=>(a c (x5 d)).2);rw[b]at e;unfold Zy Yv;omega
theorem PU (R):Sg R ⟨0,0⟩ 0 (2^R.length-1):=by
 intro i r a;refine⟨fun h=>by simp at h,fun _ h=>?_⟩;have:=(iG.1 a).1;rw[Nat.testBit_two_pow_sub_one]at h;simp at h;omega
theorem zk {rts R}(a:Yy rts R)(p)(d:XT p.pan=true):
  ∃m,(ZH R 7 ⟨0,0⟩ 0 (2^R.length-1) []).2[(ZH R 7 ⟨0,0⟩ 0 (2^R.length-1) []).1.find (IY (Zy p.pan)) 0]?=J m/\
   ∃n,XQ (RS p) (ZJ R m (Wb R.length (Zx (Zv R) R.length))) n 0=J (Qn R (YG (Zv R) (YY R p (Zy p.pan)) R.length)):=by
 have e:=JD (R:=R) (fun r b=>⟨(a.rl r b).bn.1,(a.rl r b).bn.2.1⟩) 7 ⟨0,0⟩ 0 (2^R.length-1) [] (by simp) (by simp) (PU R);obtain⟨m,f,g⟩:=e.2 (Zy p.pan) (by unfold YT;have:=JJ d;simp;omega);refine⟨m,f,?_⟩;obtain⟨n,c⟩:=Mm R m p (Wb R.length (Zx (Zv R) R.length));rw[FSq R m p (Zy p.pan) g]at c;exact⟨n,c⟩
theorem Mw {rts R}(a:Yy rts R):(ZH R 7 ⟨0,0⟩ 0 (2^R.length-1) []).1.deep 0:=
 (JD (R:=R) (fun r b=>⟨(a.rl r b).bn.1,(a.rl r b).bn.2.1⟩) 7 ⟨0,0⟩ 0 (2^R.length-1) [] (by simp) (by simp) (PU R)).1
theorem xr {rts R}(p a)(d:Y6 p=true)(c)(e:c=Zy p.pan):
  TV rts R p a=U6 rts ((match YG (Zv R) (YY R p c) R.length with|none=>I|some i=>(R[i]?).map Ze.name).getD N) (Qn R (YG (Zv R) (YY R p c) R.length)) a p.am:=by
 subst e;unfold TV;rw[if_pos d]
 cases g:YG (Zv R) (YY R p (Zy p.pan)) R.length with
 |none=>rfl
 |some i=>
  cases b:R[i]? with
  |none=>simp[Qn,b,U6]
  |some r=>
   simp only[Qn,b,Option.map_some,Option.getD_some];unfold zg UK
   cases h:r.decline with
   |true=>simp[U6]
   |false=>
    cases f:r.cheapest with
    |true=>
     simp only[x7,if_false,if_true,U6];simp only[show¬(5:Nat)=3 from by decide,show¬(5:Nat)=4 from by decide,if_false]
     cases YL true (XR rts p.am) a r.routes I<;>rfl
    |false=>
     simp only[x7,if_false,U6];simp only[show¬(4:Nat)=3 from by decide,if_false,if_true]
     cases YL false (XR rts p.am) a r.routes I<;>rfl
theorem PS.of {w b Q base c d rts}(f:w.cell? ⟨b,0,I⟩=J (E d rts.length c))(h:w.ownsRow base 148 3 (E d rts.length c) rts.length (Yi rts))(k:w.heap.size<=Q)(j:∀t,t∈rts->LB t):PS w b Q rts d c:=by
 have l:b<w.heap.size:=bL w _ f;refine⟨f,by omega,fun i t hi=>?_,j⟩;have m:=(iG.1 hi).1;obtain⟨g,cap,e,_,n,a⟩:=U0 h (by omega);injection e with e _ _;exact⟨g,e,by omega,a i t hi⟩
theorem Mv.of {p base w Q q d l}(h:Z3 p w base (E d l.length q) l)(z:w.heap.size<=Q):Mv w Q d l:=by
 intro k s f;obtain⟨A,i,r⟩:=h;have B:=(iG.1 f).1;obtain⟨g,cap,e,_,C⟩:=i.form (by omega);injection e with e _ _;subst e;obtain⟨c,⟨D,rfl,b⟩,t⟩:=r.get f;obtain⟨j,m,u⟩:=oL b;subst u
 have a:∀o v,[Value.int q8 s.sort,E j s.nums.length m,Y Z s.rule,Y Z s.skip][o]?=J v->w.cell? ⟨g,k*4+o,I⟩=J v:=fun o v x=>by
  have n:=i.cells (g:=g) rfl _ _ (t o v x);rw[Yd,z8]at n;exact n
 refine⟨g,j,m,rfl,by omega,a 0 _ rfl,a 1 _ rfl,a 2 _ rfl,a 3 _ rfl,Zu.of b,fun y e=>?_⟩;subst e;have:=(b.lt y rfl).2;omega
def UL (p:WF):y5:=z7 #[U p.pan,Y Z p.mcc,Y Z p.am,Y Z p.cur]
def Rz (p:WF):Obj:=z2 #[U p.pan,Y Z p.mcc,Y Z p.am,Y Z p.cur] 35
def OU (o:Nat×ByteArray×ByteArray):y5:=z7 #[Y Z (o.1:Nat),U o.2.1,U o.2.2]
def V1 (n m:Int):Bool:=decide (0<=n)&&decide (n<=m)
theorem Xw (p):Y6 p=(XT p.pan&&(V1 p.mcc 9999&&(V1 p.am 1000000000&&V1 p.cur 999))):=by
 unfold Y6 V1;simp only[Bool.and_assoc]
theorem LL (w p)(y:p.pan.size<=maxLen):
  z0 O 62 #[UL p] w fun e w'=>e=H (V (Y6 p))/\F0 w w':=by
 have l:M (∀W,z0 O 110 #[U p.pan] W fun e w'=>e=H (V (XT p.pan))/\F0 W w'):=fun W=>CZ p.pan W y
 have g:M (∀W n m,z0 O 111 #[Y Z n,Y Z m] W fun e w'=>e=H (V (V1 n m))/\w'=W):=fun W n m=>CY W n m
 obtain⟨q,h⟩:=VA w (Rz p);rw[Xw];obtain⟨z,r⟩:∃b,XT p.pan=b:=⟨_,rfl⟩;obtain⟨s,t⟩:∃b,V1 p.mcc 9999=b:=⟨_,rfl⟩;obtain⟨u,v⟩:∃b,V1 p.am 1000000000=b:=⟨_,rfl⟩;obtain⟨A,x⟩:∃b,V1 p.cur 999=b:=⟨_,rfl⟩
 have i:M (∀W,z0 O 111 #[Y Z p.mcc,Y Z 9999] W fun e w'=>e=H (V s)/\w'=W):=fun W=>by rw[<-t];exact g.o W _ _
 have j:M (∀W,z0 O 111 #[Y Z p.am,Y Z 1000000000] W fun e w'=>e=H (V u)/\w'=W):=fun W=>by rw[<-v];exact g.o W _ _
 have k:M (∀W,z0 O 111 #[Y Z p.cur,Y Z 999] W fun e w'=>e=H (V A)/\w'=W):=fun W=>by rw[<-x];exact g.o W _ _
 rw[r]at l;rw[r,t,v,x];unfold Rz at q h;unfold UL;go_enter Tryz.func62,Tryz.ntmps62;go_upto_region 1 with fail;generalize w.alloc _=W at*;generalize w.heap.size=X at*;have B:=Zc h.o 0;go_wp2_with fail;refine(l.o _).mono ?_;rintro e C ⟨rfl,f⟩;have c:=Za (q.o.trans f);have d:=f.whole h.o;have D:=Zc d 1;have E:=Zc d 2;have F:=Zc d 3
 cases z with
 |false=>
  go_wp2_with fail;go_ret;exact⟨rfl,c.o⟩
 |true=>
  go_wp2_with fail;refine(i.o _).mono ?_;rintro e w2 ⟨rfl,a⟩;replace a:=a.symm;subst a
  cases s with
  |false=>
   go_wp2_with fail;go_ret;exact⟨rfl,c.o⟩
  |true=>
   go_wp2_with fail;refine(j.o _).mono ?_;rintro e w2 ⟨rfl,a⟩;replace a:=a.symm;subst a
   cases u with
   |false=>
    go_wp2_with fail;go_ret;exact⟨rfl,c.o⟩
   |true=>
    go_wp2_with fail;refine(k.o _).mono ?_;rintro e w2 ⟨rfl,a⟩;replace a:=a.symm;subst a;go_wp2_with fail;go_ret;exact⟨rfl,c.o⟩
theorem JK {w:z4}{b t u0 u1 u2 v0 v1 v2}(h:w.heap[b]?=J (z2 #[u0,u1,u2] t)):
    (((w.setCell ⟨b,0,I⟩ v0).setCell ⟨b,1,I⟩ v1).setCell ⟨b,2,I⟩ v2).heap[b]?=J (z2 #[v0,v1,v2] t):=by
  have e:=heap_setCell_same _ b 2 _ _ v2 (heap_setCell_same _ b 1 _ _ v1 (heap_setCell_same w b 0 _ _ v0 h))
  simpa using e
structure OV (zb:Nat)(w:z4)(TT:Nat)(rts:List Zf)(ra:Option Addr)(rc:Nat)(nms:List ByteArray)(prs:List (List Zl))(tr:Tr):Prop where
 bx:∃vn vp a b,w.heap[TT]?=J (z2 #[E ra rts.length rc,vn,vp,a,b] 135)/\w.ownsRow zb 9 1 vn nms.length (nms.map q9)/\(∃xs,w.ownsRow zb 129 1 vp prs.length xs/\∀(j:Nat)(l:List Zl),prs[j]?=J l->∃vj,xs[j]?=J vj/\Z3 zb w zb vj l)/\Xf w zb tr (z7 #[a,b])
 ro:w.ownsRow 0 148 3 (E ra rts.length rc) rts.length (Yi rts)
theorem OV.fr {f w w' g rts i k d e l}(h:OV f w g rts i k d e l)(c:F0 w w'):OV f w' g rts i k d e l:=by
 obtain⟨n,o,a,b,p,q,⟨r,s,t⟩,u⟩:=h.bx;refine⟨⟨n,o,a,b,c.whole p,oF q c,⟨r,oF s c,fun j m v=>?_⟩,u.keep' c (by simp)⟩,oF h.ro c⟩;obtain⟨x,y,z⟩:=t j m v;exact⟨x,y,Q6 z c⟩
theorem OT.ofN {w b Q base c d}{a:List ByteArray}{i r}(f:w.cell? ⟨b,1,I⟩=J (E d a.length c))(h:w.ownsRow base 9 1 (E d a.length c) a.length (a.map q9))(m:w.heap.size<=Q)(hi:a[i]?=J r)(k:r.size<=3000):∃g,OT w b Q i r g a.length c:=by
 have n:b<w.heap.size:=bL w _ f;have l:=(iG.1 hi).1;obtain⟨g,cap,e,_,o⟩:=h.form (by omega);injection e with e _ _;subst e;have j:=h.cells (g:=g) rfl i (U r) (by rw[z3,hi];rfl);rw[Yd,z8]at j;exact⟨g,f,l,j,k,by omega,by omega⟩
structure zm (rts:List Zf)(nms:List ByteArray)(prs:List (List Zl))(tr:Tr):Prop where
 rt:∀t,t∈rts->LB t
 r6:rts.length<=6
 nm:∀s,s∈nms->s.size<=3000
 gd:∀l,l∈prs->l.length<=1000/\∀s,s∈l->s.sort<3->vB s
 dp:tr.deep 0
def JL (rts:List Zf)(a:List ByteArray)(b:List (List Zl))(c:Tr)(p:WF)(s:Zl):Prop:=
 ∃l,b[c.find (IY (Zy p.pan)) 0]?=J l/\(∃n,XQ (RS p) l n 0=J s)/\(s.sort=6\/((s.sort=3\/s.sort=4\/s.sort=5)/\s.nums.length<=4000/\(∀x,x∈s.nums->x<rts.length)/\s.rule<a.length))
def OW (rts:List Zf)(a:List ByteArray)(p:WF)(b:Nat->Bool)(s:Zl):Nat×ByteArray×ByteArray:=
 if Y6 p then U6 rts (a.getD s.rule N) s b p.am else(1,N,N)
structure xt (w:z4)(zb TT:Nat)(rts:List Zf)(ra:Option Addr)(rc:Nat)(nms:List ByteArray)(prs:List (List Zl))(tr:Tr):Prop where
 tg:OV zb w TT rts ra rc nms prs tr
 bk:zm rts nms prs tr
theorem xt.fr {w w' c d rts e f a b g}(h:xt w c d rts e f a b g)(i:F0 w w'):xt w' c d rts e f a b g:=⟨h.tg.fr i,h.bk⟩
def sF (w:z4)(b:Nat)(c:y5)(a:Nat->Bool):Prop:=∀W,F0 w W->z0 O 63 #[G (J ⟨b,0,I⟩),c] W fun e w'=>e=H (z7 #[V (a 0),V (a 1),V (a 2),V (a 3),V (a 4),V (a 5)])/\F0 W w'
theorem C5 (w zb c rts ra rc l d0 tr fv a p y)(h:xt w zb c rts ra rc l d0 tr)(O0:sF w c fv a)(he:Y6 p=true->JL rts l d0 tr p y)(hs:p.pan.size<=maxLen):
  z0 O 36 #[G (J ⟨c,0,I⟩),UL p,fv] w fun e w'=>e=H (OU (OW rts l p (a) y))/\F0 w w':=by
 have HH:=Za h;have P0:=Za he;have Q0:=Za O0
 have R0:M (∀W,z0 O 62 #[z7 #[U p.pan,Y Z p.mcc,Y Z p.am,Y Z p.cur]] W fun e w'=>e=H (V (Y6 p))/\F0 W w'):=fun W=>LL W p hs
 obtain⟨k0,r,e0⟩:=SE w (Rz p) (z2 #[Y Z 0,U ⟨#[]⟩,U ⟨#[]⟩] 38);unfold UL;unfold Rz at k0 r e0;go_enter Tryz.func36,Tryz.ntmps36;go_upto_region 1 with fail;generalize(w.alloc _).alloc _=W0 at*;obtain⟨P,hP⟩:∃P,w.heap.size=P:=⟨_,rfl⟩;have S0:=Za hP;rw[hP]at r e0;rw[hP];have x0:=Zc r.o 0;have x1:=Zc r.o 1;have x2:=Zc r.o 2;have x3:=Zc r.o 3;go_wp2_with fail;refine(R0.o _).mono ?_;rintro e d ⟨rfl,f0⟩;have B:=Za (k0.o.trans f0);have l0:=Za (f0.whole r.o);have n:=Za (f0.whole e0.o);have s:=Za (HH.o.fr B.o)
 have z:w.heap.size<=P+1:=by have:=S0.o;omega
 cases m0:Y6 p with
 |false=>
  have HD:M (OW rts l p (a) y=(1,N,N)):=by show _=_;unfold OW;rw[if_neg (by rw[m0];simp)]
  have o0:=Zc n.o 0;have o1:=Zc n.o 1;have o2:=Zc n.o 2;have T0:=bF n.o 0;have V0:=bF n.o 1;have X0:=bF n.o 2;go_wp2_with fail;have R:=JK (v0:=Y Z 1) (v1:=U ⟨#[]⟩) (v2:=U ⟨#[]⟩) n.o;have s0:=Zc R 0;have s1:=Zc R 1;have s2:=Zc R 2;refine bodyPost_ret (v:=z7 #[Y Z 1,U ⟨#[]⟩,U ⟨#[]⟩]) (by simp[results,Tryz.results36,go_sem,s0,s1,s2]) rfl ⟨by rw[HD.o];rfl,?_⟩;exact((B.o.setCell (p:=⟨P+1,0,I⟩) (C z) _).setCell (p:=⟨P+1,1,I⟩) (C z) _).setCell (p:=⟨P+1,2,I⟩) (C z) _
 |true=>
  have X:=Za m0;go_upto_region 3 with fail
  have n0:M (∀W,F0 d W->z0 O 63 #[G (J ⟨c,0,I⟩),fv] W fun e w'=>e=H (z7 #[V (a 0),V (a 1),V (a 2),V (a 3),V (a 4),V (a 5)])/\F0 W w'):=by
   exact fun W hW=>Q0.o W (B.o.trans hW)
  have t:M (∀W,F0 d W->W.cell? ⟨P,0,I⟩=J (U p.pan)/\W.cell? ⟨P,1,I⟩=J (Y Z p.mcc)/\W.cell? ⟨P,2,I⟩=J (Y Z p.am)/\W.cell? ⟨P,3,I⟩=J (Y Z p.cur)):=fun W hW=>by
   have e:=hW.whole l0.o;exact⟨Zc e 0,Zc e 1,Zc e 2,Zc e 3⟩
  go_cut [7] (fun v wx=>∃Q,v=G (J ⟨Q,0,I⟩)/\M (F0 d wx/\d.heap.size<=Q/\wx.heap[Q]?=J (UF c p (a) 0 false (0,N,N))))
  case first=>
   refine wp_region_held_drew (S:=fun W=>W.cell? ⟨P,0,I⟩=J (U p.pan)/\W.cell? ⟨P,1,I⟩=J (Y Z p.mcc)/\W.cell? ⟨P,2,I⟩=J (Y Z p.am)/\W.cell? ⟨P,3,I⟩=J (Y Z p.cur)) (by kernel_rfl) (t.o _ Zt.drew) (fun hH=>?_)
   iterate 4 (refine YP 0 hH ?_;try go_frame)
   refine XC [4,6] ?_;refine Zb rfl (fun K2 D=>?_) ?_
   ·try rw[if_pos (by rfl)]
    go_simp;refine(n0.o _ (Zt.drew)).mono ?_;rintro e w5 ⟨rfl,a0⟩;have f:M (F0 d w5):=(Zt.drew).trans a0;refine D.out _ _ (t.o _ f.o) (fun hH=>?_)
    try go_frame
    refine ZY 5 hH ?_
    try go_frame
    refine Vy 6 (fun K2 D=>?_);go_simp;refine D.out _ _ (t.o _ (f.o.alloc _)) (fun hH=>?_)
    try go_frame
    refine XC [7] ?_;refine Zb rfl (fun K2 D=>?_) z9
    try rw[if_pos (by rfl)]
    refine wp_store_row 127 _ _ rfl w5.heap.size #[G (J ⟨c,0,I⟩),U p.pan,Y Z p.mcc,Y Z p.am,Y Z p.cur,V (a 0),V (a 1),V (a 2),V (a 3),V (a 4),V (a 5),Y Z 0,V false,Y Z 0,U ⟨#[]⟩,U ⟨#[]⟩] rfl rfl 127 _ (heap_alloc_new w5 _) (by kernel_rfl) rfl (by simp[q3]) ?_;refine D.out _ _ (t.o _ (Fr.setRow (f.o.alloc _) (C f.o.size) _)) (fun _=>?_)
    try go_frame
    refine wpAnyH_done (by kernel_rfl) ?_ _;go_wp2_with fail;go_meet;refine⟨w5.heap.size,rfl,Fr.setRow (f.o.alloc _) (C f.o.size) _,f.o.size,?_⟩;have e:=setRow_heap (w5.alloc (z2 #[G I,U ⟨#[]⟩,Y Z 0,Y Z 0,Y Z 0,V false,V false,V false,V false,V false,V false,Y Z 0,V false,Y Z 0,U ⟨#[]⟩,U ⟨#[]⟩] 127)) w5.heap.size _ #[G (J ⟨c,0,I⟩),U p.pan,Y Z p.mcc,Y Z p.am,Y Z p.cur,V (a 0),V (a 1),V (a 2),V (a 3),V (a 4),V (a 5),Y Z 0,V false,Y Z 0,U ⟨#[]⟩,U ⟨#[]⟩] _ _ (aN w5 _);exact e
   refine Zb rfl (fun K2 D=>?_) z9
   try rw[if_pos (by rfl)]
   go_simp;refine D.out _ _ (t.o _ ((Zt.drew).alloc _)) (fun hH=>?_)
   try go_frame
   have p0:M (F0 d (d.drew.alloc (z2 #[G I,U ⟨#[]⟩,Y Z 0,Y Z 0,Y Z 0,V false,V false,V false,V false,V false,V false,Y Z 0,V false,Y Z 0,U ⟨#[]⟩,U ⟨#[]⟩] 127))):=(Zt.drew).alloc _;have Y0:M ((d.drew.alloc (z2 #[G I,U ⟨#[]⟩,Y Z 0,Y Z 0,Y Z 0,V false,V false,V false,V false,V false,V false,Y Z 0,V false,Y Z 0,U ⟨#[]⟩,U ⟨#[]⟩] 127)).heap[d.heap.size]?=J (z2 #[G I,U ⟨#[]⟩,Y Z 0,Y Z 0,Y Z 0,V false,V false,V false,V false,V false,V false,Y Z 0,V false,Y Z 0,U ⟨#[]⟩,U ⟨#[]⟩] 127)):=aN d.drew _;refine Vy 4 (fun K2 D=>?_);go_simp;refine(n0.o _ p0.o).mono ?_;rintro e w5 ⟨rfl,a0⟩;have f:=Za (p0.o.trans a0);have q0:=Za (a0.whole Y0.o);refine D.out _ _ (t.o _ f.o) (fun hH=>?_)
   try go_frame
   refine ZY 5 hH ?_
   try go_frame
   refine XC [7] ?_;refine Zb rfl (fun K2 D=>?_) z9
   try rw[if_pos (by rfl)]
   refine wp_store_row 127 _ _ rfl d.heap.size #[G (J ⟨c,0,I⟩),U p.pan,Y Z p.mcc,Y Z p.am,Y Z p.cur,V (a 0),V (a 1),V (a 2),V (a 3),V (a 4),V (a 5),Y Z 0,V false,Y Z 0,U ⟨#[]⟩,U ⟨#[]⟩] rfl rfl 127 _ q0.o (by kernel_rfl) rfl (by simp[q3]) ?_;refine D.out _ _ (t.o _ (Fr.setRow f.o (C (z1 _)) _)) (fun _=>?_)
   try go_frame
   refine wpAnyH_done (by kernel_rfl) ?_ _;go_wp2_with fail;go_meet;exact⟨d.heap.size,rfl,Fr.setRow f.o (C (z1 _)) _,z1 _,setRow_heap w5 d.heap.size _ _ _ _ q0.o⟩
  obtain⟨Q,rfl,HQ⟩:=hcut
  have r0:XT p.pan=true:=by have e:=X.o;rw[Xw,y0]at e;exact e.1
  have Z0:0<=p.am/\p.am<=1000000000:=by
   have e:=X.o;rw[Xw]at e;simp only[y0,V1,decide_eq_true_eq]at e;exact e.2.2.1
  obtain⟨lp,b0,a1,c1⟩:=P0.o X.o;obtain⟨b,c0⟩:∃b,tr.find (IY (Zy p.pan)) 0=b:=⟨_,rfl⟩;rw[c0]at b0;obtain⟨vn,vp,aa,bb,F,t0,⟨xs,w0,d1⟩,g1⟩:=s.o.tg.bx;obtain⟨na,nc,e1⟩:=oL t0;subst e1;obtain⟨vj,h1,A0⟩:=d1 b lp b0;have r1:=(iG.1 b0).1;obtain⟨A,pc,e2,_,B0⟩:=w0.form (by omega);subst e2;have C0:=w0.cells (g:=A) rfl b vj h1;rw[Yd,z8]at C0;have D0:=A0;obtain⟨ys,i1,_⟩:=D0;obtain⟨pa,u,R⟩:=oL i1;subst R;obtain⟨np,E0⟩:∃np,d0.length=np:=⟨_,rfl⟩;obtain⟨ll,g0⟩:∃ll,lp.length=ll:=⟨_,rfl⟩;have L:=HQ.o;have G0:=Za (Mv.of A0 L.2.1);have j1:=Za (PS.of (Zc F 0) s.o.tg.ro L.2.1 s.o.bk.rt);have m1:M (xq d zb c 3 0 tr aa bb (IY (Zy p.pan)) b):=⟨Zc F 3,Zc F 4,g1,s.o.bk.dp,c0⟩
  have n1:M (zj d c Q rts (l.getD y.rule N) y):=by
   rcases c1 with h6|⟨h3,h4,h5,H0⟩
   ·exact z5 h6
   obtain⟨g,hg⟩:=OT.ofN (Q:=Q) (i:=y.rule) (Zc F 1) t0 L.2.1 (gE H0) (s.o.bk.nm _ (x9 _))
   rw[show l.getD y.rule N=l[y.rule]from by simp[j2,H0]];exact C ⟨h3,h4,h5,g,_,_,hg⟩
  have I0:M (OW rts l p (a) y=U6 rts (l.getD y.rule N) y (a) p.am):=by show _=_;unfold OW;rw[if_pos X.o]
  obtain⟨q,J0⟩:∃q,OW rts l p (a) y=q:=⟨_,rfl⟩;have K0:=Za J0
  have h0:M (∀m,Fr (fun j=>j=Q) wc m->m.cell? ⟨c,2,I⟩=J (E (J ⟨A,0,I⟩) np pc)/\m.cell? ⟨P,0,I⟩=J (U p.pan)/\m.cell? ⟨A,b,I⟩=J (E pa ll u)):=by
   intro m hf;have K:=(L.1.mono).trans hf
   have b1:d.cell? ⟨c,2,I⟩=J (E (J ⟨A,0,I⟩) np pc):=by rw[<-E0];exact Zc F 2
   have b2:=Zc l0.o 0
   have b3:d.cell? ⟨A,b,I⟩=J (E pa ll u):=by rw[<-g0];exact C0
   have k1:c<d.heap.size:=bL d _ b1;have k2:P<d.heap.size:=bL d _ b2;have t1:=L.2.1;exact⟨(K.cell (p:=⟨c,2,I⟩) k1 (by show c≠Q;omega)).trans b1,(K.cell (p:=⟨P,0,I⟩) k2 (by show P≠Q;omega)).trans b2,(K.cell (p:=⟨A,b,I⟩) B0 (by show A≠Q;omega)).trans b3⟩
  have HL:M (∀m,M (F0 wc m)->z0 O 65 #[G (J ⟨c,0,I⟩),U p.pan] m fun e w'=>e=H (Y Z (b:Nat))/\M (F0 wc w')/\w'.cell? ⟨c,2,I⟩=J (E (J ⟨A,0,I⟩) np pc)/\w'.cell? ⟨P,0,I⟩=J (U p.pan)/\w'.cell? ⟨A,b,I⟩=J (E pa ll u)):=by
   intro m hf;have K:=L.1.trans hf.o;obtain⟨l1,l2,l3,l4,l5⟩:=m1.o;refine(zi m zb c _ aa bb p.pan b ⟨(K.cell (p:=⟨c,3,I⟩) (bL d _ l1)).trans l1,(K.cell (p:=⟨c,3+1,I⟩) (bL d _ l2)).trans l2,l3.keep' K (by simp),l4,l5⟩ r0).mono ?_;rintro e w' ⟨he,h3⟩;have h4:=hf.o.trans h3;exact⟨he,h4,h0.o _ (h4.mono)⟩
  have HT:M (∀m,M (F0 wc m)->z0 O 64 #[G (J ⟨Q,0,I⟩),E pa ll u] m fun e w'=>e=H (.tuple #[])/\M ((∃k,w'.heap[Q]?=J (UF c p (a) k true q))/\Fr (fun j=>j=Q) wc w')/\w'.cell? ⟨c,2,I⟩=J (E (J ⟨A,0,I⟩) np pc)/\w'.cell? ⟨P,0,I⟩=J (U p.pan)/\w'.cell? ⟨A,b,I⟩=J (E pa ll u)):=by
   intro m hf;have K:Fr (fun j=>j=Q) d m:=(L.1.trans hf.o).mono;rw[<-g0];have L0:=s.o.bk.gd lp (mG b0);refine(Hf m Q c p (a) (0,N,N) pa u _ y rts ra rc _ (hf.o.whole L.2.2) (G0.o.fr K) L0.2 L0.1 a1 (n1.o.fr K) (j1.o.fr K) s.o.bk.r6 Z0).mono ?_
   rintro e w' ⟨he,h2,h3⟩
   have h4:=(hf.o.mono (T:=fun j=>j=Q)).trans h3;rw[<-I0.o,K0.o]at h2;have hS:=h0.o _ h4;rw[<-g0]at hS;exact⟨he,⟨h2,h4⟩,hS⟩
  have hS:=h0.o wc Zt;have y1:M (F0 wc wc.drew):=Zt.drew
  have A1:(b:Int)<(np:Int):=by omega
  have M0:=Za L.2.1;have N0:=Za L.1;go_upto_region 4 with fail
  go_region_held3 (fun m=>m.cell? ⟨c,2,I⟩=J (E (J ⟨A,0,I⟩) np pc)/\m.cell? ⟨P,0,I⟩=J (U p.pan)/\m.cell? ⟨A,b,I⟩=J (E pa ll u)) (first|assumption|go_keep) (first
   |(go_at_call 65;refine(HL.o _ (by assumption)).mono ?_;rintro e w7 ⟨rfl,B1,p1⟩)
   |(go_at_call 64;refine(HT.o _ (by assumption)).mono ?_;rintro e w7 ⟨rfl,i0,p1⟩))
  obtain⟨kz,j0⟩:=i0.o.1;have C1:=(iA.1 n.o).1;have x:=Za (i0.o.2.whole (N0.o.whole n.o) (fun e=>by have:=M0.o;omega));have q1:M (F0 w w7):=(B.o.trans N0.o).monoNew i0.o.2 (fun k hk=>C (by have:=M0.o;have:=B.o.size;omega));have D1:=Zc j0 13;have E1:=Zc j0 14;have F1:=Zc j0 15;have o0:=Zc x.o 0;have o1:=Zc x.o 1;have o2:=Zc x.o 2;have T0:=bF x.o 0;have V0:=bF x.o 1;have X0:=bF x.o 2;go_wp2_with fail;have R:=JK (v0:=Y Z (q.1:Nat)) (v1:=U q.2.1) (v2:=U q.2.2) x.o;have s0:=Zc R 0;have s1:=Zc R 1;have s2:=Zc R 2;refine bodyPost_ret (v:=z7 #[Y Z (q.1:Nat),U q.2.1,U q.2.2]) (by simp[results,Tryz.results36,go_sem,s0,s1,s2]) rfl ⟨by rw[K0.o];rfl,?_⟩;exact((q1.o.setCell (p:=⟨P+1,0,I⟩) (C z) _).setCell (p:=⟨P+1,1,I⟩) (C z) _).setCell (p:=⟨P+1,2,I⟩) (C z) _
structure xu (w:z4)(zb TT D:Nat)(rts:List Zf)(ra:Option Addr)(rc:Nat)(nms:List ByteArray)(prs:List (List Zl))(tr:Tr)(a:Option Addr)(c:Nat)(l:List ByteArray):Prop where
 tg:OV zb w TT rts ra rc nms prs tr
 bk:zm rts nms prs tr
 d0:w.cell? ⟨D,0,I⟩=J (E a l.length c)
 st:Yf w a l
 ln:l.length<=maxLen
theorem xu.fr {w w' f g D rts i j b d k a c l}(h:xu w f g D rts i j b d k a c l)(e:F0 w w'):xu w' f g D rts i j b d k a c l:=
 ⟨h.tg.fr e,h.bk,(e.cell (p:=⟨D,0,I⟩) (bL w _ h.d0)).trans h.d0,h.st.fr e,h.ln⟩
theorem Hg (w o g D rts i j b d k a c l p m)(h:xu w o g D rts i j b d k a c l)(q:Y6 p=true->JL rts b d k p m)(r:p.pan.size<=maxLen):
  z0 O 36 #[G (J ⟨g,0,I⟩),UL p,.func (.func 37) #[] #[G (J ⟨D,0,I⟩)]] w fun e w'=>e=H (OU (OW rts b p (Vk rts l) m))/\F0 w w':=
 C5 w o g rts i j b d k _ (Vk rts l) p m ⟨h.tg,h.bk⟩ (fun W s=>by
  have f:=h.fr s;obtain⟨t,u,v,x,n,_⟩:=f.tg.bx
  exact C2 W g W.heap.size D rts i j a c l (PS.of (Zc n 0) f.tg.ro (z1 _) f.bk.rt) f.bk.r6 f.d0 f.st f.ln) q r
structure uY (w:z4)(zb T TT:Nat)(rts:List Zf)(ra:Option Addr)(rc:Nat)(nms:List ByteArray)(prs:List (List Zl))(tr:Tr)(a:Option Addr)(l:List ByteArray):Prop where
 t1:w.cell? ⟨T,1,I⟩=J (G (J ⟨TT,0,I⟩))
 tg:OV zb w TT rts ra rc nms prs tr
 bk:zm rts nms prs tr
 st:Yf w a l
 ln:l.length<=maxLen
theorem Hh (w zb T L rts ra rc i y tr a c l p N)(h:uY w zb T L rts ra rc i y tr a l)(Q:Y6 p=true->JL rts i y tr p N)(hs:p.pan.size<=maxLen):
  z0 O 19 #[G (J ⟨T,0,I⟩),UL p,E a l.length c] w fun e w'=>e=H (OU (OW rts i p (Vk rts l) N))/\F0 w w':=by
 have g0:∀(fn:Fn)(first cap:Array y5)(w:z4),(Instr.makeFunc fn first cap).run O w=.ok (.func fn first cap) w:=fun _ _ _ _=>rfl
 obtain⟨m,r,s,t⟩:=xX w (Rz p) (z2 #[E a l.length c] 28) (z2 #[Y Z 0,U ⟨#[]⟩,U ⟨#[]⟩] 38);have HH:=Za h;have c0:=Za Q;unfold UL;unfold Rz at m r t s;obtain⟨n,hn⟩:∃n,l.length=n:=⟨_,rfl⟩;have HN:=Za hn;rw[hn]at m r t s ⊢;have d0:=Za hs;clear h hs hn Q;go_enter Tryz.func19,Tryz.ntmps19;go_upto_region 1 with fail;generalize((w.alloc _).alloc _).alloc _=W at*;obtain⟨P,hP⟩:∃P,w.heap.size=P:=⟨_,rfl⟩;have R:=Za hP;rw[hP]at r t s;rw[hP];clear hP
 have z:M (∀d,F0 W d->z0 O 36 #[G (J ⟨L,0,I⟩),z7 #[U p.pan,Y Z p.mcc,Y Z p.am,Y Z p.cur],.func (.func 37) #[] #[G (J ⟨P+1,0,I⟩)]] d fun e w'=>e=H (OU (OW rts i p (Vk rts l) N))/\F0 d w'):=by
  intro d V;have f:=m.o.trans V;have hh:=HH.o;exact Hg d zb L (P+1) rts ra rc i y tr a c l p N ⟨hh.tg.fr f,hh.bk,by rw[HN.o];exact Zc (V.whole s.o) 0,hh.st.fr f,hh.ln⟩ c0.o d0.o
 obtain⟨b,q⟩:∃b,OW rts i p (Vk rts l) N=b:=⟨_,rfl⟩;have e0:=Za q;rw[q]at z;unfold OU at z
 have A:M (∀d,F0 W d->d.cell? ⟨T,1,I⟩=J (G (J ⟨L,0,I⟩))/\d.cell? ⟨P,0,I⟩=J (U p.pan)/\d.cell? ⟨P,1,I⟩=J (Y Z p.mcc)/\d.cell? ⟨P,2,I⟩=J (Y Z p.am)/\d.cell? ⟨P,3,I⟩=J (Y Z p.cur)):=fun d V=>by
  have e:=V.whole r.o;have t1:=HH.o.t1;exact⟨((m.o.trans V).cell (p:=⟨T,1,I⟩) (bL w _ t1)).trans t1,Zc e 0,Zc e 1,Zc e 2,Zc e 3⟩
 have a0:M (T<P/\w.heap.size<=P+1+1):=⟨by rw[<-R.o];exact bL w _ HH.o.t1,by rw[R.o];omega⟩;clear q;refine wp_region_held_drew (S:=fun d=>d.cell? ⟨T,1,I⟩=J (G (J ⟨L,0,I⟩))/\d.cell? ⟨P,0,I⟩=J (U p.pan)/\d.cell? ⟨P,1,I⟩=J (Y Z p.mcc)/\d.cell? ⟨P,2,I⟩=J (Y Z p.am)/\d.cell? ⟨P,3,I⟩=J (Y Z p.cur)) (by kernel_rfl) (A.o _ Zt.drew) (fun B=>?_);refine ZY 0 B ?_
 try go_frame
 refine ZY 1 B ?_
 try go_frame
 refine ZY 2 B ?_
 try go_frame
 refine ZY 3 B ?_
 try go_frame
 refine ZY 4 B ?_
 try go_frame
 refine ZY 5 B ?_
 try go_frame
 refine XC [6] ?_;refine Zb rfl (fun K2 hK=>?_) z9
 try rw[if_pos (by rfl)]
 go_simp;refine(z.o _ (Zt.drew)).mono ?_;rintro e x ⟨rfl,b0⟩;have u:=Za ((Zt.drew).trans b0);have g:=Za (u.o.whole t.o);clear b0;refine hK.out _ _ (A.o _ u.o) (fun B=>?_);clear hK K2
 try go_frame
 have o0:=Zc g.o 0;have o1:=Zc g.o 1;have o2:=Zc g.o 2;have h0:=bF g.o 0;have i0:=bF g.o 1;have j0:=bF g.o 2;refine XC [7] ?_;refine Zb rfl (fun K2 hK=>?_) z9
 try rw[if_pos (by rfl)]
 go_simp;have D:Fr (fun j=>j=P+1+1) x (((x.setCell ⟨P+1+1,0,I⟩ (Y Z (b.1:Nat))).setCell ⟨P+1+1,1,I⟩ (U b.2.1)).setCell ⟨P+1+1,2,I⟩ (U b.2.2)):=(((Fr.refl (fun j=>j=P+1+1) x).setCell (p:=⟨P+1+1,0,I⟩) (z5 rfl) _).setCell (p:=⟨P+1+1,1,I⟩) (z5 rfl) _).setCell (p:=⟨P+1+1,2,I⟩) (z5 rfl) _;have f0:F0 w (((x.setCell ⟨P+1+1,0,I⟩ (Y Z (b.1:Nat))).setCell ⟨P+1+1,1,I⟩ (U b.2.1)).setCell ⟨P+1+1,2,I⟩ (U b.2.2)):=(m.o.trans u.o).monoNew D (fun k hk=>C (by have:=a0.o.2;omega));have F:=JK (v0:=Y Z (b.1:Nat)) (v1:=U b.2.1) (v2:=U b.2.2) g.o;obtain⟨s0,s1,s2,s3,s4⟩:=A.o _ u.o
 have K:∀X o v,X<P+1+1->x.cell? ⟨X,o,I⟩=J v->(((x.setCell ⟨P+1+1,0,I⟩ (Y Z (b.1:Nat))).setCell ⟨P+1+1,1,I⟩ (U b.2.1)).setCell ⟨P+1+1,2,I⟩ (U b.2.2)).cell? ⟨X,o,I⟩=J v:=fun X o v hX hv=>(D.cell (p:=⟨X,o,I⟩) (bL x _ hv) (by show X≠P+1+1;omega)).trans hv
 have k0:=a0.o.1;refine hK.out _ _ ⟨K T 1 _ (by omega) s0,K P 0 _ (by omega) s1,K P 1 _ (by omega) s2,K P 2 _ (by omega) s3,K P 3 _ (by omega) s4⟩ (fun _=>?_);clear hK K2 K s0 s1 s2 s3 s4 D
 try go_frame
 generalize((x.setCell ⟨P+1+1,0,I⟩ (Y Z (b.1:Nat))).setCell ⟨P+1+1,1,I⟩ (U b.2.1)).setCell ⟨P+1+1,2,I⟩ (U b.2.2)=W8 at*;refine wpAnyH_done (by kernel_rfl) ?_ _;go_wp2_with fail;have s0:=Zc F 0;have s1:=Zc F 1;have s2:=Zc F 2;refine bodyPost_ret (v:=z7 #[Y Z (b.1:Nat),U b.2.1,U b.2.2]) (by simp[results,Tryz.results19,go_sem,s0,s1,s2]) rfl ⟨by rw[e0.o];rfl,f0⟩
structure uZ (w:z4)(zb T TT:Nat)(rts:List Zf)(R:List Ze)(ra:Option Addr)(rc:Nat)(a:Option Addr)(l:List ByteArray):Prop where
 t1:w.cell? ⟨T,1,I⟩=J (G (J ⟨TT,0,I⟩))
 tr:Wc zb w TT (E ra rts.length rc) R (Zx (Zv R) R.length)
 ro:w.ownsRow 0 148 3 (E ra rts.length rc) rts.length (Yi rts)
 bk:Yy rts R
 st:Yf w a l
 ln:l.length<=maxLen
theorem zn {rts R}(a:Yy rts R):zm rts (R.map Ze.name) ((ZH R 7 ⟨0,0⟩ 0 (2^R.length-1) []).2.map fun m=>ZJ R m (Wb R.length (Zx (Zv R) R.length))) (ZH R 7 ⟨0,0⟩ 0 (2^R.length-1) []).1:=by
 refine⟨a.rt,a.r6,fun s b=>?_,fun l c=>?_,Mw a⟩
 ·obtain⟨r,d,rfl⟩:=j0.1 b
  exact(a.rl r d).nm
 obtain⟨m,f,rfl⟩:=j0.1 c
 refine⟨?_,fun s b e=>Pc a.rl m _ s b e⟩;have g:=Sl R m (Wb R.length (Zx (Zv R) R.length))
 have h:(Wb R.length (Zx (Zv R) R.length)).length=R.length:=by simp[Wb]
 have i:=a.l8;omega
theorem Wc.tg {f w g rts c d R}(h:Wc f w g (E c rts.length d) R (Zx (Zv R) R.length))(k:w.ownsRow 0 148 3 (E c rts.length d) rts.length (Yi rts)):OV f w g rts c d (R.map Ze.name) ((ZH R 7 ⟨0,0⟩ 0 (2^R.length-1) []).2.map fun m=>ZJ R m (Wb R.length (Zx (Zv R) R.length))) (ZH R 7 ⟨0,0⟩ 0 (2^R.length-1) []).1:=by
 obtain⟨n,o,a,b,p,q,⟨r,s,t⟩,u⟩:=h.bx;refine⟨⟨n,o,a,b,p,by rw[y9];exact q,⟨r,by rw[y9];exact s,fun j l i=>?_⟩,u⟩,k⟩;rw[z3]at i;obtain⟨m,v,e⟩:=Option.map_eq_some_iff.1 i;subst e;exact t j m v
theorem Mx {rts R}(g:Yy rts R)(p)(j:Y6 p=true):JL rts (R.map Ze.name) ((ZH R 7 ⟨0,0⟩ 0 (2^R.length-1) []).2.map fun m=>ZJ R m (Wb R.length (Zx (Zv R) R.length))) (ZH R 7 ⟨0,0⟩ 0 (2^R.length-1) []).1 p (Qn R (YG (Zv R) (YY R p (Zy p.pan)) R.length)):=by
 have b:XT p.pan=true:=by have e:=j;rw[Xw,y0]at e;exact e.1
 obtain⟨m,c,d⟩:=zk g p b;refine⟨_,by rw[z3,c];rfl,d,?_⟩;have f:=Uu (Zv R) (YY R p (Zy p.pan)) R.length
 cases k:YG (Zv R) (YY R p (Zy p.pan)) R.length with
 |none=>exact z5 rfl
 |some i=>
  rw[k]at f;obtain⟨r,h⟩:∃r,R[i]?=J r:=⟨_,gE f.1⟩;have a:=g.rl r (mG h);refine C ?_
  have hi:i<(R.map Ze.name).length:=by rw[y9];exact f.1
  simp only[Qn,h];unfold UK
  split
  ·exact⟨z5 rfl,by simp,by simp,hi⟩
  split
  ·exact⟨C (C rfl),a.pl.1,a.pl.2,hi⟩
  exact⟨C (z5 rfl),a.pl.1,a.pl.2,hi⟩
theorem Kw {rts R}(p b):OW rts (R.map Ze.name) p b (Qn R (YG (Zv R) (YY R p (Zy p.pan)) R.length))=TV rts R p b:=by
 unfold OW;by_cases a:Y6 p=true
 ·rw[if_pos a,xr p b a _ rfl]
  cases f:YG (Zv R) (YY R p (Zy p.pan)) R.length with
  |none=>simp[Qn,U6]
  |some i=>
   have c:=Uu (Zv R) (YY R p (Zy p.pan)) R.length;rw[f]at c;obtain⟨r,d⟩:∃r,R[i]?=J r:=⟨_,gE c.1⟩
   have e:(Qn R (J i)).rule=i:=by
    simp only[Qn,d];unfold UK
    split
    ·rfl
    split<;>rfl
   rw[e];simp[j2,d]
 rw[if_neg a]
 unfold TV;rw[if_neg a]
theorem FZ (w b T d rts R f g a c l p)(h:uZ w b T d rts R f g a l)(i:p.pan.size<=maxLen):
  z0 O 19 #[G (J ⟨T,0,I⟩),UL p,E a l.length c] w fun e w'=>e=H (OU (TV rts R p (Vk rts l)))/\F0 w w':=by
 have e:=Hh w b T d rts f g _ _ _ a c l p _ ⟨h.t1,h.tr.tg h.ro,zn h.bk,h.st,h.ln⟩ (Mx h.bk p) i;rw[Kw]at e;exact e
theorem Hi (x r n):Uo (x::r) n=(((x:Int)==n)||Uo r n):=by
 unfold Uo;rw[q5]
 congr 1
theorem zo (x r s):JH (x::r) s=((x.toList==s.toList)||JH r s):=by
 unfold JH;rw[q5]
 congr 1
 exact BEq.comm
theorem Rq (w a c l n)(h:Zu w a l)(t:l.length<=4000):
  z0 O 139 #[E a l.length c,Y Z n] w fun e w'=>e=H (V (Uo l n))/\w'=w:=by
 have u:=Za h;obtain⟨m,j⟩:∃m,l.length=m:=⟨_,rfl⟩;have p:=Za j;rw[j]at t ⊢;go_enter Tryz.func139,Tryz.ntmps139;go_wp2_with fail
 go_loop [5] (fun i=>∃k:Nat,k<=m/\i=Y Z k/\M (Uo l n=Uo (l.drop k) n)) (fun i=>m-(intOf i).toNat)
 case atStart=>exact⟨0,y6 _,rfl,rfl⟩
 obtain⟨k,B,rfl,q⟩:=hrel;by_cases v:k<m
 ·have f:(k:Int)<(m:Int):=by omega
  obtain⟨x,r⟩:∃x,l[k]?=J x:=⟨_,gE (by have:=p.o;omega)⟩;obtain⟨g,rfl,C⟩:=u.o k x r
  have d:M (Uo l n=(((x:Int)==n)||Uo (l.drop (k+1)) n)):=by
   obtain⟨y,z⟩:=iG.1 r
   show _=_
   rw[q.o,dC y,z,Hi]
  cases s:((x:Int)==n)with
  |true=>
   rw[s,j1]at d;go_wp2_with fail;go_ret;exact⟨congrArg (fun b=>z6 (y4 b)) d.o.symm,rfl⟩
  |false=>
   rw[s,q6]at d;go_wp2_with fail;exact⟨⟨k+1,by omega,by go_num,d⟩,by simp[intOf];omega⟩
 have f:¬(k:Int)<(m:Int):=by omega
 have A:M (Uo l n=false):=by show _=_;rw[q.o,dL (by have:=p.o;omega)];rfl
 go_wp2_with fail;go_ret;exact⟨congrArg (fun b=>z6 (y4 b)) A.o.symm,rfl⟩
theorem Hj (w a c l s)(h:Yf w a l)(j:l.length<=maxLen):
  z0 O 101 #[E a l.length c,U s] w fun e w'=>e=H (V (JH l s))/\w'=w:=by
 have u:=Za h;unfold maxLen at j;obtain⟨m,n⟩:∃m,l.length=m:=⟨_,rfl⟩;have p:=Za n;rw[n]at j ⊢
 have v:(m:Int)<=9223372036854775807:=by omega
 go_enter Tryz.func101,Tryz.ntmps101;go_wp2_with fail
 go_loop [5] (fun i=>∃k:Nat,k<=m/\i=Y Z k/\M (JH l s=JH (l.drop k) s)) (fun i=>m-(intOf i).toNat)
 case atStart=>exact⟨0,y6 _,rfl,rfl⟩
 obtain⟨k,C,rfl,q⟩:=hrel;by_cases y:k<m
 ·have f:(k:Int)<(m:Int):=by omega
  obtain⟨x,r⟩:∃x,l[k]?=J x:=⟨_,gE (by have:=p.o;omega)⟩;obtain⟨g,o,rfl,D⟩:=u.o k x r
  have d:M (JH l s=((x.toList==s.toList)||JH (l.drop (k+1)) s)):=by
   obtain⟨z,A⟩:=iG.1 r
   show _=_
   rw[q.o,dC z,A,zo]
  cases t:(x.toList==s.toList)with
  |true=>
   rw[t,j1]at d;go_wp2_with fail;go_ret;exact⟨congrArg (fun b=>z6 (y4 b)) d.o.symm,rfl⟩
  |false=>
   rw[t,q6]at d;go_wp2_with fail;exact⟨⟨k+1,by omega,by go_num,d⟩,by simp[intOf];omega⟩
 have f:¬(k:Int)<(m:Int):=by omega
 have B:M (JH l s=false):=by show _=_;rw[q.o,dL (by have:=p.o;omega)];rfl
 go_wp2_with fail;go_ret;exact⟨congrArg (fun b=>z6 (y4 b)) B.o.symm,rfl⟩
theorem Pd (w p)(u:p.pan.size<=maxLen):
  z0 O 86 #[UL p] w fun e w'=>e=H (V (Y6 p))/\F0 w w':=by
 obtain⟨g,c⟩:=VA w (Rz p);unfold Rz at g c;unfold UL;unfold maxLen at u
 have v:(p.pan.size:Int)<=9223372036854775807:=by omega
 go_enter Tryz.func86,Tryz.ntmps86;go_upto_region 1 with fail;generalize w.alloc _=W at*;generalize w.heap.size=X at*;have F:=Zc c.o 0;have G:=Zc c.o 1;have I:=Zc c.o 2;have J:=Zc c.o 3;go_wp2_with fail
 go_loop [3] (fun i=>∃k:Nat,k<=p.pan.size/\i=Y Z k/\M (Xv p.pan 0=Xv p.pan k)) (fun i=>p.pan.size-(intOf i).toNat)
 case atStart=>exact⟨0,y6 _,rfl,rfl⟩
 obtain⟨k,K,rfl,h⟩:=hrel;by_cases d:k<p.pan.size
 ·have j:(k:Int)<(p.pan.size:Int):=by omega
  have l:=fun w=>VK (P:=O) Tryz.underlying9 p.pan k (k:Int) rfl d w
  have m:=Za (Q9 p.pan k d);obtain⟨b,n⟩:∃b,ZD p.pan k=b:=⟨_,rfl⟩;rw[n]at l m
  have a:(b<48\/¬b<48/\57<b)\/¬b<48/\¬57<b:=by omega
  rcases a with n|⟨f,q⟩
  ·have x:M (Y6 p=false):=by
    show _=_
    rw[Xw,show XT p.pan=false from ?_]
    ·rfl
    show(decide (6<=p.pan.size)&&(decide (p.pan.size<=19)&&Xv p.pan 0))=false
    rw[h.o,m.o];simp[iD];omega
   rcases n with f|⟨f,q⟩
   all_goals
    go_wp2_with fail;go_ret;exact⟨congrArg (fun b=>z6 (y4 b)) x.o.symm,g.o⟩
  have r:M (Xv p.pan 0=Xv p.pan (k+1)):=by
   show _=_
   rw[h.o,m.o,show iD b=true from by simp[iD];omega,Bool.true_and]
  go_wp2_with fail;exact⟨⟨k+1,by omega,by go_num,r⟩,by simp[intOf];omega⟩
 have j:¬(k:Int)<(p.pan.size:Int):=by omega
 have s:M (Xv p.pan 0=true):=by show _=_;rw[h.o];exact Ow p.pan k (by omega)
 have t:M (Y6 p=((decide (6<=p.pan.size)&&(decide (p.pan.size<=19)&&true))&&(V1 p.mcc 9999&&(V1 p.am 1000000000&&V1 p.cur 999)))):=by
  show _=_
  rw[Xw,<-s.o];rfl
 have a:¬(6:Int)<=(p.pan.size:Int)\/(6:Int)<=(p.pan.size:Int)/\(¬(p.pan.size:Int)<=19\/(p.pan.size:Int)<=19/\(¬0<=p.mcc\/0<=p.mcc/\(¬p.mcc<=9999\/p.mcc<=9999/\(¬0<=p.am\/0<=p.am/\(¬p.am<=1000000000\/p.am<=1000000000/\(¬0<=p.cur\/0<=p.cur/\(¬p.cur<=999\/p.cur<=999))))))):=by omega
 rcases a with c1|⟨c1,y|⟨y,z|⟨z,A|⟨A,B|⟨B,C|⟨C,D|⟨D,E|E⟩⟩⟩⟩⟩⟩⟩
 all_goals
  go_wp2_with fail;go_ret;exact⟨by rw[t.o];simp[V1];omega,g.o⟩
theorem F1 {s}(h:XT s=true)(d)(l:d<=6):Dg (s.extract 0 d)/\Yv (s.extract 0 d).data.toList=Zy s/10^(6-d):=by
 obtain⟨m,_,a⟩:=UP h
 have c:(s.extract 0 d).data.toList=s.data.toList.take d:=by rw[Lib.extract_data];simp
 have f:s.data.toList.length=s.size:=by simp
 refine⟨⟨?_,fun k g=>?_⟩,?_⟩
 ·rw[ByteArray.size_extract]
  omega
 ·have b:k<(s.extract 0 d).data.toList.length:=by simpa using g
  unfold ZD;rw[gD,gE b,Option.getD_some];have j:(s.extract 0 d).data.toList[k]∈s.data.toList:=x5 (i:=d) (by rw[<-c];exact x9 b);have:=a _ j;omega
 rw[c]
 unfold Zy;have e:=Qo a (6-d) d (by omega);rw[show d+(6-d)=6 from by omega]at e;exact e.symm
def V2 (r:Ze)(p:WF):Bool:=decide (r.lo<=Zy p.pan/10^(6-r.digits))&&(decide (Zy p.pan/10^(6-r.digits)<=r.hi)&&Uc r p)
def uP (r:Ze)(a:Option Addr)(b:Nat)(c:Option Addr)(d:Nat)(e:Option Addr)(f:Nat):List y5:=
 [U r.name,Y Z (r.rank:Nat),Y Z (r.digits:Nat),Y Z (r.lo:Nat),Y Z (r.hi:Nat),E a r.mcc.length b,E c r.cur.length d,V r.am.isSome,Y Z ((r.am.getD (0,0)).1:Nat),Y Z ((r.am.getD (0,0)).2:Nat),E e r.routes.length f,V r.decline,V r.cheapest]
theorem Qp (w g o r A mc B cc pa pc n p)(hc:∀j v,(uP r A mc B cc pa pc)[j]?=J v->w.cell? ⟨g,o+j,I⟩=J v)(hm:Zu w A r.mcc)(hu:Zu w B r.cur)(ho:Tf n r)(hp:XT p.pan=true):
  z0 O 87 #[G (J ⟨g,o,I⟩),UL p] w fun e w'=>e=H (V (V2 r p))/\F0 w w':=by
 obtain⟨HF,HX⟩:=VA w (Rz p);unfold Rz at HF HX;unfold UL;obtain⟨a0,k⟩:=F1 hp r.digits ho.bn.1;obtain⟨c,D⟩:∃c,Zy p.pan/10^(6-r.digits)=c:=⟨_,rfl⟩;rw[D]at k
 have b0:M (∀W,z0 O 133 #[U (p.pan.extract 0 r.digits)] W fun e w'=>e=H (Y Z (c:Nat))/\w'=W):=fun W=>by rw[<-k];exact U2 _ W a0
 have F:M (∀W,F0 w W->z0 O 139 #[E A r.mcc.length mc,Y Z p.mcc] W fun e w'=>e=H (V (Uo r.mcc p.mcc))/\w'=W):=fun W t=>Rq W A mc r.mcc p.mcc (hm.fr t) ho.mc.1
 have K:M (∀W,F0 w W->z0 O 139 #[E B r.cur.length cc,Y Z p.cur] W fun e w'=>e=H (V (Uo r.cur p.cur))/\w'=W):=fun W t=>Rq W B cc r.cur p.cur (hu.fr t) ho.cu.1
 obtain⟨f,L⟩:∃f,r.am.getD (0,0)=f:=⟨_,rfl⟩
 have HB:M (V2 r p=(decide ((r.lo:Int)<=(c:Int))&&(decide ((c:Int)<=(r.hi:Int))&&((decide (r.mcc.length=0)||Uo r.mcc p.mcc)&&((!r.am.isSome||(decide ((f.1:Int)<=p.am)&&decide (p.am<=(f.2:Int))))&&(decide (r.cur.length=0)||Uo r.cur p.cur)))))):=by
  show _=_
  unfold V2 Uc Mk;rw[D]
  have e1:decide (r.lo<=c)=decide ((r.lo:Int)<=(c:Int)):=by congr 1;apply propext;omega
  have e2:decide (c<=r.hi)=decide ((c:Int)<=(r.hi:Int)):=by congr 1;apply propext;omega
  have e3:decide (r.mcc=[])=decide (r.mcc.length=0):=by congr 1;apply propext;exact y7.symm
  have e4:decide (r.cur=[])=decide (r.cur.length=0):=by congr 1;apply propext;exact y7.symm
  rw[e1,e2,e3,e4,<-L]
  cases r.am with
  |none=>rfl
  |some f=>rfl
 have N:=fun j v P=>(HF.o.cell (p:=⟨g,o+j,I⟩) (bL w _ (hc j v P))).trans (hc j v P)
 have d0:=(UP hp).1;have e0:=ho.bn.1;obtain⟨h,Q⟩:∃b,r.am.isSome=b:=⟨_,rfl⟩;obtain⟨u,l⟩:∃u,r.mcc.length=u:=⟨_,rfl⟩;obtain⟨x,m⟩:∃x,r.cur.length=x:=⟨_,rfl⟩;obtain⟨bm,R⟩:∃b,Uo r.mcc p.mcc=b:=⟨_,rfl⟩;obtain⟨bc,S⟩:∃b,Uo r.cur p.cur=b:=⟨_,rfl⟩;rw[Q,l,m,R,S]at HB;rw[l,R]at F;rw[m,S]at K
 have i:M (∀d,F0 (w.alloc (z2 #[U p.pan,Y Z p.mcc,Y Z p.am,Y Z p.cur] 35)) d->d.cell? ⟨w.heap.size,0,I⟩=J (U p.pan)/\d.cell? ⟨w.heap.size,1,I⟩=J (Y Z p.mcc)/\d.cell? ⟨w.heap.size,2,I⟩=J (Y Z p.am)/\d.cell? ⟨w.heap.size,3,I⟩=J (Y Z p.cur)/\d.cell? ⟨g,o+2,I⟩=J (Y Z (r.digits:Nat))/\d.cell? ⟨g,o+3,I⟩=J (Y Z (r.lo:Nat))/\d.cell? ⟨g,o+4,I⟩=J (Y Z (r.hi:Nat))/\d.cell? ⟨g,o+5,I⟩=J (E A u mc)/\d.cell? ⟨g,o+6,I⟩=J (E B x cc)/\d.cell? ⟨g,o+7,I⟩=J (V h)/\d.cell? ⟨g,o+8,I⟩=J (Y Z (f.1:Nat))/\d.cell? ⟨g,o+9,I⟩=J (Y Z (f.2:Nat))):=by
  intro d t;have e:=t.whole HX.o
  have a:=fun j v P=>(t.cell (p:=⟨g,o+j,I⟩) (bL _ _ (N j v P))).trans (N j v P)
  rw[<-Q,<-l,<-m,<-L];exact⟨Zc e 0,Zc e 1,Zc e 2,Zc e 3,a 2 _ rfl,a 3 _ rfl,a 4 _ rfl,a 5 _ rfl,a 6 _ rfl,a 7 _ rfl,a 8 _ rfl,a 9 _ rfl⟩
 go_enter Tryz.func87,Tryz.ntmps87;go_upto_region 1 with fail;generalize w.alloc _=W at*;generalize w.heap.size=X at*;obtain⟨x0,x1,x2,x3,v2,v3,v4,v5,v6,v7,v8,v9⟩:=i.o W Zt
 have f0:(r.digits:Int)<=(p.pan.size:Int):=by omega
 go_quiet ((go_at_call 133;exact Calls.quiet_of_same (b0.o _)))
 have q:M (F0 W (W.drewN nq)):=⟨rfl,rfl,rfl,z1 _,fun _ _ _=>rfl⟩;obtain⟨x0,x1,x2,x3,v2,v3,v4,v5,v6,v7,v8,v9⟩:=i.o _ q.o;generalize W.drewN nq=W1 at*;go_upto_region 2 with fail
 go_quiet ((go_at_call 139;exact Calls.quiet_of_same (F.o _ ((HF.o.trans q.o).trans ⟨rfl,rfl,rfl,z1 _,fun _ _ _=>rfl⟩))))
 have s:M (F0 W (W1.drewN nq)):=q.o.trans ⟨rfl,rfl,rfl,z1 _,fun _ _ _=>rfl⟩;obtain⟨x0,x1,x2,x3,v2,v3,v4,v5,v6,v7,v8,v9⟩:=i.o _ s.o;generalize W1.drewN nq=W2 at*;go_upto_region 3 with fail
 go_quiet ((go_at_call 139;exact Calls.quiet_of_same (K.o _ ((HF.o.trans s.o).trans ⟨rfl,rfl,rfl,z1 _,fun _ _ _=>rfl⟩))))
 have T:M (F0 W (W2.drewN nq)):=s.o.trans ⟨rfl,rfl,rfl,z1 _,fun _ _ _=>rfl⟩;obtain⟨x0,x1,x2,x3,v2,v3,v4,v5,v6,v7,v8,v9⟩:=i.o _ T.o;generalize W2.drewN nq=W3 at*;go_upto_region 4 with fail
 have c0:¬(r.lo:Int)<=(c:Int)\/((r.lo:Int)<=(c:Int)/\¬(c:Int)<=(r.hi:Int))\/((r.lo:Int)<=(c:Int)/\(c:Int)<=(r.hi:Int)/\bm=false/\((u:Int)==0)=false/\¬u=0)\/((r.lo:Int)<=(c:Int)/\(c:Int)<=(r.hi:Int)/\(bm=true\/bm=false/\u=0)/\(bc=false/\(((x:Int)==0)=false/\¬x=0)\/(bc=true\/bc=false/\x=0)/\(h=false\/h=true/\(¬(f.1:Int)<=p.am\/(f.1:Int)<=p.am/\(p.am<=(f.2:Int)\/¬p.am<=(f.2:Int)))))):=by
  cases bm<;>cases bc<;>cases h<;>simp<;>omega
 rcases c0 with a1|⟨a1,a2⟩|⟨a1,a2,rfl,z,y⟩|⟨a1,a2,rfl|⟨rfl,rfl⟩,⟨rfl,z,y⟩|⟨rfl|⟨rfl,rfl⟩,rfl|⟨rfl,q1|⟨q1,q2|q2⟩⟩⟩⟩
 all_goals
  go_quiet (fail)
  go_wp2_with fail;go_ret;exact⟨by rw[HB.o];simp;try first|omega|(intros;omega),(HF.o.trans T.o).trans ⟨rfl,rfl,rfl,z1 _,fun _ _ _=>rfl⟩⟩
structure Sm (w:z4)(q:Nat)(rts:List Zf)(R:List Ze):Prop where
 c1:∃ra rc,w.cell? ⟨q,1,I⟩=J (E ra rts.length rc)/\∀i t,rts[i]?=J t->∃g,ra=J ⟨g,0,I⟩/\w.cell? ⟨g,i*3,I⟩=J (U t.name)/\w.cell? ⟨g,i*3+1,I⟩=J (Y Z (t.base:Nat))/\w.cell? ⟨g,i*3+2,I⟩=J (Y Z (t.rate:Nat))
 c2:∃la lc,w.cell? ⟨q,2,I⟩=J (E la R.length lc)/\∀i r,R[i]?=J r->∃g ma mc ca cc pa pc,la=J ⟨g,0,I⟩/\(∀j v,(uP r ma mc ca cc pa pc)[j]?=J v->w.cell? ⟨g,i*13+j,I⟩=J v)/\Zu w ma r.mcc/\Zu w ca r.cur/\Zu w pa r.routes
theorem Sm.fr {w w' q rts R}(h:Sm w q rts R)(a:F0 w w'):Sm w' q rts R:=by
 have k:∀{X o:Nat}{v:y5},w.cell? ⟨X,o,I⟩=J v->w'.cell? ⟨X,o,I⟩=J v:=fun{X o v} b=>(a.cell (p:=⟨X,o,I⟩) (bL w _ b)).trans b
 obtain⟨l,m,n,s⟩:=h.c1;obtain⟨u,x,y,z⟩:=h.c2;refine⟨⟨l,m,k n,fun i t hi=>?_⟩,⟨u,x,k y,fun i r hi=>?_⟩⟩
 ·obtain⟨g,c,d,e,f⟩:=s i t hi
  exact⟨g,c,k d,k e,k f⟩
 obtain⟨g,A,B,C,D,E,F,c,d,e,f,G⟩:=z i r hi
 exact⟨g,A,B,C,D,E,F,c,fun j v b=>k (d j v b),e.fr a,f.fr a,G.fr a⟩
theorem TD.at' {base:Nat}{w:z4}:∀{rs:List Xa}{a:List y5}{j:Nat}{r:Xa},TD base w rs a->rs[j]?=J r->∃c,wv base w r c/\∀o v,c[o]?=J v->a[j*13+o]?=J v
 |[],_,j,_,_,hj=>by simp at hj
 |r::rs,a,0,r',⟨c,rest,e,h1,h2⟩,hj=>by
  simp at hj;subst hj;refine⟨c,h1,fun o v b=>?_⟩;have:=(iG.1 b).1;rw[e,Nat.zero_mul,z8,List.getElem?_append_left this];exact b
 |r::rs,a,j+1,r',⟨c,rest,e,h1,h2⟩,hj=>by
  rw[List.getElem?_cons_succ]at hj;obtain⟨d,f,g⟩:=TD.at' h2 hj;refine⟨d,f,fun o v b=>?_⟩
  have i:c.length=13:=by obtain⟨k,l,m,h,_⟩:=h1;rw[h];rfl
  rw[e,aR (by omega),show(j+1)*13+o-c.length=j*13+o from by omega];exact g o v b
theorem Sm.of {w B q body rts R}(h:X9 w B q body rts R):Sm w q rts R:=by
 obtain⟨V,W,X,Y,_,k,l,a,b,m⟩:=h.row;obtain⟨n,p,s⟩:=oL a;subst s;obtain⟨u,x,y⟩:=oL b;subst y;refine⟨⟨n,p,k,fun i t hi=>?_⟩,⟨u,x,l,fun i r hi=>?_⟩⟩
 ·have z:=(iG.1 hi).1
  obtain⟨g,cap,e,_,A⟩:=a.form (by omega);injection e with e _ _;subst e;obtain⟨C,D,E⟩:=TM rts i t hi
  have d:∀o v,(Yi rts)[o]?=J v->w.cell? ⟨g,o,I⟩=J v:=fun o v F=>by
   have:=a.cells (g:=g) rfl o v F;rw[Yd,z8]at this;exact this
  exact⟨g,rfl,d _ _ C,d _ _ D,d _ _ E⟩
 have z:=(iG.1 hi).1
 obtain⟨g,cap,e,_,A⟩:=b.form (by omega);injection e with e _ _;subst e;obtain⟨c,⟨Z,vc,vp,rfl,g1,g2,g3⟩,f⟩:=m.at' (j:=i) (r:=r.ref) (by rw[z3,hi];rfl);obtain⟨G,H,K⟩:=oL g1;subst K;obtain⟨L,M,N⟩:=oL g2;subst N;obtain⟨O,P,Q⟩:=oL g3;subst Q
 have S:UJ r.ref.routes=Zg r.routes:=by unfold UJ Zg Ze.ref;simp
 have T:r.ref.routes.length=r.routes.length:=by unfold Ze.ref;simp
 rw[S]at g3;rw[T]at g3 f;refine⟨g,G,H,L,M,O,P,rfl,fun j v U=>?_,Zu.of g1,Zu.of g2,Zu.of g3⟩;have:=b.cells (g:=g) rfl (i*13+j) v (f j v U);rw[Yd,z8]at this;exact this
theorem Tq (R p i r)(h:R[i]?=J r):YY R p (Zy p.pan) i=V2 r p:=by
 unfold YY V2;rw[h]
theorem Pe (w q rts R p)(h:Sm w q rts R)(hb:Yy rts R)(hp:XT p.pan=true):
  z0 O 100 #[G (J ⟨q,0,I⟩),UL p] w fun e w'=>e=H (Y Z (V0 (YG (Zv R) (YY R p (Zy p.pan)) R.length)))/\F0 w w':=by
 obtain⟨HF,HX⟩:=VA w (Rz p);have HH:M (Sm (w.alloc (Rz p)) q rts R):=h.fr HF.o;have a0:=Za hb;have HP:M (XT p.pan=true):=hp;obtain⟨n,hn⟩:∃n,R.length=n:=⟨_,rfl⟩;have HN:=Za hn
 have j0:n<=8:=by have:=hb.l8;omega
 unfold Rz at HF HX HH;unfold UL;rw[hn];go_enter Tryz.func100,Tryz.ntmps100;go_upto_region 1 with fail;generalize w.alloc _=W at*;generalize w.heap.size=X at*;go_wp2_with fail
 go_loopg [5,6,7] n (fun m bb i _ wr=>∃k b,k<=n/\m=n-k/\bb=Y Z (V0 b)/\i=Y Z (k:Nat)/\M (YG (Zv R) (YY R p (Zy p.pan)) k=b)/\M (F0 W wr))
 case atStart=>exact⟨0,I,y6 _,rfl,rfl,rfl,rfl,Zt⟩
 obtain⟨k,b,hk,rfl,rfl,rfl,A,f⟩:=hrel;obtain⟨la,lc,Q,h3⟩:=(HH.o.fr f.o).c2;rw[HN.o]at Q;by_cases k0:k<n
 ·have b0:(k:Int)<(n:Int):=by omega
  obtain⟨r,S⟩:∃r,R[k]?=J r:=⟨_,gE (by have:=HN.o;omega)⟩;obtain⟨g,ma,mc,ca,cc,pa,pc,rfl,l,c0,d0,l0⟩:=h3 k r S
  have C:M (∀i r,R[i]?=J r->wr.cell? ⟨g,i*13+1,I⟩=J (Y Z (Zv R i:Nat))):=fun i r' hi=>by
   obtain⟨g',m0,n0,o0,p0,q0,r0,e,e0,_⟩:=h3 i r' hi;injection e with e;injection e with e _ _;subst e
   have e2:Zv R i=r'.rank:=by unfold Zv;rw[hi];rfl
   rw[e2];exact e0 1 _ rfl
  have D:M (∀s,M (F0 wr s)->z0 O 87 #[G (J ⟨g,k*13,I⟩),z7 #[U p.pan,Y Z p.mcc,Y Z p.am,Y Z p.cur]] s fun e w'=>e=H (V (YY R p (Zy p.pan) k))/\M (F0 wr w')/\w'.cell? ⟨q,2,I⟩=J (E (J ⟨g,0,I⟩) n lc)/\w'.cell? ⟨X,0,I⟩=J (U p.pan)/\w'.cell? ⟨X,1,I⟩=J (Y Z p.mcc)/\w'.cell? ⟨X,2,I⟩=J (Y Z p.am)/\w'.cell? ⟨X,3,I⟩=J (Y Z p.cur)):=by
   intro s T;rw[Tq R p k r S];refine(Qp s g (k*13) r ma mc ca cc pa pc rts.length p (fun j v hv=>((T.o.cell (p:=⟨g,k*13+j,I⟩) (bL wr _ (l j v hv))).trans (l j v hv))) (c0.fr T.o) (d0.fr T.o) (a0.o.rl r (mG S)) HP.o).mono ?_;rintro e w' ⟨he,h4⟩;have h5:=T.o.trans h4;have t:=(f.o.trans h5).whole HX.o;exact⟨he,h5,(h5.cell (p:=⟨q,2,I⟩) (bL wr _ Q)).trans Q,Zc t 0,Zc t 1,Zc t 2,Zc t 3⟩
  have t:=f.o.whole HX.o;have hS:wr.cell? ⟨q,2,I⟩=J (E (J ⟨g,0,I⟩) n lc)/\wr.cell? ⟨X,0,I⟩=J (U p.pan)/\wr.cell? ⟨X,1,I⟩=J (Y Z p.mcc)/\wr.cell? ⟨X,2,I⟩=J (Y Z p.am)/\wr.cell? ⟨X,3,I⟩=J (Y Z p.cur):=⟨Q,Zc t 0,Zc t 1,Zc t 2,Zc t 3⟩;have s0:M (F0 wr wr.drew):=Zt.drew;have f0:M (R[k]?=J r):=S;obtain⟨bi,F⟩:∃bi,V0 b=bi:=⟨_,rfl⟩;have x:=Za F;rw[F];obtain⟨mt,K⟩:∃mt,YY R p (Zy p.pan) k=mt:=⟨_,rfl⟩;have d:M (YY R p (Zy p.pan) k=mt):=K;rw[K]at D;go_upto_region 5 with fail
  go_region_held3 (fun s=>s.cell? ⟨q,2,I⟩=J (E (J ⟨g,0,I⟩) n lc)/\s.cell? ⟨X,0,I⟩=J (U p.pan)/\s.cell? ⟨X,1,I⟩=J (Y Z p.mcc)/\s.cell? ⟨X,2,I⟩=J (Y Z p.am)/\s.cell? ⟨X,3,I⟩=J (Y Z p.cur)) (first|assumption|go_keep) (first
   |(go_at_call 87;refine(D.o _ (by assumption)).mono ?_;rintro e B ⟨rfl,z,g0⟩))
  have l2:=g0.1
  have r1:B.cell? ⟨g,k*13+1,I⟩=J (Y Z (Zv R k:Nat)):=by
   have e:=C.o k r f0.o;exact(z.o.cell (p:=⟨g,k*13+1,I⟩) (bL wr _ e)).trans e
  have u:=Za (f.o.trans z.o)
  cases mt with
  |false=>
   have a:M (YG (Zv R) (YY R p (Zy p.pan)) (k+1)=b):=by show _=_;unfold YG;rw[d.o,A.o];simp
   go_upto_region 6 with fail
   go_quiet (fail)
   have c:M (F0 W (B.drewN nq)):=u.o.trans ⟨rfl,rfl,rfl,z1 _,fun _ _ _=>rfl⟩;go_wp2_with fail;go_roundg (n-(k+1))
   case measure=>omega
   exact⟨k+1,b,by omega,rfl,by rw[x.o],by go_num,a,c⟩
  |true=>
   cases b with
   |none=>
    have a:M (YG (Zv R) (YY R p (Zy p.pan)) (k+1)=J k):=by show _=_;unfold YG;rw[d.o,A.o];simp
    have e1:bi= -1:=x.o.symm;subst e1;go_upto_region 6 with fail
    go_quiet (fail)
    have c:M (F0 W (B.drewN nq)):=u.o.trans ⟨rfl,rfl,rfl,z1 _,fun _ _ _=>rfl⟩;go_wp2_with fail;go_roundg (n-(k+1))
    case measure=>omega
    exact⟨k+1,(J k),by omega,rfl,rfl,by go_num,a,c⟩
   |some y=>
    have e1:bi=(y:Int):=x.o.symm;subst e1;have L:=Uu (Zv R) (YY R p (Zy p.pan)) k;rw[A.o]at L
    have t0:(y:Int)<(n:Int):=by have:=L.1;omega
    have v0:¬(y:Int)<0:=by omega
    obtain⟨ry,h0⟩:∃ry,R[y]?=J ry:=⟨_,gE (by have:=HN.o;omega)⟩
    have r2:B.cell? ⟨g,y*13+1,I⟩=J (Y Z (Zv R y:Nat)):=by
     have e:=C.o y ry h0;exact(z.o.cell (p:=⟨g,y*13+1,I⟩) (bL wr _ e)).trans e
    by_cases N:Zv R y<Zv R k
    ·have a:M (YG (Zv R) (YY R p (Zy p.pan)) (k+1)=J k):=by show _=_;unfold YG;rw[d.o,A.o];simp[N]
     have P:((Zv R y:Nat):Int)<((Zv R k:Nat):Int):=by omega
     generalize Zv R y=r8 at*;generalize Zv R k=r9 at*;go_upto_region 6 with fail
     go_quiet (fail)
     have c:M (F0 W (B.drewN nq)):=u.o.trans ⟨rfl,rfl,rfl,z1 _,fun _ _ _=>rfl⟩;go_wp2_with fail;go_roundg (n-(k+1))
     case measure=>omega
     exact⟨k+1,(J k),by omega,rfl,rfl,by go_num,a,c⟩
    have a:M (YG (Zv R) (YY R p (Zy p.pan)) (k+1)=J y):=by show _=_;unfold YG;rw[d.o,A.o];simp[N]
    have P:¬((Zv R y:Nat):Int)<((Zv R k:Nat):Int):=by omega
    generalize Zv R y=r8 at*;generalize Zv R k=r9 at*;go_upto_region 6 with fail
    go_quiet (fail)
    have c:M (F0 W (B.drewN nq)):=u.o.trans ⟨rfl,rfl,rfl,z1 _,fun _ _ _=>rfl⟩;go_wp2_with fail;go_roundg (n-(k+1))
    case measure=>omega
    exact⟨k+1,(J y),by omega,rfl,rfl,by go_num,a,c⟩
 have b0:¬(k:Int)<(n:Int):=by omega
 have i0:k=n:=by omega
 subst i0;go_wp2_with fail;go_ret;exact⟨ZP (by rw[A.o]),HF.o.trans f.o⟩
