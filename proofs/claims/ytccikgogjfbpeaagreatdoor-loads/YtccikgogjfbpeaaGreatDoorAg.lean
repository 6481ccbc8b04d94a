import Derived.Test.YtccikgogjfbpeaaGreatDoorAf
import Derived.Deep.CutBlock
open Option renaming none->I,some->Z
open Go.Value renaming int->J,slice->O,bool->E,string->D,pointer->T,oneCell'->y1
open Go.IntKind renaming i64->Y,i64->z9
open Go.RowKit renaming Hid->U
open Int renaming natCast_add->G
open List renaming length_map->M,take_of_length_le->z0
open Go.Proofs.Tryz renaming prog->N
open And renaming intro->R
open Go.Ending renaming returned->L
open Or renaming inl->A,inr->z4
open Go.World renaming news_of_block->C,ownsRow->z3
open Bool renaming or_eq_true->z1
open Go renaming Calls->z2,World->z5,Value->z7
open Nat renaming zero_le->z6,succ_le_of_lt->z8,le_refl->y0,le_trans->y2
namespace Go.Proofs.YtccikgogjfbpeaaGreatDoor
set_option maxRecDepth 30000
set_option maxHeartbeats 8000000
open Go.RowKit
theorem CA (a k u v):Vs (Vs a k u) k v=Vs a k v:=by
 funext o
 unfold Vs
 by_cases h:o=k<;>simp[h]
theorem LD (w p q g X i u body cv va n vc rts l f cs ch)(hp:Sx w p q i f)(hv:AM w p q g X body cv va n vc rts)(R:XB w X cs)(L0:cs 10=O I 0 0)(M0:cs 11=E false)(O0:cs 12=E false)(hl:wV body u l)(hb:body.length<=3000)(t0)(q0:body[i]?=Z t0)(e0:(t0.text.toList==[100,101,99,108,105,110,101])=false)(i2:(t0.text.toList==[99,104,101,97,112,101,115,116])=ch)(hi:i=if ch then u else u+1):
  z2 N 135 #[T (Z ⟨p,0,I⟩),T (Z ⟨X,0,I⟩)] w (FB w p q X (u+2*l.length) (Xj rts 1 f l) cs (l.map (fun t=>Zz t.text (-1) 0 rts)) false ch):=by
 obtain⟨ii,v1,x1,z1,A1⟩:=info_parts Y3;have HP:=Za hp;have S:=Za hv;have HX:=Za R;have HL:=Za hl;have H1:U (cs 10=O I 0 0/\cs 11=E false/\cs 12=E false):=⟨L0,M0,O0⟩;have HN:=Za hv.n1.2.2.2.2;have V:=Za (bL w _ hp.c0);have P0:=Za (bL w _ (R.cell 0 (by omega)));have Q0:=Za q0;have HI:=Za hi;have j2:i<body.length:=(iG.1 q0).1;have l2:=hl.ps
 have m2:u+2*l.length<body.length:=by
  obtain⟨t,ht,_⟩:=hl.en;exact(iG.1 ht).1
 clear hp hv R L0 M0 O0 hl q0 hi;go_enter Tryz.func135,Tryz.ntmps135;go_wp2_with fail;refine(XE w p q g i f body cv t0 HP.o S.o.wt Q0.o).mono ?_;rintro e w1 ⟨rfl,c⟩;have f0:=Za c;clear c;go_wp2_with fail;refine(XE w1 p q g i f body cv t0 (HP.o.fr f0.o) (S.o.fr f0.o.no).wt Q0.o).mono ?_;rintro e w2 ⟨rfl,c⟩;have a:=Za (f0.o.trans c);clear c f0
 go_upto_if 22 with fail
 go_cut [] (fun wc=>U (Sx wc p q (u+1) f)/\U (XB wc X (Vs cs 12 (E ch)))/\U (Fr (fun j=>j=p\/j=X) w wc))
 case first=>
  cases ch with
  |false=>
   have s0:U (Sx w2 p q (u+1) f):=by have e:=HP.o.fr a.o;rw[HI.o]at e;exact e
   go_wp2_with fail;go_meet
   exact⟨s0,(HX.o.fr a.o).congr (fun o _=>by unfold Vs;by_cases h:o=12<;>simp[h,H1.o.2.2]),a.o.no⟩
  |true=>
   have s0:U (Sx w2 p q u f):=by have e:=HP.o.fr a.o;rw[HI.o]at e;exact e
   have hs:=(HX.o.fr a.o).set (k:=12) (by omega) (E true);have HS:=Za hs;have v:=Za (s0.o.fr hs.2 (fun e=>HN.o e.symm));have n2:=(HX.o.fr a.o).cell 12 (by omega);have xf:=(HX.o.fr a.o).fz;have c1:=v.o.c1;have fz:=v.o.fz;clear hs;go_wp2_with fail;go_meet
   have r:=v.o.move (u+1);rw[G]at r;exact⟨r.1,HS.o.1.fr r.2 HN.o,(a.o.no.trans (HS.o.2.mono (fun k e=>z4 e))).trans (r.2.mono (fun k e=>A e))⟩
 obtain⟨B1,R0,C1⟩:=hcut;obtain⟨ds,g0⟩:∃ds,ds=Vs cs 12 (E ch):=⟨_,rfl⟩;rw[<-g0]at R0;have D1:=Za g0
 have S0:U (ds 10=O I 0 0):=by show _=_;rw[g0];unfold Vs;simp[H1.o.1]
 clear g0;go_wp2_with fail
 go_loopg [4] l.length (fun m ko wr=>∃j fj a0 vp,j<=l.length/\m=l.length-j/\ko=J Y ((j+1:Nat):Int)/\U (a0=(l.take j).map (fun t=>Zz t.text (-1) 0 rts))/\U (XB wr X (Vs ds 10 vp))/\U (wr.ownsRow w.heap.size 3 1 vp j (UJ a0))/\U (Sx wr p q (if j=0 then u+1 else u+2*j) fj)/\U (Fr (fun j=>j=p\/j=X) w wr)/\U (Xj rts 1 f l=Xj rts (j+1) fj (l.drop j)))
 case atStart=>exact⟨0,f,[],O I 0 0,z6 _,rfl,rfl,rfl,R0.o.congr (fun o _=>by unfold Vs;by_cases h:o=10<;>simp[h,S0.o]),World.ownsRow_nil _ _ _ _,B1,C1,rfl⟩
 obtain⟨j,fj,a0,vp,hj,o2,rfl,T0,v0,w0,x0,Q,HR⟩:=hrel;by_cases V0:j<l.length
 ·obtain⟨t,ht⟩:∃t,l[j]?=Z t:=⟨_,gE V0⟩
  obtain⟨x,R⟩:∃x,x=u+2*j:=⟨_,rfl⟩;obtain⟨kk,z⟩:∃kk:Int,kk=((j+1:Nat):Int):=⟨_,rfl⟩;rw[<-z]
  have y0:U (body[x+1]?=Z t):=by
   have:=HL.o.it j t ht;rw[show u+1+2*j=x+1 from by omega]at this;exact this
  have E1:=Za (O3 ht)
  have F1:U ((l.take (j+1)).map (fun t=>Zz t.text (-1) 0 rts)=(l.take j).map (fun t=>Zz t.text (-1) 0 rts)++[Zz t.text (-1) 0 rts]):=by
   show _=_
   rw[List.take_add_one,ht,List.map_append];rfl
  have p2:x+2<=3000:=by omega
  have b0:=Za R;have W0:=Za z;have q2:z9.wrap (kk+1)=kk+1:=IntWalk.i64_in _ (by omega);obtain⟨b4,X0⟩:∃b,decide (4<j+1)=b:=⟨_,rfl⟩;have Y0:=Za X0;have r2:=wu W0.o Y0.o;clear X0 a;rcases Nat.eq_zero_or_pos j with d0|d0
  case' inl=>
   have e0:(kk==1)=true:=by simp;omega
   have Z0:decide ((1:Int)<kk)=false:=by simp;omega
   have a1:U (Sx wr p q (x+1) fj):=by have e:=x0.o;rw[if_pos d0]at e;rw[b0.o,d0];exact e
   have a:=Q;have b1:=v0;have d1:=w0;have e1:=Za (S.o.fr Q.o);clear d0 R z ht;go_wp2_with fail
  case' inr=>
   have e0:(kk==1)=false:=by simp;omega
   obtain⟨tc,A0,G1⟩:=HL.o.cm j (by omega) V0;rw[<-R]at A0;have HC:=Za A0
   have d:U (Sx wr p q x fj):=by have e:=x0.o;rw[if_neg (by omega)]at e;rw[b0.o];exact e
   have Z0:decide ((1:Int)<kk)=true:=by simp;omega
   clear A0 d0 R z ht;go_wp2_with fail;refine(XE wr p q g x fj body cv tc d.o (S.o.fr Q.o).wt HC.o).mono ?_;rintro e w1 ⟨rfl,c⟩;have B0:=Za (d.o.fr c);have I1:=Za (Q.o.trans c.no);have J1:=Za (v0.o.fr c);have K1:=Za (oF w0.o c);have c1:=B0.o.c1;have fz:=B0.o.fz;have r:=B0.o.move (x+1);rw[G]at r;have a1:=Za r.1;have a:=Za (I1.o.trans (r.2.mono (fun k e=>A e)));have b1:=Za (J1.o.fr r.2 HN.o);have d1:=Za (oF K1.o r.2 (fun k e=>by rw[e];exact V.o));have e1:=Za (S.o.fr a.o);clear c r;go_wp2_with fail
  all_goals
   refine(XP _ p q g (x+1) fj body cv t b4 6 _ a1.o e1.o.wt S.o.n1.1 S.o.n1.2.1 y0.o (by decide) (by rfl)).mono ?_;rintro e w3 ⟨rfl,f1,h0⟩;have L1:=Za f1;have j0:=Za (a.o.trans (h0.mono (fun k e=>A e)));have C0:=Za (b1.o.fr h0 HN.o);have D0:=Za (oF d1.o h0 (fun k e=>by rw[e];exact V.o));have g1:=Za (S.o.fr j0.o);clear f1 h0;have s2:=g1.o.ln.2;go_wp2_with fail
   go_loopg [5,6] n (fun m fo ix wi=>∃b,b<=n/\m=n-b/\ix=J Y (b:Nat)/\(∃lp,fo=J Y lp/\U (lp=Zz t.text (-1) 0 (rts.take b)))/\U (F0 w3 wi))
   case atStart=>exact⟨0,z6 _,rfl,rfl,⟨-1,rfl,rfl⟩,Zt⟩
   obtain⟨b,t2,M1,rfl,⟨lp,rfl,E0⟩,B⟩:=hrel;have l0:=Za (L1.o.fr B.o);have F:=Za (g1.o.fr B.o.no);have c0:=l0.o.c0;have q1:=F.o.q1;by_cases d2:b<n
   ·obtain⟨y,hy⟩:∃y,rts[b]?=Z y:=⟨_,gE (by have:=F.o.ln.1;omega)⟩
    obtain⟨g3,G0,v2,x2,N1,r0⟩:=F.o.row b y hy;have O1:=Za G0;rw[G0]at q1;have i1:U (Zz t.text (-1) 0 (rts.take (b+1))=if(y.name.toList==t.text.toList)=true then(b:Int)else Zz t.text (-1) 0 (rts.take b)):=N0 hy;obtain⟨bx,P1⟩:∃bx,(y.name.toList==t.text.toList)=bx:=⟨_,rfl⟩;have j1:=Za P1
    have Q1:(b:Int)<(n:Int):=by omega
    have H0:U (∀W,F0 wr W->W.cell? ⟨p,0,I⟩=Z (T (Z ⟨q,0,I⟩))/\W.cell? ⟨q,1,I⟩=Z (O (Z ⟨g3,0,I⟩) n vc)/\W.cell? ⟨g3,b*3,I⟩=Z (D y.name)):=fun W hW=>⟨(l0.o.fr hW).c0,by have e:=(F.o.fr hW.no).q1;rw[O1.o]at e;exact e,(hW.cell (p:=⟨g3,b*3,I⟩) N1).trans r0⟩
    have HA:U (∀W,F0 wr W->z2 N 80 #[T (Z ⟨p,0,I⟩)] W fun e w'=>e=L (D t.text)/\F0 W w'):=fun W hW=>XE W p q g (x+1) _ body cv t (l0.o.fr hW) (F.o.fr hW.no).wt y0.o
    clear hy G0;go_wp2_with fail
    go_cut [80]from 55 to 81 (fun s wx=>s=E bx/\U (F0 wr wx))
    case first=>
     go_region_with (go_at_call 80;refine(HA.o _ (by exact Zt.drew)).mono ?_;rintro e w5 ⟨rfl,c⟩;have H:U (F0 wr w5):=(Zt.drew).trans c;have k0:=(H0.o w5 H.o).1;have k1:=(H0.o w5 H.o).2.1;have k2:=(H0.o w5 H.o).2.2;clear c)
     all_goals(go_wp2_with fail;go_meet;exact⟨rfl,H⟩)
    obtain⟨rfl,l1⟩:=hcut;clear c0 q1 r0
    cases bx with
    |true=>
     go_wp2;go_roundg (n-(b+1))
     case measure=>omega
     exact⟨b+1,by omega,rfl,by go_num,⟨b,rfl,by show _=_;rw[i1.o,j1.o];rfl⟩,B.o.trans l1.o⟩
    |false=>
     go_wp2;go_roundg (n-(b+1))
     case measure=>omega
     exact⟨b+1,by omega,rfl,by go_num,⟨lp,rfl,by show _=_;rw[i1.o,j1.o];exact E0.o⟩,B.o.trans l1.o⟩
   have Q1:¬(b:Int)<(n:Int):=by omega
   have n0:U (lp=Zz t.text (-1) 0 rts):=by
    have e:=E0.o;rw[z0 (by have:=F.o.ln.1;omega)]at e;exact e
   obtain⟨bf,R1⟩:∃bf,decide (lp<0)=bf:=⟨_,rfl⟩;have S1:=Za R1;have T1:=Za (j0.o.trans B.o.no);have V1:=Za (C0.o.fr B.o);have W1:=Za (oF D0.o B.o);clear E0 M1;go_wp2_with fail;refine(XP _ p q g (x+1) _ body cv t bf 4 _ l0.o F.o.wt S.o.n1.1 S.o.n1.2.1 y0.o (by decide) (by rfl)).mono ?_;rintro e w5 ⟨rfl,m1,m0⟩;have X1:=Za m1;have H:=Za (T1.o.trans (m0.mono (fun k e=>A e)));have o1:=Za (V1.o.fr m0 HN.o);have p1:=Za (oF W1.o m0 (fun k e=>by rw[e];exact V.o));have y2:=H.o.size
   have Y1:w5.cell? ⟨X,10,I⟩=Z vp:=by have e:=o1.o.cell 10 (by omega);unfold Vs at e;simpa using e
   clear m1 m0 c0 q1
   go_wp2_with (at_builtin;refine wpList_append_lies _ rfl (.tmp 90) (.tmp 92) 25 rfl w.heap.size 3 ii _ 1 8 Tryz.underlying25 v1 x1 z1 A1 rfl (by decide) vp j (UJ a0) rfl ?h1 ⟨w5.heap.size,0,I⟩ 1 1 [J Y lp] rfl rfl ?h2 ?h3 (by decide) ?h4 ?h5 ?h6 _ rfl ?h7)
   case h1=>exact p1.o.alloc _
   try case h2=>exact C (aN w5 (.cells #[J Y lp] 3))
   case h3=>simp[y1]
   case h4=>unfold maxLen;omega
   case h5=>omega
   case h6=>first|omega|(simp;omega)
   intro g2 o0 w6 p0 K _ _
   have P:∀k,vp.ownBlock=Z k->w.heap.size<=k:=fun k hk=>(p1.o.lt k hk).1
   have I0:Fr (fun k=>vp.ownBlock=Z k) w5 w6:=((Fr.refl (fun k=>vp.ownBlock=Z k) w5).alloc _).grown K (fun k hk=>A hk);have Z1:=Za p0;have a2:=Za ((H.o.alloc _).grown K (fun k hk=>z4 (P k hk)));have J0:=Za (o1.o.fr I0 (fun e=>by have:=P X e;have:=P0.o;omega));have b2:=Za (X1.o.fr I0 (fun e=>by have:=P p e;have:=V.o;omega))
   have f2:w6.cell? ⟨X,10,I⟩=Z vp:=by have e:=J0.o.cell 10 (by omega);unfold Vs at e;simpa using e
   have xf:=J0.o.fz;have hs:=J0.o.set (k:=10) (by omega) (O (Z ⟨g2,0,I⟩) (j+1) o0);rw[CA]at hs;have HS:=Za hs;have v:=Za (b2.o.fr hs.2 (fun e=>HN.o e.symm));have c1:=v.o.c1;have fz:=v.o.fz;clear K p0 P I0 hs Y1;go_wp2;go_roundg (l.length-(j+1))
   case measure=>omega
   have r:=v.o.move (x+1+1);rw[G (x+1)]at r;refine⟨j+1,ZX (ZX fj b4 6 t.line) bf 4 t.line,a0++[lp],O (Z ⟨g2,0,I⟩) (j+1) o0,by omega,rfl,by rw[W0.o];go_num,?_,?_,?_,?_,?_,?_⟩
   ·show _=_
    rw[T0.o,F1.o,n0.o]
   ·exact HS.o.1.fr r.2 HN.o
   ·show z3 _ _ _ _ _ _ _
    rw[JA];exact oF (oB Z1.o (by have:=P0.o;simpa using this) _) r.2 (fun k e=>by rw[e];exact V.o)
   ·show Sx _ _ _ _ _
    rw[if_neg (by omega),show u+2*(j+1)=x+1+1 from by have:=b0.o;omega];exact r.1
   ·exact(a2.o.trans (HS.o.2.mono (fun k e=>z4 e))).trans (r.2.mono (fun k e=>A e))
   show _=_
   rw[HR.o,E1.o];simp only[Xj];rw[Y0.o,<-n0.o,S1.o]
 obtain⟨te,K0,G1⟩:=HL.o.en
 have ej:j=l.length:=by omega
 rw[<-ej]at K0
 have e0:((((j+1:Nat):Int))==1)=false:=by simp;omega
 have HC:=Za K0
 have d:U (Sx wr p q (u+2*j) fj):=by have e:=x0.o;rw[if_neg (by omega)]at e;exact e
 clear K0;obtain⟨x,R⟩:∃x,x=u+2*j:=⟨_,rfl⟩;obtain⟨kk,z⟩:∃kk:Int,kk=((j+1:Nat):Int):=⟨_,rfl⟩;rw[<-z]at e0 ⊢;rw[<-R]at HC d;have b0:=Za R;clear R z;go_wp2_with fail;refine(XE wr p q g x fj body cv te d.o (S.o.fr Q.o).wt HC.o).mono ?_;rintro e w3 ⟨rfl,c⟩;have j0:=Za (Q.o.trans c.no);have c2:=Za (d.o.fr c);have C0:=Za (v0.o.fr c);have D0:=Za (oF w0.o c);clear c;go_wp2
 go_end0
 refine⟨rfl,?_,⟨vp,?_,?_⟩,j0.o⟩
 ·have e2:fj=Xj rts 1 f l:=by rw[HR.o,dL (by omega)];rfl
  rw[<-e2,<-ej,<-b0.o];exact c2.o
 ·refine C0.o.congr (fun o _=>?_)
  rw[D1.o];have h1:=H1.o;unfold Vs;by_cases r1:o=10
  ·simp[r1]
  by_cases s1:o=12
  ·simp[s1]
  by_cases t1:o=11
  ·simp[t1,h1.2.1]
  simp[r1,t1,s1]
 have e:=D0.o
 rw[T0.o,z0 (by omega)]at e;rw[M,<-ej];exact e
structure U3 (w0 w:z5)(p q X i:Nat)(f:Fa)(cs:Nat->z7):Prop where
 wp:Sx w p q i f
 xb:XB w X cs
 fr:Fr (fun j=>j=p) w0 w
 xl:w0.heap.size<=X
 ne:X≠p
theorem U3.move {w0 w p q X i f b}(h:U3 w0 w p q X i f b)(k:Nat):U3 w0 (w.setCell ⟨p,1,I⟩ (J Y k)) p q X k f b:=by
 have a:=h.wp.move k;exact⟨a.1,h.xb.fr a.2 h.ne,h.fr.trans a.2,h.xl,h.ne⟩
theorem U3.set {w0 w p q X i f a}(h:U3 w0 w p q X i f a){k}(c:k<13)(v):U3 w0 (w.setCell ⟨X,k,I⟩ v) p q X i f (Vs a k v):=by
 have b:=h.xb.set c v;exact⟨h.wp.fr b.2 (fun e=>h.ne e.symm),b.1,h.fr.setCell (p:=⟨X,k,I⟩) (z4 h.xl) v,h.xl,h.ne⟩
theorem U3.call {w0 w w' p q X i a f f' b}(h:U3 w0 w p q X i f b)(d:Sx w' p q a f')(c:Fr (fun j=>j=p) w w'):U3 w0 w' p q X a f' b:=⟨d,h.xb.fr c h.ne,h.fr.trans c,h.xl,h.ne⟩
theorem U3.look {w0 w w' p q X i f a}(h:U3 w0 w p q X i f a)(b:F0 w w'):U3 w0 w' p q X i f a:=h.call (h.wp.fr b) b.no
theorem Da {base:Nat}{w:z5}:∀{rs:List Xa}{a:List z7}{j:Nat}{r:Xa},TD base w rs a->rs[j]?=Z r->a[j*13]?=Z (D r.name)
 |[],_,j,_,_,hj=>by simp at hj
 |r::rs,a,0,r',⟨c,rest,e,h1,h2⟩,hj=>by
  simp at hj;subst hj;obtain⟨d,f,g,b,_⟩:=h1;rw[e,b];rfl
 |r::rs,a,j+1,r',⟨c,rest,e,h1,h2⟩,hj=>by
  have:=Da h2 (j:=j) (r:=r') (by simpa using hj);obtain⟨d,f,g,b,_⟩:=h1
  have l:c.length=13:=by rw[b];rfl
  rw[e,aR (by omega),l,show(j+1)*13-13=j*13 from by omega];exact this
theorem FC {w:z5}{base v n b}(h:w.ownsRow base 170 13 v n b):
  ∃a c,v=O a n c/\∀j u,j<n->b[j*13]?=Z u->∃g,a=Z ⟨g,0,I⟩/\base<=g/\g<w.heap.size/\w.cell? ⟨g,j*13,I⟩=Z u:=by
 obtain⟨a,c,e⟩:=oL h;refine⟨a,c,e,fun j u o f=>?_⟩;obtain⟨g,cap,d,i,k⟩:=h.form (by omega);rw[e]at d;injection d with l _ m;subst l m;subst e;refine⟨g,rfl,i,k,?_⟩;have:=h.cells (g:=g) rfl _ _ f
 rwa [TS,Nat.zero_add]at this
theorem SU:(N.info? 170).map (fun i=>(i.zero,i.size,i.bytes))=Z (Z (.agg #[D ByteArray.empty,J Y 0,J Y 0,J Y 0,J Y 0,O I 0 0,O I 0 0,E false,J Y 0,J Y 0,O I 0 0,E false,E false]),13,152):=by kernel_rfl
def AN (a:ByteArray):Nat->z7
 |0=>D a
 |1=>J Y 0
 |2=>J Y 0
 |3=>J Y 0
 |4=>J Y 0
 |5=>O I 0 0
 |6=>O I 0 0
 |7=>E false
 |8=>J Y 0
 |9=>J Y 0
 |10=>O I 0 0
 |_=>E false
theorem vt (w:z5)(a):XB (w.alloc (.cells #[D a,J Y 0,J Y 0,J Y 0,J Y 0,O I 0 0,O I 0 0,E false,J Y 0,J Y 0,O I 0 0,E false,E false] 170)) w.heap.size (AN a):=by
 have b:=aN w (.cells #[D a,J Y 0,J Y 0,J Y 0,J Y 0,O I 0 0,O I 0 0,E false,J Y 0,J Y 0,O I 0 0,E false,E false] 170);refine⟨fun o c=>bC b o _ ?_,bF b⟩
 match o,c with
 |0,_=>rfl
 |1,_=>rfl
 |2,_=>rfl
 |3,_=>rfl
 |4,_=>rfl
 |5,_=>rfl
 |6,_=>rfl
 |7,_=>rfl
 |8,_=>rfl
 |9,_=>rfl
 |10,_=>rfl
 |11,_=>rfl
 |12,_=>rfl
theorem O8.rules {w a B b p q g i f body K E r V rts d C c L o}(h:O8 w B b p q g i f body K E r rts d C)(F:wv b w L c)(G:(w.alloc o).drew.grownBy a r.ownBlock)(O:a.ownsRow b 170 13 V (d.length+1) (C++c)):
  a.cell? ⟨q,2,I⟩=Z r/\(∀o,a.frozen? ⟨q,o,I⟩=false)/\O8 (a.setCell ⟨q,2,I⟩ V) B b p q g i f body K E V rts (d++[L]) (C++c)/\Fr (fun j=>B<=j) w (a.setCell ⟨q,2,I⟩ V):=by
 have u:∀k,r.ownBlock=Z k->b<=k:=fun k l=>(h.lo.lt k l).1
 have s:=(((Fr.refl (fun k=>r.ownBlock=Z k) w).alloc o).drew).grown G (fun k l=>A l)
 have t:∀k,k<b->¬r.ownBlock=Z k:=fun k l e=>by have:=u k e;omega
 have H:=bL w _ h.q1;have P:=h.wt.lt;have Q:=h.gB;have R:=h.pB;have S:=h.qB;have M:=(s.cell (p:=⟨q,2,I⟩) H (t q h.qB.2)).trans h.q2
 have N:∀o,a.frozen? ⟨q,o,I⟩=false:=fun o=>(s.frozen (p:=⟨q,o,I⟩) H (t q h.qB.2)).trans (h.fq o)
 have J:=h.wp.fr s (t p h.pB.2);have m:=h.wt.fr s (t q h.qB.2) (t g (by omega));have x:Fr (fun j=>j=q) a (a.setCell ⟨q,2,I⟩ V):=(Fr.refl (fun j=>j=q) a).setCell (p:=⟨q,2,I⟩) (A rfl) _;have y:(w.alloc o).drew.ownsRow b 170 13 r d.length C:=(h.lo.alloc _).drew
 have l:∀v n D,w.ownsRow b 3 1 v n D->(a.setCell ⟨q,2,I⟩ V).ownsRow b 3 1 v n D:=fun v n D T=>by
  have z:(w.alloc o).drew.ownsRow b 3 1 v n D:=(T.alloc _).drew;exact oB (z.kept G (WL z y (by decide))) (by simp;omega) _
 refine⟨M,N,⟨J.fr x (fun e=>h.ne e.symm),?_,?_,World.cell?_setCell_same _ _ _ M,fun o=>by simp[N o],?_,?_,TD.snoc (F.keep l) (TD.keep l h.ru),h.gB,h.pB,h.qB,h.ne,?_⟩,?_⟩
 ·refine⟨?_,nL m.lt x.size,m.row.fr x m.lt (by omega)⟩
  rw[cO _ _ _ _ (by simp)];exact m.c0
 ·rw[cO _ _ _ _ (by simp)]
  exact(s.cell (p:=⟨q,1,I⟩) H (t q h.qB.2)).trans h.q1
 ·have z:(w.alloc o).drew.ownsRow b 189 3 E rts.length (Yi rts):=(h.ro.alloc _).drew
  exact oB (z.kept G (WL z y (by decide))) (by simp;omega) _
 ·rw[lA]
  exact oB O (by simp;omega) _
 ·exact y2 h.b2 (y2 s.size x.size)
 exact(s.mono (fun k l=>by have:=u k l;omega)).trans (x.mono (fun k e=>by omega))
def yV (a:Nat->z7)(o:Option (Tk×Tk)):Nat->z7:=
 match o with
 |none=>a
 |some b=>Vs (Vs (Vs a 7 (E true)) 8 (J Y (Zd b.1))) 9 (J Y (Zd b.2))
theorem yW {w W B u p q g i v X f f' body o x y rts k z A}(h:O8 w B u p q g i f body o x y rts k z)(a:U3 w W p q X v f' A)(C:rts.length<=7):∃l n m,AM W p q g X body o l n m rts:=by
 obtain⟨l,m,e,b⟩:=Om h.ro;have D:q<w.heap.size:=bL w _ h.q1;have E:=h.wt.lt
 have c:g≠p:=by have:=h.gB;have:=h.pB;omega
 have F:=a.xl;refine⟨l,rts.length,m,h.wt.fr a.fr h.ne c,?_,⟨h.ne,c,by omega,by omega,a.ne⟩,⟨rfl,C⟩,fun j r G=>?_⟩
 ·have s:=(a.fr.cell (p:=⟨q,1,I⟩) D h.ne).trans h.q1
  rw[e]at s;exact s
 obtain⟨g3,H,K,t,J⟩:=b j r G
 have d:g3≠p:=by have:=h.pB;omega
 exact⟨g3,H,d,by omega,nL t a.fr.size,(a.fr.cell (p:=⟨g3,j*3,I⟩) t d).trans J⟩
theorem Fr.get {w W:z5}(h:F0 w W){p:Addr}{v:z7}(a:w.cell? p=Z v):W.cell? p=Z v:=(h.cell (bL w _ a)).trans a
theorem Db {P F args u a W Q}(H:∀W,F0 a W->z2 P F args W fun e w'=>e=L u/\F0 W w')(b:F0 a W)(k:∀w',F0 a w'->Q (L u) w'):z2 P F args W Q:=
 (H W b).mono (by rintro e w' ⟨rfl,c⟩;exact k w' (b.trans c))
def AO (n:Nat):Code->Bool
 | .region m _ _=>m==n
 | .seq a _=>AO n a
 |_=>false
def IS (n:Nat):Code->Option Code
 | .seq a b=>if AO n a then Z (.seq a b)else IS n b
 |_=>I
def vv (f:Func)(n:Nat):Code:=(f.body.bind (IS n)).getD .skip
set_option maxRecDepth 1000000 in
theorem JB (w B B2 p q g i f body cv vr vl rts g0 xs r j5)(hb:body.length<=3000)(h7:rts.length<=7)(h0:U (O8 w B B2 p q g i f body cv vr vl rts g0 xs))(HA:U (Jr body i r j5))(HQ:U (q≠p/\g≠p))(j0:U (∀W,Fr (fun j=>j=p) w W->BY W q g body cv))(la lc)(T1:U (vl=O la g0.length lc))(n)(HN:U (g0.length=n))(b8)(H2:U (decide (8<=n)=b8))(s4:n<=8)(I2:U (p<w.heap.size))(X fn)(J2:U (fn=Yn r.name.text r.name.line (ZX f b8 6 r.name.line) (g0.map Xa.name)))(x)(S3:U (x=i+1))(f6 y)(K2:U (f6=ZX fn (decide (1000<Zd r.rank)) 5 r.rank.line))(HY:U (y=x+1+1))(v1)(T3:U (v1=Zd r.rank))(L2)(m0:U (L2=Vs (AN r.name.text) 1 (J Y v1)))(M2)(s1:Nat)(n0:U (M2=Vs L2 2 (J Y s1)))(V1:U (s1=r.bin.1.text.size))(b6)(N2:U (decide (6<s1)=b6))(W1)(I1:U (W1=ZX f6 b6 5 r.bin.1.line))(v3)(X1:U (v3=Zd r.bin.1))(O2)(o0:U (O2=Vs M2 3 (J Y v3)))(z)(HZ:U (z=y+2))(t4:z+3<=3000)(v4)(Y1:U (v4=Zd r.bin.2))(y0)(p0:U (y0=Vs O2 4 (J Y v4)))(s2)(P2:U (s2=r.bin.2.text.size))(wc)(hcut:U (U3 w wc p q X (z+2) (ZX W1 (decide (6<s2)||decide (s2≠s1)||decide (v4<v3)) 5 r.bin.2.line) y0))(u1 u4 u5 u6 u7 u8 u9 u10 u11 u12 u13 u14 u15 u16 u17 u18 u19 u20 u21 u22 u23 u24 u25 u26 u27 u28 u29 u30 u31 u32 u33 u34 u35 u36 u37 u38 u39 u40 u41 u42 u43 u44 u45 u46 u47 u48 u49 u50 u51 u52 u53 u54 u55 u56 u57 u58 u59 u60 u61 u62 u63 u64 u65 u66 u67 u68 u69 u70 u71 u72 u73 u74 u75 u76 u77 u78 u79 u80 u81 u82 u83 u84 u85 u86 u87 u88 u89 u90 u91 u92 u93 u94 u95 u96 u97 u98 u99 u100 u101 u102 u103 u104 u105 u106 u107 u108 u109 u110 u111 u112 u113 u114 u115 u116 u117 u118 u119 u120 u121 u122 u123 u124 u125 u126 u127 u128 u129 u130 u131 u132 u133 u134 u135 u136 u137 u138 u139 u140 u141 u142 u143 u144 u145 u146 u147 u148 u149 u150 u151 u152 u153 u154 u155 u156 u157 u158 u159 u160 u161 u162 u163 u164 u165 u166 u167 u168 u169 u170 u171 u172 u173 u174 u175 u176 u177 u178 u179 u180 u181 u182 u183 u184 u185 u186 u187 u188 u189 u190 u191 u192 u193 u194):
  Code.wp N (vv Tryz.f82 17) (bodyPost N Tryz.f82 fun e w'=>e=L (.tuple #[])/\(∃V3 c,O8 w' B B2 p q g j5 (Xt rts (g0.map Xa.name) f r) body cv vr V3 rts (g0++[Vo rts r]) (xs++c))/\Fr (fun j=>B<=j) w w') ⟨#[T (Z ⟨p,0,I⟩),u1,T (Z ⟨q,0,I⟩),T (Z ⟨X,0,I⟩),u4,u5,u6,u7,u8,u9,u10,u11,u12,u13,u14,u15,u16,u17,u18,u19,u20,u21,u22,u23,u24,u25,u26,u27,u28,u29,u30,u31,u32,u33,u34,u35,u36,u37,u38,u39,u40,u41,u42,u43,u44,u45,u46,u47,u48,u49,u50,u51,u52,u53,u54,u55,u56,u57,u58,u59,u60,u61,u62,u63,u64,u65,u66,u67,u68,u69,u70,u71,u72,u73,u74,u75,u76,u77,u78,u79,u80,u81,u82,u83,u84,u85,u86,u87,u88,u89,u90,u91,u92,u93,u94,u95,u96,u97,u98,u99,u100,u101,u102,u103,u104,u105,u106,u107,u108,u109,u110,u111,u112,u113,u114,u115,u116,u117,u118,u119,u120,u121,u122,u123,u124,u125,u126,u127,u128,u129,u130,u131,u132,u133,u134,u135,u136,u137,u138,u139,u140,u141,u142,u143,u144,u145,u146,u147,u148,u149,u150,u151,u152,u153,u154,u155,u156,u157,u158,u159,u160,u161,u162,u163,u164,u165,u166,u167,u168,u169,u170,u171,u172,u173,u174,u175,u176,u177,u178,u179,u180,u181,u182,u183,u184,u185,u186,u187,u188,u189,u190,u191,u192,u193,u194],[]⟩ wc:=by
 obtain⟨ii,hi,Q2,R2,S2⟩:=info_parts SU
 conv=>arg 2;whnf
 have q0:=hcut;clear hcut;obtain⟨r0,O0⟩:∃r0,r0=ZX W1 (decide (6<s2)||decide (s2≠s1)||decide (v4<v3)) 5 r.bin.2.line:=⟨_,rfl⟩;obtain⟨u,hu⟩:∃u,u=z+2:=⟨_,rfl⟩;rw[<-O0,<-hu]at q0;have J1:=Za O0;have HU:=Za hu
 have W3:u+1<=3000:=by omega
 have s0:U (U3 w (wc.setCell ⟨p,1,I⟩ (J Y ((u:Int)+1))) p q X (u+1) r0 y0):=by have e:=q0.o.move (u+1);rw[G]at e;exact e
 have c1:=q0.o.wp.c1;have fz:=q0.o.wp.fz;clear O0 hu;go_wp2_with fail
 have ei:i+8=u+1:=by have:=S3.o;have:=HY.o;have:=HZ.o;have:=HU.o;omega
 obtain⟨a1,T2⟩:∃a1,a1=u+1:=⟨_,rfl⟩;rw[<-T2]at s0
 have V2:U (a1=i+8):=by show _=_;omega
 have W2:=HA.o.mc;rw[<-V2.o]at W2;obtain⟨tm,X2,P0⟩:=W2;have X3:=Za X2;obtain⟨qm,Y2⟩:∃b,(tm.text.toList==[109,99,99])=b:=⟨_,rfl⟩;rw[Y2]at P0;have Z1:=Za P0;refine(XE _ p q g a1 r0 body cv tm s0.o.wp (j0.o _ s0.o.fr) X3.o).mono ?_;rintro e Z2 ⟨rfl,hf⟩;have d0:=Za (s0.o.look hf);clear hf c1 fz s0 q0 ei T2 X2 P0 W3
 go_upto_if 123 with fail
 go_cut [] (fun wx=>∃vm,U (U3 w wx p q X (a1+2*r.mcc.length) (Ye 9999 1 r0 r.mcc) (Vs y0 5 vm))/\U (wx.ownsRow (X+1) 3 1 vm r.mcc.length (Zg (r.mcc.map Zd))))
 case first=>
  cases qm with
  |true=>
   have c2:U (wV body a1 r.mcc):=by rcases Z1.o with⟨_,Q0⟩|⟨hk,_⟩;exact Q0;cases hk
   go_wp2_with fail;refine(IR Z2 p q g a1 r0 body cv r.mcc 9999 _ d0.o.wp (j0.o _ d0.o.fr) HQ.o.1 HQ.o.2 hb c2.o HA.o.dg.2.2.2.1 (by rfl)).mono ?_;rintro e B1 ⟨⟨v,rfl,hO⟩,hP,hF⟩;have R0:=Za (d0.o.call hP hF);have S0:=bL Z2 _ (d0.o.xb.cell 0 (by omega));obtain⟨va,vc,rfl⟩:=oL hO;have hs:=R0.o.set (k:=5) (by omega) (O va (r.mcc.map Zd).length vc)
   have z0:(B1.setCell ⟨X,5,I⟩ (O va (r.mcc.map Zd).length vc)).ownsRow (X+1) 3 1 (O va (r.mcc.map Zd).length vc) r.mcc.length (Zg (r.mcc.map Zd)):=by
    have e:=oS (oF hO ((Fr.refl (fun j=>j=X) B1).setCell (p:=⟨X,5,I⟩) (A rfl) (O va (r.mcc.map Zd).length vc)) (fun k e=>by rw[e];exact S0)) (z8 S0);rw[M]at e ⊢;exact e
   obtain⟨ml,T0⟩:∃ml,(r.mcc.map Zd).length=ml:=⟨_,rfl⟩;rw[T0]at hs z0 ⊢;have s:U (U3 w (B1.setCell ⟨X,5,I⟩ (O va ml vc)) p q X (a1+2*r.mcc.length) (Ye 9999 1 r0 r.mcc) (Vs y0 5 (O va ml vc))/\(B1.setCell ⟨X,5,I⟩ (O va ml vc)).ownsRow (X+1) 3 1 (O va ml vc) r.mcc.length (Zg (r.mcc.map Zd))):=⟨hs,z0⟩;have x5:=R0.o.xb.cell 5 (by omega);have xf:=R0.o.xb.fz;clear hs z0 hO hP hF T0;go_wp2_with fail;go_meet
   exact⟨_,s.o.1,s.o.2⟩
  |false=>
   have V0:U (r.mcc=[]):=by rcases Z1.o with⟨hk,_⟩|⟨_,W0⟩;cases hk;exact W0
   have h5:U (y0 5=O I 0 0):=by show _=_;rw[p0.o,o0.o,n0.o,m0.o];rfl
   go_wp2_with fail;go_meet
   refine⟨O I 0 0,?_,?_⟩
   ·show U3 _ _ _ _ _ _ _ _
    rw[V0.o];have e:=d0.o;exact⟨e.wp,e.xb.congr (fun o _=>by unfold Vs;by_cases h:o=5<;>simp[h,h5.o]),e.fr,e.xl,e.ne⟩
   show z3 _ _ _ _ _ _ _
   rw[V0.o];exact oZ _ _ _ _
 obtain⟨vm,X0,b3⟩:=hcut;obtain⟨P,Y0⟩:∃P,P=Vs y0 5 vm:=⟨_,rfl⟩;obtain⟨c0,Z0⟩:∃c0,c0=Ye 9999 1 r0 r.mcc:=⟨_,rfl⟩;obtain⟨a2,d2⟩:∃a2,a2=a1+2*r.mcc.length:=⟨_,rfl⟩;rw[<-Y0,<-Z0,<-d2]at X0;have D0:=Za Y0;have K1:=Za Z0
 have c3:U (a2=i+8+2*r.mcc.length):=by show _=_;rw[d2,V2.o]
 have d3:=HA.o.am;rw[<-c3.o]at d3;obtain⟨ta,f2,h2⟩:=d3;have Y3:=Za f2;obtain⟨qa,f3⟩:∃b,(ta.text.toList==[97,109,111,117,110,116])=b:=⟨_,rfl⟩;rw[f3]at h2;have i2:=Za h2
 have o4:a2+4<=3010:=by have:=(iG.1 f2).1;omega
 clear Y0 Z0 d2 f2 h2 d0 Z1 Y2;go_wp2_with fail;refine(XE _ p q g a2 c0 body cv ta X0.o.wp (j0.o _ X0.o.fr) Y3.o).mono ?_;rintro e g3 ⟨rfl,hf⟩;have e0:=Za (X0.o.look hf);have b1:=Za (oF b3.o hf);clear hf X0 b3
 go_upto_if 129 with fail
 go_cut [5] (fun _ wx=>U (U3 w wx p q X (a2+Su r.amount) (Xb c0 r.amount) (yV P r.amount))/\U (wx.ownsRow (X+1) 3 1 vm r.mcc.length (Zg (r.mcc.map Zd))))
 case first=>
  cases hA:r.amount with
  |none=>
   have hq:qa=false:=by have:=i2.o;rw[hA]at this;exact this
   subst hq;go_wp2_with fail;go_meet
   refine⟨?_,b1⟩
   show U3 _ _ _ _ _ _ _ _
   rw[hA];exact e0.o
  |some Q=>
   have hq:qa=true/\body[a2+1]?=Z Q.1/\body[a2+3]?=Z Q.2:=by have:=i2.o;rw[hA]at this;exact this
   obtain⟨Z3,h3,i3⟩:=hq;subst Z3;have b4:=Za h3;have c4:=Za i3;have HD:=Za (HA.o.dg.2.2.2.2.2 Q hA);have d4:=Za hA
   have C1:U (U3 w (g3.setCell ⟨p,1,I⟩ (J Y ((a2:Int)+1))) p q X (a2+1) c0 P):=by have e:=e0.o.move (a2+1);rw[G]at e;exact e
   have D1:U (U3 w ((g3.setCell ⟨p,1,I⟩ (J Y ((a2:Int)+1))).setCell ⟨X,7,I⟩ (E true)) p q X (a2+1) c0 (Vs P 7 (E true))):=C1.o.set (by omega) _;have c1:=e0.o.wp.c1;have fz:=e0.o.wp.fz;have x7:=C1.o.xb.cell 7 (by omega);have xf:=C1.o.xb.fz;clear h3 i3 hA;go_wp2_with fail;refine(NY _ p q g (a2+1) c0 body cv Q.1 1000000000 _ _ D1.o.wp (j0.o _ D1.o.fr) HQ.o.1 HQ.o.2 b4.o HD.o.1 (by omega) (by rfl) (by rfl)).mono ?_;rintro e j3 ⟨rfl,hP,hF⟩
   have a0:p<X+1:=by have:=I2.o;have:=e0.o.xl;omega
   obtain⟨t0,d1⟩:∃t0,t0=ZX c0 (decide (1000000000<Zd Q.1)) 5 Q.1.line:=⟨_,rfl⟩;obtain⟨t1,j2⟩:∃t1,t1=a2+1+1:=⟨_,rfl⟩;rw[<-d1,<-j2]at hP;have l3:=Za d1;have m3:=Za j2
   have p4:t1+2<=3010:=by omega
   have E0:=Za (D1.o.call hP hF);have n3:=Za (oF (ownsRow_setCell_below (ownsRow_setCell_below b1.o (by simpa using a0) _) (by simp) _) hF (fun k e=>by rw[e];exact a0));obtain⟨v8,l2⟩:∃v8,v8=Zd Q.1:=⟨_,rfl⟩;rw[<-l2];have m2:=Za l2;have F0:U (U3 w (j3.setCell ⟨X,8,I⟩ (J Y v8)) p q X t1 t0 (Vs (Vs P 7 (E true)) 8 (J Y v8))):=E0.o.set (by omega) _
   have G0:U (U3 w ((j3.setCell ⟨X,8,I⟩ (J Y v8)).setCell ⟨p,1,I⟩ (J Y ((t1:Int)+1))) p q X (t1+1) t0 (Vs (Vs P 7 (E true)) 8 (J Y v8))):=by have e:=F0.o.move (t1+1);rw[G]at e;exact e
   clear c1 fz x7 xf;have x8:=E0.o.xb.cell 8 (by omega);have xf:=E0.o.xb.fz;have c1:=F0.o.wp.c1;have fz:=F0.o.wp.fz;clear hP hF d1 j2 l2 C1 D1;go_wp2_with fail
   have L1:U (body[t1+1]?=Z Q.2):=by have e:=c4.o;rw[m3.o];exact e
   refine(XE _ p q g (t1+1) t0 body cv Q.2 G0.o.wp (j0.o _ G0.o.fr) L1.o).mono ?_;rintro e n2 ⟨rfl,hf⟩;have H0:=Za (G0.o.look hf);have o3:=Za (oF (oB (oB n3.o (by simp) _) (by simpa using a0) _) hf);clear hf c1 fz x8 xf G0 F0 E0;go_wp2_with fail;refine(U2 Q.2.text n2 HD.o.2).mono ?_;rintro e w4 ⟨rfl,he⟩;replace he:=he.symm;subst he;obtain⟨v9,E1⟩:∃v9,v9=Zd Q.2:=⟨_,rfl⟩;rw[show Yv Q.2.text.data.toList=v9 from E1.symm];have p3:=Za E1
   have q4:v9<1000000000:=by rw[E1];exact Wl Q.2 HD.o.2
   have e1:decide ((1000000000:Int)<(v9:Int))=false:=by simp;omega
   obtain⟨bb,o2⟩:∃bb,decide (v9<v8)=bb:=⟨_,rfl⟩
   have q3:decide ((v9:Int)<(v8:Int))=bb:=by rw[<-o2];by_cases hq:v9<v8<;>simp[hq]<;>omega
   have f4:=Za o2;have x8:n2.cell? ⟨X,8,I⟩=Z (J Y v8):=H0.o.xb.cell 8 (by omega);clear E1;go_wp2_with fail;refine(XP _ p q g (t1+1) t0 body cv Q.2 bb 5 _ H0.o.wp (j0.o _ H0.o.fr) HQ.o.1 HQ.o.2 L1.o (by decide) (by rfl)).mono ?_;rintro e p2 ⟨rfl,hP,hF⟩;obtain⟨f1,g1⟩:∃f1,f1=ZX t0 bb 5 Q.2.line:=⟨_,rfl⟩;obtain⟨t2,r2⟩:∃t2,t2=t1+1:=⟨_,rfl⟩;rw[<-g1,<-r2]at hP;have r3:=Za g1;have g4:=Za r2
   have r4:t2+1<=3010:=by omega
   have i1:=Za ((show U3 w n2 p q X (t1+1) t0 _ from H0.o).call hP hF);have s3:=Za (oF o3.o hF (fun k e=>by rw[e];exact a0));have j1:U (U3 w (p2.setCell ⟨X,9,I⟩ (J Y v9)) p q X t2 f1 (Vs (Vs (Vs P 7 (E true)) 8 (J Y v8)) 9 (J Y v9))):=i1.o.set (by omega) _
   have t3:U (U3 w ((p2.setCell ⟨X,9,I⟩ (J Y v9)).setCell ⟨p,1,I⟩ (J Y ((t2:Int)+1))) p q X (t2+1) f1 (Vs (Vs (Vs P 7 (E true)) 8 (J Y v8)) 9 (J Y v9))):=by have e:=j1.o.move (t2+1);rw[G]at e;exact e
   have w3:U (((p2.setCell ⟨X,9,I⟩ (J Y v9)).setCell ⟨p,1,I⟩ (J Y ((t2:Int)+1))).ownsRow (X+1) 3 1 vm r.mcc.length (Zg (r.mcc.map Zd))):=oB (oB s3.o (by simp) _) (by simpa using a0) _;have x9:=i1.o.xb.cell 9 (by omega);have xf:=i1.o.xb.fz;have c1:=j1.o.wp.c1;have fz:=j1.o.wp.fz;clear hP hF g1 r2 x8 o2 q3;go_wp2_with fail;go_meet
   refine⟨?_,w3⟩
   show U3 _ _ _ _ _ _ _ _
   rw[d4.o]
   have e2:Xb c0 (Z Q)=f1:=by
    simp only[Xb];rw[r3.o,l3.o,<-p3.o,<-m2.o,show decide (1000000000<v9)=false from by simp;omega,Bool.false_or,f4.o,m2.o]
   have e3:yV P (Z Q)=Vs (Vs (Vs P 7 (E true)) 8 (J Y v8)) 9 (J Y v9):=by rw[m2.o,p3.o];rfl
   have e4:a2+Su (Z Q)=t2+1:=by have:=g4.o;have:=m3.o;simp only[Su];omega
   rw[e2,e3,e4];exact t3.o
 obtain⟨K0,x3⟩:=hcut;obtain⟨L0,l1⟩:∃L0,L0=yV P r.amount:=⟨_,rfl⟩;obtain⟨A0,m1⟩:∃A0,A0=Xb c0 r.amount:=⟨_,rfl⟩;obtain⟨a3,v2⟩:∃a3,a3=a2+Su r.amount:=⟨_,rfl⟩;rw[<-l1,<-m1,<-v2]at K0;have I0:=Za l1;have M1:=Za m1
 have y3:U (a3=i+8+2*r.mcc.length+Su r.amount):=by show _=_;rw[v2,c3.o]
 have A3:=HA.o.cu;rw[<-y3.o]at A3;obtain⟨tu,B3,w2⟩:=A3;have h4:=Za B3;obtain⟨qc,C3⟩:∃b,(tu.text.toList==[99,117,114])=b:=⟨_,rfl⟩;rw[C3]at w2;have x2:=Za w2
 have a0:p<X+1:=by have:=I2.o;have:=K0.o.xl;omega
 clear l1 m1 v2 B3 w2 e0 b1 i2 f3;go_wp2_with fail;refine(XE _ p q g a3 A0 body cv tu K0.o.wp (j0.o _ K0.o.fr) h4.o).mono ?_;rintro e D3 ⟨rfl,hf⟩;have f0:=Za (K0.o.look hf);have n1:=Za (oF x3.o hf);clear hf K0 x3
 go_upto_if 172 with fail
 go_cut [] (fun wx=>∃vu,U (U3 w wx p q X (a3+2*r.cur.length) (Ye 999 1 A0 r.cur) (Vs L0 6 vu))/\U (wx.ownsRow (X+1) 3 1 vu r.cur.length (Zg (r.cur.map Zd)))/\U (wx.ownsRow (X+1) 3 1 vm r.mcc.length (Zg (r.mcc.map Zd))))
 case first=>
  cases qc with
  |true=>
   have c2:U (wV body a3 r.cur):=by rcases x2.o with⟨_,Q0⟩|⟨hk,_⟩;exact Q0;cases hk
   go_wp2_with fail;refine(IR D3 p q g a3 A0 body cv r.cur 999 _ f0.o.wp (j0.o _ f0.o.fr) HQ.o.1 HQ.o.2 hb c2.o HA.o.dg.2.2.2.2.1 (by rfl)).mono ?_;rintro e M0 ⟨⟨v,rfl,hO⟩,hP,hF⟩;have o1:=Za (f0.o.call hP hF);have S0:=bL D3 _ (f0.o.xb.cell 0 (by omega));obtain⟨va,vc,rfl⟩:=oL hO;have hs:=o1.o.set (k:=6) (by omega) (O va (r.cur.map Zd).length vc)
   have z0:(M0.setCell ⟨X,6,I⟩ (O va (r.cur.map Zd).length vc)).ownsRow (X+1) 3 1 (O va (r.cur.map Zd).length vc) r.cur.length (Zg (r.cur.map Zd)):=by
    have e:=oS (oF hO ((Fr.refl (fun j=>j=X) M0).setCell (p:=⟨X,6,I⟩) (A rfl) (O va (r.cur.map Zd).length vc)) (fun k e=>by rw[e];exact S0)) (z8 S0);rw[M]at e ⊢;exact e
   have y2:(M0.setCell ⟨X,6,I⟩ (O va (r.cur.map Zd).length vc)).ownsRow (X+1) 3 1 vm r.mcc.length (Zg (r.mcc.map Zd)):=oB (oF n1.o hF (fun k e=>by rw[e];exact a0)) (by simp) _;obtain⟨ml,T0⟩:∃ml,(r.cur.map Zd).length=ml:=⟨_,rfl⟩;rw[T0]at hs z0 y2 ⊢;have s:U (U3 w (M0.setCell ⟨X,6,I⟩ (O va ml vc)) p q X (a3+2*r.cur.length) (Ye 999 1 A0 r.cur) (Vs L0 6 (O va ml vc))/\(M0.setCell ⟨X,6,I⟩ (O va ml vc)).ownsRow (X+1) 3 1 (O va ml vc) r.cur.length (Zg (r.cur.map Zd))/\(M0.setCell ⟨X,6,I⟩ (O va ml vc)).ownsRow (X+1) 3 1 vm r.mcc.length (Zg (r.mcc.map Zd))):=⟨hs,z0,y2⟩;have x6:=o1.o.xb.cell 6 (by omega);have xf:=o1.o.xb.fz;clear hs z0 y2 hO hP hF T0;go_wp2_with fail;go_meet
   exact⟨_,s.o.1,s.o.2.1,s.o.2.2⟩
  |false=>
   have V0:U (r.cur=[]):=by rcases x2.o with⟨hk,_⟩|⟨_,W0⟩;cases hk;exact W0
   have h6:U (L0 6=O I 0 0):=by show _=_;rw[I0.o,D0.o,p0.o,o0.o,n0.o,m0.o];cases r.amount<;>rfl
   go_wp2_with fail;go_meet
   refine⟨O I 0 0,?_,?_,n1⟩
   ·show U3 _ _ _ _ _ _ _ _
    rw[V0.o];have e:=f0.o;exact⟨e.wp,e.xb.congr (fun o _=>by unfold Vs;by_cases h:o=6<;>simp[h,h6.o]),e.fr,e.xl,e.ne⟩
   show z3 _ _ _ _ _ _ _
   rw[V0.o];exact oZ _ _ _ _
 obtain⟨vu,F1,E3,F3⟩:=hcut;obtain⟨F,p1⟩:∃F,F=Vs L0 6 vu:=⟨_,rfl⟩;obtain⟨l0,r1⟩:∃l0,l0=Ye 999 1 A0 r.cur:=⟨_,rfl⟩;obtain⟨a4,A2⟩:∃a4,a4=a3+2*r.cur.length:=⟨_,rfl⟩;rw[<-p1,<-r1,<-A2]at F1;have x1:=Za p1;have N1:=Za r1
 have i4:U (a4=i+8+2*r.mcc.length+Su r.amount+2*r.cur.length):=by show _=_;rw[A2,y3.o]
 have G1:=HA.o.ac;rw[<-i4.o]at G1
 have G3:a4+1<=3000:=by
  obtain⟨t,ht,_⟩:=G1;have:=(iG.1 ht).1;omega
 have m:U (U3 w (wc.setCell ⟨p,1,I⟩ (J Y ((a4:Int)+1))) p q X (a4+1) l0 F):=by have e:=F1.o.move (a4+1);rw[G]at e;exact e
 have B0:F 10=O I 0 0/\F 11=E false/\F 12=E false:=by rw[x1.o,I0.o,D0.o,p0.o,o0.o,n0.o,m0.o];cases r.amount<;>exact⟨rfl,rfl,rfl⟩
 have H3:U (z2 N 135 #[T (Z ⟨p,0,I⟩),T (Z ⟨X,0,I⟩)] (wc.setCell ⟨p,1,I⟩ (J Y ((a4:Int)+1))) (FB (wc.setCell ⟨p,1,I⟩ (J Y ((a4:Int)+1))) p q X j5 (Xj rts 1 l0 r.act.routes) F (r.act.routes.map (fun t=>Zz t.text (-1) 0 rts)) r.act.decline r.act.cheapest)):=by
  show z2 _ _ _ _ _
  obtain⟨t,ht,P0⟩:=G1;rcases P0 with⟨ea,hk,ej⟩|⟨ed,j4,l4,i0,ei,Q0,ej⟩
  ·rw[ea,ej]
   exact OP _ p q g X (a4+1) l0 body cv F t m.o.wp (j0.o _ m.o.fr) m.o.xb m.o.ne B0.1 B0.2.1 B0.2.2 G3 ht hk
  obtain⟨va,nr,vc,hV⟩:=yW h0.o m.o h7
  rw[ed,ej];exact LD _ p q g X (a4+1) i0 body cv va nr vc rts r.act.routes l0 F r.act.cheapest m.o.wp hV m.o.xb B0.1 B0.2.1 B0.2.2 Q0 hb t ht j4 l4 ei
 have c1:=F1.o.wp.c1;have fz:=F1.o.wp.fz;clear p1 r1 A2 G1 B0 f0 n1 x2 C3;go_wp2_with fail;refine H3.o.mono ?_;rintro e d ⟨rfl,hP,⟨vp,hX,hO⟩,hF⟩;have O1:=Za hX;have P1:=Za hO;have Q1:=Za hP;have v0:=Za (m.o.fr.monoNew hF (fun k e=>by rcases e with e|e;exact A e;exact z4 (by rw[e];exact m.o.xl)));obtain⟨y7,C2⟩:∃y7,y7=F 7:=⟨_,rfl⟩;obtain⟨y8,D2⟩:∃y8,y8=F 8:=⟨_,rfl⟩;obtain⟨y9,E2⟩:∃y9,y9=F 9:=⟨_,rfl⟩
 have R1:U (d.cell? ⟨X,0,I⟩=Z (D r.name.text)/\d.cell? ⟨X,1,I⟩=Z (J Y v1)/\d.cell? ⟨X,2,I⟩=Z (J Y s1)/\d.cell? ⟨X,3,I⟩=Z (J Y v3)/\d.cell? ⟨X,4,I⟩=Z (J Y v4)/\d.cell? ⟨X,5,I⟩=Z vm/\d.cell? ⟨X,6,I⟩=Z vu/\d.cell? ⟨X,7,I⟩=Z y7/\d.cell? ⟨X,8,I⟩=Z y8/\d.cell? ⟨X,9,I⟩=Z y9/\d.cell? ⟨X,10,I⟩=Z vp/\d.cell? ⟨X,11,I⟩=Z (E r.act.decline)/\d.cell? ⟨X,12,I⟩=Z (E r.act.cheapest)):=by
  have e:=O1.o
  have eq:∀o,(Vs (Vs (Vs F 11 (E r.act.decline)) 12 (E r.act.cheapest)) 10 vp) o=if o=10 then vp else if o=12 then E r.act.cheapest else if o=11 then E r.act.decline else F o:=fun o=>by unfold Vs;rfl
  have lo:∀o,o<7->F o=(Vs (Vs (Vs (Vs (Vs (Vs (AN r.name.text) 1 (J Y v1)) 2 (J Y s1)) 3 (J Y v3)) 4 (J Y v4)) 5 vm) 6 vu) o:=fun o ho=>by
   rw[x1.o,I0.o,D0.o,p0.o,o0.o,n0.o,m0.o]
   cases r.amount with
   |none=>rfl
   |some Q=>simp only[yV,Vs];(repeat' split)<;>first|rfl|omega
  have c:=fun o ho=>(e.cell o ho).trans (by rw[eq o])
  refine⟨(c 0 (by omega)).trans (by rw[lo 0 (by omega)];rfl),(c 1 (by omega)).trans (by rw[lo 1 (by omega)];rfl),(c 2 (by omega)).trans (by rw[lo 2 (by omega)];rfl),(c 3 (by omega)).trans (by rw[lo 3 (by omega)];rfl),(c 4 (by omega)).trans (by rw[lo 4 (by omega)];rfl),(c 5 (by omega)).trans (by rw[lo 5 (by omega)];rfl),(c 6 (by omega)).trans (by rw[lo 6 (by omega)];rfl),(c 7 (by omega)).trans (by rw[C2];rfl),(c 8 (by omega)).trans (by rw[D2];rfl),(c 9 (by omega)).trans (by rw[E2];rfl),c 10 (by omega),c 11 (by omega),c 12 (by omega)⟩
 have J0:U (O8 d B B2 p q g j5 (Xj rts 1 l0 r.act.routes) body cv vr (O la n lc) rts g0 xs):=by have e:=h0.o.step Q1.o v0.o;rw[T1.o,HN.o]at e;exact e
 have y1:U (d.ownsRow B2 170 13 (O la n lc) n xs):=by have e:=J0.o.lo;rw[HN.o]at e;exact e
 have x4:=J0.o.b2
 have y4:X≠q:=by have:=m.o.xl;have:q<w.heap.size:=bL w _ h0.o.q1;omega
 have I3:=bL d _ (O1.o.cell 0 (by omega))
 have S1:B2<=X+1:=by have:=h0.o.b2;have:=m.o.xl;omega
 have J3:U (∀W:z5,d.heap.size<=W.heap.size->∀w1,W.grownBy w1 (Value.slice la n lc).ownBlock->(∀o v,W.cell? ⟨X,o,I⟩=Z v->w1.cell? ⟨X,o,I⟩=Z v)):=fun W hW w1 hg o v hv=>(hg.cell_far ⟨X,o,I⟩ (nL I3 hW) (fun e=>by
  have h1:=h0.o.lo;rw[T1.o,HN.o]at h1;have:=(h1.lt X e.symm).2;have:=m.o.xl
  omega)).trans hv
 have K3:vm.oneCell'=true:=by obtain⟨a,c,e⟩:=oL F3.o;rw[e];rfl
 have L3:vu.oneCell'=true:=by obtain⟨a,c,e⟩:=oL E3.o;rw[e];rfl
 have M3:vp.oneCell'=true:=by obtain⟨a,c,e⟩:=oL P1.o;rw[e];rfl
 have C0:y7=E r.amount.isSome/\y8=J Y ((r.amount.map fun Q=>(Zd Q.1,Zd Q.2)).getD (0,0)).1/\y9=J Y ((r.amount.map fun Q=>(Zd Q.1,Zd Q.2)).getD (0,0)).2:=by
  rw[C2,D2,E2,x1.o,I0.o,D0.o,p0.o,o0.o,n0.o,m0.o]
  cases r.amount<;>exact⟨rfl,rfl,rfl⟩
 have H1:y7.oneCell'=true/\y8.oneCell'=true/\y9.oneCell'=true:=by rw[C0.1,C0.2.1,C0.2.2];exact⟨rfl,rfl,rfl⟩
 have N3:U (∀u,u∈([D r.name.text,J Y v1,J Y s1,J Y v3,J Y v4,vm,vu,y7,y8,y9,vp,E r.act.decline,E r.act.cheapest]:List z7)->u.oneCell'=true):=fun u hu=>by
  simp only[List.mem_cons,List.not_mem_nil,or_false]at hu
  rcases hu with h|h|h|h|h|h|h|h|h|h|h|h|h<;>subst h<;>first|rfl|exact K3|exact L3|exact M3|exact H1.1|exact H1.2.1|exact H1.2.2
 have O3:U (wv B2 d (Vo rts r) [D r.name.text,J Y v1,J Y s1,J Y v3,J Y v4,vm,vu,y7,y8,y9,vp,E r.act.decline,E r.act.cheapest]):=by
  refine⟨vm,vu,vp,?_,?_,?_,?_⟩
  ·simp only[Vo]
   rw[C0.1,C0.2.1,C0.2.2,T3.o,V1.o,X1.o,Y1.o];simp
  ·simp only[Vo]
   rw[M];exact oS (oF (oB F3.o (by simpa using a0) _) hF (fun k e=>by rcases e with e|e<;>rw[e];exact a0;omega)) S1
  ·simp only[Vo]
   rw[M];exact oS (oF (oB E3.o (by simpa using a0) _) hF (fun k e=>by rcases e with e|e<;>rw[e];exact a0;omega)) S1
  exact oS P1.o (by have:=m.o.fr.size;have:=h0.o.b2;omega)
 clear C2 D2 E2 C0 H1 K3 L3 M3;clear hP hX hO hF c1 fz
 have q2:d.cell? ⟨q,2,I⟩=Z (O la n lc):=by have e:=(h0.o.step Q1.o v0.o).q2;rw[T1.o,HN.o]at e;exact e
 have m4:=v0.o.size;go_wp2_with fail;obtain⟨k0,k1,k2,k3,k4,k5,k6,k7,k8,k9,P3,Q3,R3⟩:=R1.o;have N0:=Za (fun(W:z5)(l:∀o v,d.cell? ⟨X,o,I⟩=Z v->W.cell? ⟨X,o,I⟩=Z v)=>R (l _ _ k0) (R (l _ _ k1) (R (l _ _ k2) (R (l _ _ k3) (R (l _ _ k4) (R (l _ _ k5) (R (l _ _ k6) (R (l _ _ k7) (R (l _ _ k8) (R (l _ _ k9) (R (l _ _ P3) (R (l _ _ Q3) (l _ _ R3)))))))))))));clear k0 k1 k2 k3 k4 k5 k6 k7 k8 k9 P3 Q3 R3;refine wp_region_held_drew (S:=fun W=>W.cell? ⟨X,0,I⟩=Z (D r.name.text)/\W.cell? ⟨X,1,I⟩=Z (J Y v1)/\W.cell? ⟨X,2,I⟩=Z (J Y s1)/\W.cell? ⟨X,3,I⟩=Z (J Y v3)/\W.cell? ⟨X,4,I⟩=Z (J Y v4)/\W.cell? ⟨X,5,I⟩=Z vm/\W.cell? ⟨X,6,I⟩=Z vu/\W.cell? ⟨X,7,I⟩=Z y7/\W.cell? ⟨X,8,I⟩=Z y8/\W.cell? ⟨X,9,I⟩=Z y9/\W.cell? ⟨X,10,I⟩=Z vp/\W.cell? ⟨X,11,I⟩=Z (E r.act.decline)/\W.cell? ⟨X,12,I⟩=Z (E r.act.cheapest)) (by kernel_rfl) ?_ (fun hH=>?_)
 ·exact R1.o
 iterate 4 (refine YP 0 hH ?_;try go_frame)
 refine ZY 5 hH ?_
 try go_frame
 refine XC [4,6] ?_;refine Zb rfl (fun K hK=>?_) ?_
 ·rw[if_pos (by rfl)]
  go_simp;refine hK.out _ _ hH (fun _=>?_);clear hK K
  try go_frame
  refine Vy 6 (fun K hK=>?_);go_simp;refine hK.out _ _ (N0.o _ fun o v hv=>(Lt d _).1.get hv) (fun hH=>?_);clear hK K
  try go_frame
  refine XC [7] ?_;refine Zb rfl (fun K hK=>?_) AllReadyH.nil;refine step_append_lies _ rfl (.tmp 189) (.tmp 191) 69 rfl B2 170 ii _ 13 152 Tryz.underlying69 hi Q2 R2 S2 rfl (by decide) (O la n lc) n xs rfl ?h1a ⟨d.heap.size,0,I⟩ 1 1 [D r.name.text,J Y v1,J Y s1,J Y v3,J Y v4,vm,vu,y7,y8,y9,vp,E r.act.decline,E r.act.cheapest] rfl rfl ?h2a ?h3a (by decide) ?h4a ?h5a ?h6a _ rfl ?h7a
  case h1a=>exact(y1.o.alloc _).drew
  case h2a=>exact C (aN d (.cells #[D r.name.text,J Y v1,J Y s1,J Y v3,J Y v4,vm,vu,y7,y8,y9,vp,E r.act.decline,E r.act.cheapest] 170))
  case h3a=>exact N3.o
  case h4a=>unfold maxLen;omega
  case h5a=>omega
  case h6a=>simp;omega
  intro g2 b0 w1 w0 H _ _;obtain⟨e1,ef,x0⟩:=J0.o.rules (V:=O (Z ⟨g2,0,I⟩) (n+1) b0) O3.o H (by rw[HN.o];exact w0);have l:=J3.o _ (by simp) w1 H;have s:=Za x0
  have z1:=N0.o _ fun o v hv=>l o v ((Lt d _).1.get hv)
  have F2:=Za l;clear l x0 H w0 q2;refine hK.out _ _ z1 (fun hH=>?_);clear hK K z1
  try go_frame
  iterate 2 (refine YP 0 hH ?_;try go_frame)
  refine Vy 10 (fun K hK=>?_);go_simp
  have A1:∀o v,w1.cell? ⟨X,o,I⟩=Z v->(w1.setCell ⟨q,2,I⟩ (O (Z ⟨g2,0,I⟩) (n+1) b0)).cell? ⟨X,o,I⟩=Z v:=fun o v hv=>by rw[cO _ _ _ _ (by first|(simp;done)|(simp;omega))];exact hv
  refine hK.out _ _ (N0.o _ fun o v hv=>A1 o v (F2.o o v ((Lt d _).1.get hv))) (fun hH=>?_);clear A1;clear hK K hH
  try go_frame
  refine wpAnyH_done (by kernel_rfl) ?_ _;go_wp2
  go_end0
  refine⟨rfl,⟨O (Z ⟨g2,0,I⟩) (n+1) b0,[D r.name.text,J Y v1,J Y s1,J Y v3,J Y v4,vm,vu,y7,y8,y9,vp,E r.act.decline,E r.act.cheapest],?_⟩,(v0.o.mono (fun k e=>by have:=h0.o.pB;omega)).trans s.o.2⟩;have e:=s.o.1
  have G2:Xj rts 1 l0 r.act.routes=Xt rts (g0.map Xa.name) f r:=by
   unfold Xt;rw[N1.o,M1.o,K1.o,J1.o,I1.o,K2.o,J2.o,P2.o,Y1.o,X1.o,<-N2.o,V1.o,M,HN.o,H2.o]
  rw[G2]at e;exact e
 refine Zb rfl (fun K hK=>?_) AllReadyH.nil
 rw[if_pos (by rfl)];go_simp;refine hK.out _ _ (N0.o _ fun o v hv=>(Lt d _).1.get hv) (fun hH=>?_);clear hK K
 try go_frame
 refine Vy 4 (fun K hK=>?_)
 have n4:=fun o=>(Lt d o).1.get q2
 go_simp;refine hK.out _ _ hH (fun _=>?_);clear hK K n4
 try go_frame
 refine XC [7] ?_;refine Zb rfl (fun K hK=>?_) AllReadyH.nil;refine step_append_lies _ rfl (.tmp 189) (.tmp 191) 69 rfl B2 170 ii _ 13 152 Tryz.underlying69 hi Q2 R2 S2 rfl (by decide) (O la n lc) n xs rfl ?h1b ⟨d.heap.size,0,I⟩ 1 1 [D r.name.text,J Y v1,J Y s1,J Y v3,J Y v4,vm,vu,y7,y8,y9,vp,E r.act.decline,E r.act.cheapest] rfl rfl ?h2b ?h3b (by decide) ?h4b ?h5b ?h6b _ rfl ?h7b
 case h1b=>exact(y1.o.alloc _).drew
 case h2b=>exact C (aN d (.cells #[D r.name.text,J Y v1,J Y s1,J Y v3,J Y v4,vm,vu,y7,y8,y9,vp,E r.act.decline,E r.act.cheapest] 170))
 case h3b=>exact N3.o
 case h4b=>unfold maxLen;omega
 case h5b=>omega
 case h6b=>simp;omega
 intro g2 b0 w1 w0 H _ _;obtain⟨e1,ef,x0⟩:=J0.o.rules (V:=O (Z ⟨g2,0,I⟩) (n+1) b0) O3.o H (by rw[HN.o];exact w0);have l:=J3.o _ (by simp) w1 H;have s:=Za x0
 have z1:=N0.o _ fun o v hv=>l o v ((Lt d _).1.get hv)
 have F2:=Za l;clear l x0 H w0 q2;refine hK.out _ _ z1 (fun hH=>?_);clear hK K z1
 try go_frame
 iterate 2 (refine YP 0 hH ?_;try go_frame)
 refine Vy 10 (fun K hK=>?_);go_simp
 have A1:∀o v,w1.cell? ⟨X,o,I⟩=Z v->(w1.setCell ⟨q,2,I⟩ (O (Z ⟨g2,0,I⟩) (n+1) b0)).cell? ⟨X,o,I⟩=Z v:=fun o v hv=>by rw[cO _ _ _ _ (by first|(simp;done)|(simp;omega))];exact hv
 refine hK.out _ _ (N0.o _ fun o v hv=>A1 o v (F2.o o v ((Lt d _).1.get hv))) (fun hH=>?_);clear A1;clear hK K hH
 try go_frame
 refine wpAnyH_done (by kernel_rfl) ?_ _;go_wp2
 go_end0
 refine⟨rfl,⟨O (Z ⟨g2,0,I⟩) (n+1) b0,[D r.name.text,J Y v1,J Y s1,J Y v3,J Y v4,vm,vu,y7,y8,y9,vp,E r.act.decline,E r.act.cheapest],?_⟩,(v0.o.mono (fun k e=>by have:=h0.o.pB;omega)).trans s.o.2⟩;have e:=s.o.1
 have G2:Xj rts 1 l0 r.act.routes=Xt rts (g0.map Xa.name) f r:=by
  unfold Xt;rw[N1.o,M1.o,K1.o,J1.o,I1.o,K2.o,J2.o,P2.o,Y1.o,X1.o,<-N2.o,V1.o,M,HN.o,H2.o]
 rw[G2]at e;exact e
theorem CB (w B B2 p q g i f body R vr vl rts a xs r j5)(h:O8 w B B2 p q g i f body R vr vl rts a xs)(hb:body.length<=3000)(h7:rts.length<=7)(h8:a.length<=8)(hr:Jr body i r j5):
  z2 N 82 #[T (Z ⟨p,0,I⟩)] w fun e w'=>e=L (.tuple #[])/\(∃t1 c,O8 w' B B2 p q g j5 (Xt rts (a.map Xa.name) f r) body R vr t1 rts (a++[Vo rts r]) (xs++c))/\Fr (fun j=>B<=j) w w':=by
 obtain⟨ii,hi,i2,j2,l2⟩:=info_parts SU;have X0:=Za h;have HA:=Za hr;have HQ:U (q≠p/\g≠p):=⟨h.ne,by have:=h.gB;have:=h.pB;omega⟩
 have k:U (∀W,Fr (fun j=>j=p) w W->BY W q g body R):=fun W s=>h.wt.fr s h.ne (by have:=h.gB;have:=h.pB;omega)
 have n2:i+7<body.length:=(iG.1 hr.b2).1;obtain⟨la,lc,L0,H0⟩:=FC h.lo;have Y0:=Za L0
 have Z0:U (∀j y,a[j]?=Z y->∃g3,la=Z ⟨g3,0,I⟩/\g3≠p/\g3<w.heap.size/\w.cell? ⟨g3,j*13,I⟩=Z (D y.name)):=fun j y hj=>by
  obtain⟨g3,e,h1,h2,h3⟩:=H0 j _ (iG.1 hj).1 (Da h.ru hj);exact⟨g3,e,by have:=h.pB;omega,h2,h3⟩
 obtain⟨n,hn⟩:∃n,a.length=n:=⟨_,rfl⟩;have HN:=Za hn;obtain⟨b8,a1⟩:∃b,decide (8<=n)=b:=⟨_,rfl⟩
 have X1:decide ((8:Int)<=(n:Int))=b8:=by rw[<-a1];by_cases hq:8<=n<;>simp[hq]<;>omega
 have w1:=Za a1
 have y1:n<=8:=by omega
 have e1:=Za (bL w _ h.wp.c0);have c0:=h.wp.c0;have c1:=h.wp.c1;have fz:=h.wp.fz;have j0:=h.wp.move (i+1);rw[G]at j0;have M0:=Za j0
 have z1:(w.setCell ⟨p,1,I⟩ (J Y ((i:Int)+1))).cell? ⟨q,2,I⟩=Z (O la n lc):=by have e:=(h.step j0.1 j0.2).q2;rw[L0,hn]at e;exact e
 clear h hr H0 L0 hn j0;go_enter Tryz.func82,Tryz.ntmps82;go_wp2_with fail;refine(XP _ p q g (i+1) f body R r.name b8 6 _ M0.o.1 (k.o _ M0.o.2) HQ.o.1 HQ.o.2 HA.o.nm (by decide) (by rfl)).mono ?_;rintro e w3 ⟨rfl,f1,i1⟩;have j1:=Za f1;have k1:=Za (M0.o.2.trans i1);clear f1 i1 c0 c1 fz z1;go_wp2_with fail;refine(XE w3 p q g (i+1) _ body R r.name j1.o (k.o _ k1.o) HA.o.nm).mono ?_;rintro e w4 ⟨rfl,hf⟩;have A1:=Za (j1.o.fr hf);have N0:=Za (k1.o.trans hf.no);clear hf;go_wp2_with fail
 have B1:U (U3 w (w4.alloc (.cells #[D r.name.text,J Y 0,J Y 0,J Y 0,J Y 0,O I 0 0,O I 0 0,E false,J Y 0,J Y 0,O I 0 0,E false,E false] 170)) p q w4.heap.size (i+1) (ZX f b8 6 r.name.line) (AN r.name.text)):=
  ⟨A1.o.fr ((Fr.refl (fun _=>False) w4).alloc _),vt w4 _,N0.o.alloc _,N0.o.size,by have:=e1.o;have:=N0.o.size;omega⟩
 generalize w4.alloc _=w5 at*;generalize w4.heap.size=X at*
 go_loopg [4] n (fun m o wr=>∃j,j<=n/\m=n-j/\o=J Y (j:Nat)/\U (U3 w wr p q X (i+1) (Yn r.name.text r.name.line (ZX f b8 6 r.name.line) ((a.map Xa.name).take j)) (AN r.name.text)))
 case atStart=>exact⟨0,z6 _,rfl,rfl,B1⟩
 obtain⟨j,hj,rfl,rfl,HR⟩:=hrel
 have q2:wr.cell? ⟨q,2,I⟩=Z (O la n lc):=by have e:=(X0.o.step HR.o.wp HR.o.fr).q2;rw[Y0.o,HN.o]at e;exact e
 by_cases o2:j<n
 ·obtain⟨y,hy⟩:∃y,a[j]?=Z y:=⟨_,gE (by have:=HN.o;omega)⟩
  obtain⟨g3,l1,C1,D1,r0⟩:=Z0.o j y hy;rw[<-HR.o.fr.cell (p:=⟨g3,j*13,I⟩) D1 (by simpa using C1)]at r0
  have E1:U ((a.map Xa.name)[j]?=Z y.name):=by show _=_;rw[List.getElem?_map,hy];rfl
  have x0:wr.cell? ⟨X,0,I⟩=Z (D r.name.text):=HR.o.xb.cell 0 (by omega);rw[l1]at q2;obtain⟨bx,F1⟩:∃b,(y.name.toList==r.name.text.toList)=b:=⟨_,rfl⟩;have G1:=Za F1
  have m1:(j:Int)<(n:Int):=by omega
  have H1:U (∀W,F0 wr W->z2 N 131 #[T (Z ⟨p,0,I⟩),E bx,J Y 4] W (E9 W p q (i+1) (ZX (Yn r.name.text r.name.line (ZX f b8 6 r.name.line) ((a.map Xa.name).take j)) bx 4 r.name.line))):=fun W s=>XP W p q g (i+1) _ body R r.name bx 4 4 (HR.o.wp.fr s) (k.o _ (HR.o.fr.trans s.no)) HQ.o.1 HQ.o.2 HA.o.nm (by decide) rfl
  clear hy l1;go_wp2_with fail
  go_region_with (go_at_call 131;refine(H1.o _ (by exact Zt.drew)).mono ?_;rintro e w6 ⟨rfl,e0,k0⟩;have HZ:U (U3 w w6 p q X (i+1) (ZX (Yn r.name.text r.name.line (ZX f b8 6 r.name.line) ((a.map Xa.name).take j)) bx 4 r.name.line) (AN r.name.text)):=HR.o.call e0 ((Zt.drew).trans k0);clear e0 k0)
  all_goals
   clear q2 r0 x0;go_wp2;go_roundg (n-(j+1))
   case measure=>omega
   refine⟨j+1,by omega,rfl,by go_num,?_⟩
   show U3 _ _ _ _ _ _ _ _
   rw[RO E1.o,G1.o];exact HZ.o
 have m1:¬(j:Int)<(n:Int):=by omega
 have f0:U (U3 w wr p q X (i+1) (Yn r.name.text r.name.line (ZX f b8 6 r.name.line) (a.map Xa.name)) (AN r.name.text)):=by
  have e:=HR.o;rw[z0 (by rw[M];have:=HN.o;omega)]at e;exact e
 obtain⟨fn,O0⟩:∃fn,fn=Yn r.name.text r.name.line (ZX f b8 6 r.name.line) (a.map Xa.name):=⟨_,rfl⟩;rw[<-O0]at f0;have I1:=Za O0;obtain⟨x,hx⟩:∃x,x=i+1:=⟨_,rfl⟩;rw[<-hx]at f0;have l0:=Za hx
 have p2:x+7<=3000:=by omega
 have c1:=f0.o.wp.c1;have fz:=f0.o.wp.fz;clear hx O0 HR m1 hj
 have A0:U (U3 w (wr.setCell ⟨p,1,I⟩ (J Y ((x:Int)+1))) p q X (x+1) fn (AN r.name.text)):=by have e:=f0.o.move (x+1);rw[G]at e;exact e
 have J1:U (body[x+1]?=Z r.rank):=by have e:=HA.o.rk;rw[l0.o];exact e
 go_wp2_with fail;refine(NY _ p q g (x+1) fn body R r.rank 1000 _ _ A0.o.wp (k.o _ A0.o.fr) HQ.o.1 HQ.o.2 J1.o HA.o.dg.1 (by omega) (by rfl) (by rfl)).mono ?_;rintro e w6 ⟨rfl,e0,k0⟩;obtain⟨f6,P0⟩:∃f6,f6=ZX fn (decide (1000<Zd r.rank)) 5 r.rank.line:=⟨_,rfl⟩;obtain⟨y,hy⟩:∃y,y=x+1+1:=⟨_,rfl⟩;rw[<-P0,<-hy]at e0;have K1:=Za P0;have HY:=Za hy
 have r2:y+5<=3000:=by have:=l0.o;omega
 have B0:=Za (A0.o.call e0 k0);obtain⟨v1,Q0⟩:∃v1,v1=Zd r.rank:=⟨_,rfl⟩;rw[<-Q0];have L1:=Za Q0;obtain⟨g0,m0⟩:∃g0,g0=Vs (AN r.name.text) 1 (J Y v1):=⟨_,rfl⟩;have n1:=Za m0
 have C0:U (U3 w (w6.setCell ⟨X,1,I⟩ (J Y v1)) p q X y f6 g0):=by rw[m0];exact B0.o.set (by omega) _
 have D0:U (U3 w ((w6.setCell ⟨X,1,I⟩ (J Y v1)).setCell ⟨p,1,I⟩ (J Y ((y:Int)+2))) p q X (y+2) f6 g0):=by have e:=C0.o.move (y+2);rw[G]at e;exact e
 have x1:=B0.o.xb.cell 1 (by omega);have xf:=B0.o.xb.fz;clear c1 fz;have c1:=C0.o.wp.c1;have fz:=C0.o.wp.fz;clear e0 k0 P0 hy Q0 m0 f0 A0;go_wp2_with fail
 have n0:U (body[y+2]?=Z r.bin.1):=by have e:=HA.o.b1;rw[HY.o,l0.o];exact e
 refine(XE _ p q g (y+2) f6 body R r.bin.1 D0.o.wp (k.o _ D0.o.fr) n0.o).mono ?_;rintro e w9 ⟨rfl,hf⟩;have E0:=Za (D0.o.look hf);clear hf c1 fz x1 xf D0 C0 B0;obtain⟨o0,p0⟩:∃o0,o0=Vs g0 2 (J Y r.bin.1.text.size):=⟨_,rfl⟩;have q0:=Za p0
 have u:U (U3 w (w9.setCell ⟨X,2,I⟩ (J Y r.bin.1.text.size)) p q X (y+2) f6 o0):=by rw[p0];exact E0.o.set (by omega) _
 have x2:=E0.o.xb.cell 2 (by omega);have xf:=E0.o.xb.fz;obtain⟨t,G0⟩:∃t,t=r.bin.1.text.size:=⟨_,rfl⟩;have M1:=Za G0;rw[<-G0]at u q0;have Y1:=G0.symm
 have Z1:t<=9:=by have:=HA.o.dg.2.1.1;omega
 obtain⟨b6,R0⟩:∃b,decide (6<t)=b:=⟨_,rfl⟩
 have o1:decide ((6:Int)<(t:Int))=b6:=by rw[<-R0];by_cases hq:6<t<;>simp[hq]<;>omega
 have N1:=Za R0;clear p0 G0;go_wp2_with fail;refine(XP _ p q g (y+2) f6 body R r.bin.1 b6 5 _ u.o.wp (k.o _ u.o.fr) HQ.o.1 HQ.o.2 n0.o (by decide) (by rfl)).mono ?_;rintro e t2 ⟨rfl,s0,I0⟩;obtain⟨d,t0⟩:∃d,d=ZX f6 b6 5 r.bin.1.line:=⟨_,rfl⟩;rw[<-t0]at s0;have p1:=Za t0;have V:=Za (u.o.call s0 I0);clear s0 I0 t0 x2 xf R0 o1 u E0;go_wp2_with fail;refine(XE _ p q g (y+2) d body R r.bin.1 V.o.wp (k.o _ V.o.fr) n0.o).mono ?_;rintro e S0 ⟨rfl,hf⟩;have v:=Za (V.o.look hf);clear hf V;go_wp2_with fail;refine(U2 r.bin.1.text S0 HA.o.dg.2.1).mono ?_;rintro e v2 ⟨rfl,he⟩;replace he:=he.symm;subst he;obtain⟨v3,T0⟩:∃v3,v3=Zd r.bin.1:=⟨_,rfl⟩;rw[show Yv r.bin.1.text.data.toList=v3 from T0.symm];have O1:=Za T0;obtain⟨h0,v0⟩:∃h0,h0=Vs o0 3 (J Y v3):=⟨_,rfl⟩;have J0:=Za v0;obtain⟨z,hz⟩:∃z,z=y+2:=⟨_,rfl⟩;rw[<-hz]at v;have HZ:=Za hz
 have P1:z+3<=3000:=by omega
 have a0:U (U3 w (S0.setCell ⟨X,3,I⟩ (J Y v3)) p q X z d h0):=by rw[v0];exact v.o.set (by omega) _
 have b0:U (U3 w ((S0.setCell ⟨X,3,I⟩ (J Y v3)).setCell ⟨p,1,I⟩ (J Y ((z:Int)+2))) p q X (z+2) d h0):=by have e:=a0.o.move (z+2);rw[G]at e;exact e
 have x3:=v.o.xb.cell 3 (by omega);have xf:=v.o.xb.fz;have c1:=a0.o.wp.c1;have fz:=a0.o.wp.fz;clear T0 v0 hz;go_wp2_with fail
 have w0:U (body[z+2]?=Z r.bin.2):=by have e:=HA.o.b2;rw[HZ.o,HY.o,l0.o];exact e
 refine(XE _ p q g (z+2) d body R r.bin.2 b0.o.wp (k.o _ b0.o.fr) w0.o).mono ?_;rintro e V0 ⟨rfl,hf⟩;have d0:=Za (b0.o.look hf);clear hf c1 fz x3 xf b0 a0 v;go_wp2_with fail;refine(U2 r.bin.2.text V0 HA.o.dg.2.2.1).mono ?_;rintro e w2 ⟨rfl,he⟩;replace he:=he.symm;subst he;obtain⟨F,W0⟩:∃F,F=Zd r.bin.2:=⟨_,rfl⟩;rw[show Yv r.bin.2.text.data.toList=F from W0.symm];have Q1:=Za W0;obtain⟨H,y0⟩:∃H,H=Vs h0 4 (J Y F):=⟨_,rfl⟩;have K0:=Za y0
 have l:U (U3 w (V0.setCell ⟨X,4,I⟩ (J Y F)) p q X (z+2) d H):=by rw[y0];exact d0.o.set (by omega) _
 have x4:=d0.o.xb.cell 4 (by omega);have xf:=d0.o.xb.fz;clear W0 y0 d0;go_wp2_with fail;generalize V0.setCell ⟨X,4,I⟩ (J Y F)=i0 at*;clear x4 xf
 have q1:U (∀W i' f',U3 w W p q X i' f' H->W.cell? ⟨X,2,I⟩=Z (J Y t)/\W.cell? ⟨X,3,I⟩=Z (J Y v3)/\W.cell? ⟨X,4,I⟩=Z (J Y F)):=fun W i' f' s=>by
  have e2:=s.xb.cell 2 (by omega);have e3:=s.xb.cell 3 (by omega);have e4:=s.xb.cell 4 (by omega);rw[K0.o,J0.o,q0.o]at e2 e3 e4;exact⟨e2,e3,e4⟩
 have HC:U (∀W,F0 i0 W->W.cell? ⟨X,2,I⟩=Z (J Y t)/\W.cell? ⟨X,3,I⟩=Z (J Y v3)/\W.cell? ⟨X,4,I⟩=Z (J Y F)):=fun W s=>by
  exact q1.o W _ _ (l.o.look s)
 have r1:U (∀W,F0 i0 W->z2 N 80 #[T (Z ⟨p,0,I⟩)] W fun e w'=>e=L (D r.bin.2.text)/\F0 W w'):=fun W s=>XE W p q g (z+2) d body R r.bin.2 (l.o.look s).wp (k.o _ (l.o.look s).fr) w0.o
 have R1:U (∀b W,F0 i0 W->z2 N 131 #[T (Z ⟨p,0,I⟩),E b,J Y 5] W fun e w'=>e=L (.tuple #[])/\U3 w w' p q X (z+2) (ZX d b 5 r.bin.2.line) H/\w'.cell? ⟨X,2,I⟩=Z (J Y t)/\w'.cell? ⟨X,3,I⟩=Z (J Y v3)/\w'.cell? ⟨X,4,I⟩=Z (J Y F)):=fun b W s=>(XP W p q g (z+2) d body R r.bin.2 b 5 5 (l.o.look s).wp (k.o _ (l.o.look s).fr) HQ.o.1 HQ.o.2 w0.o (by decide) rfl).mono fun e w' h=>⟨h.1,(l.o.look s).call h.2.1 h.2.2,q1.o _ _ _ ((l.o.look s).call h.2.1 h.2.2)⟩
 obtain⟨C,S1⟩:∃C,r.bin.2.text.size=C:=⟨_,rfl⟩;have T1:=Za S1.symm
 have a2:C<=9:=by have:=HA.o.dg.2.2.1.1;omega
 obtain⟨k2,k3,k4⟩:=HC.o i0 Zt
 go_cut [] (fun wx=>U (U3 w wx p q X (z+2) (ZX d (decide (6<C)||decide (C≠t)||decide (F<v3)) 5 r.bin.2.line) H))
 case first=>
  clear k2 k3 k4;obtain⟨b,HW⟩:∃b,U ((decide (6<C)||decide (C≠t)||decide (F<v3))=b):=⟨_,rfl⟩
  have V1:(decide ((6:Int)<(C:Int))=true/\b=true)\/decide ((6:Int)<(C:Int))=false/\(((C:Int) !=(t:Int))=true/\((C:Int)==(t:Int))=false/\b=true\/((C:Int) !=(t:Int))=false/\((C:Int)==(t:Int))=true/\decide ((F:Int)<(v3:Int))=b):=by
   rw[<-HW.o];by_cases g1:6<C
   ·exact A ⟨by simp;omega,by simp[g1]⟩
   refine z4 ⟨by simp;omega,?_⟩
   by_cases g2:C=t
   ·exact z4 ⟨by simp[g2],by simp[g2],by rw[Bool.eq_iff_iff];simp[g2];omega⟩
   exact A ⟨by simp;omega,by simp;omega,by simp[g2]⟩
  rcases V1 with⟨d1,rfl⟩|⟨d1,⟨d2,W1,rfl⟩|⟨d2,W1,d3⟩⟩
  all_goals
   refine wp_region_held_drew (S:=fun W=>W.cell? ⟨X,2,I⟩=Z (J Y t)/\W.cell? ⟨X,3,I⟩=Z (J Y v3)/\W.cell? ⟨X,4,I⟩=Z (J Y F)) (by kernel_rfl) (HC.o _ Zt.drew) (fun hH=>?_);have P:U (F0 i0 i0.drew):=Zt.drew
   iterate 2 (refine YP 0 hH ?_;try go_frame)
   refine Vy 2 (fun K hK=>?_);go_simp;refine Db r1.o P.o ?_;intro c2 Q;refine hK.out _ _ (HC.o _ Q) (fun hH=>?_);clear hK K P;have P:=Za Q;clear Q
   try go_frame
  case' inl=>iterate 17 ((first|refine wP 0 hH ?_|refine YP 0 hH ?_);try go_frame)
  case' inr.inl|inr.inr=>
   iterate 4 (refine YP 0 hH ?_;try go_frame)
   iterate 2 (refine YP 2 hH ?_;try go_frame)
   refine Vy 7 (fun K hK=>?_);go_simp;refine Db r1.o P.o ?_;intro f2 Q;refine hK.out _ _ (HC.o _ Q) (fun hH=>?_);clear hK K P;have P:=Za Q;clear Q
   try go_frame
   iterate 10 ((first|refine wP 0 hH ?_|refine YP 0 hH ?_);try go_frame)
  all_goals
   refine Vy 20 (fun K hK=>?_);go_simp;refine(R1.o _ _ P.o).mono ?_;rintro e y2 ⟨rfl,hL,m2,m3,m4⟩;refine hK.out _ _ ⟨m2,m3,m4⟩ (fun hH=>?_);have HL:=Za hL;clear hK K hL m2 m3 m4
   try go_frame
   refine wpAnyH_done (by kernel_rfl) ?_ _;go_wp2_with fail;go_meet;rw[HW.o]
   first|exact HL|(rw[show b=decide (F<v3)from by rw[<-d3];simp];exact HL)
 clear k2 k3 k4
 apply_assumption
 exact JB w B B2 p q g i f body R vr vl rts a xs r j5 hb h7 X0 HA HQ k la lc Y0 n HN b8 w1 y1 e1 X fn I1 x l0 f6 y K1 HY v1 L1 g0 n1 o0 t q0 M1 b6 N1 d p1 v3 O1 h0 J0 z HZ P1 F Q1 H K0 C T1 wc hcut _ _ _ _ _ _ _ _ _ _ _ _ _ _ _ _ _ _ _ _ _ _ _ _ _ _ _ _ _ _ _ _ _ _ _ _ _ _ _ _ _ _ _ _ _ _ _ _ _ _ _ _ _ _ _ _ _ _ _ _ _ _ _ _ _ _ _ _ _ _ _ _ _ _ _ _ _ _ _ _ _ _ _ _ _ _ _ _ _ _ _ _ _ _ _ _ _ _ _ _ _ _ _ _ _ _ _ _ _ _ _ _ _ _ _ _ _ _ _ _ _ _ _ _ _ _ _ _ _ _ _ _ _ _ _ _ _ _ _ _ _ _ _ _ _ _ _ _ _ _ _ _ _ _ _ _ _ _ _ _ _ _ _ _ _ _ _ _ _ _ _ _ _ _ _ _ _ _ _ _ _ _ _ _ _ _ _ _ _ _ _ _
def VV (x:Except Nat (List Tk))(w:z5)(e:Ending)(w':z5):Prop:=
 match x with
 | .ok ts=>(∃v,e=L (.tuple #[v,J Y 0])/\w'.ownsRow w.heap.size 166 3 v ts.dropLast.length (Vw ts.dropLast))/\F0 w w'
 | .error l=>e=L (.tuple #[O I 0 0,J Y l])/\F0 w w'
theorem VV.ok {x w w' e ts}(h:x=.ok ts):VV x w e w'↔(∃v,e=L (.tuple #[v,J Y 0])/\w'.ownsRow w.heap.size 166 3 v ts.dropLast.length (Vw ts.dropLast))/\F0 w w':=by subst h;exact Iff.rfl
theorem VV.err {x:Except Nat (List Tk)}{w w' e l}(h:x=.error l):VV x w e w'↔e=L (.tuple #[O I 0 0,J Y l])/\F0 w w':=by subst h;exact Iff.rfl
theorem yX {x}(h:Y8 x=true):x.size<=8:=by
 rw[Qf]at h
 have a:x.data.toList∈yH:=by simpa using h
 have b:∀l,l∈yH->l.length<=8:=by decide
 have:=b _ a
 simpa using this
theorem yY (s k)(a:k+X0 s k<=s.size):Y8 (s.extract k (k+X0 s k))=false:=by
 rw[Bool.eq_false_iff];intro h;rw[Qf]at h
 have b:(s.extract k (k+X0 s k)).data.toList∈yH:=by simpa using h
 have c:∀l,l∈yH->2<l.length:=by decide
 have d:=c _ b
 have f:X0 s k<=2:=by unfold X0;split<;>(try split)<;>omega
 have e:(s.extract k (k+X0 s k)).data.toList.length=(s.extract k (k+X0 s k)).size:=by rw[Array.length_toList];rfl
 rw[e,ByteArray.size_extract]at d;omega
theorem N7 (p s k j n)(a:j<s.size)(h:n=j-k+ZN p s j)(c:k<=j)(b:p (ZD s j)=true):n=j+1-k+ZN p s (j+1):=by
 rw[h];unfold ZN;rw[Th p s j a,if_pos b];omega
theorem FD (p s j)(a:j<s.size)(b:p (ZD s j)=false):ZN p s j=0:=by
 unfold ZN;rw[Th p s j a,b];rfl
theorem FE (p s j)(a:¬j<s.size):ZN p s j=0:=Ni p s j (by omega)
theorem PN (p s k j n)(h:n=j-k+ZN p s j)(c:k<=j)(b:¬(j<s.size/\p (ZD s j)=true)):j=k+n:=by
 have d:ZN p s j=0:=by
  by_cases a:j<s.size
  ·exact FD p s j a (by simpa using fun e=>b ⟨a,e⟩)
  exact FE p s j a
 omega
theorem AP (s k a)(d:ZD s k≠10)(f:¬(ZD s k=32\/ZD s k=9))(e:ZD s k≠35)(i:¬(48<=ZD s k/\ZD s k<=57))(c:¬(97<=ZD s k/\ZD s k<=122)):
  Zs s k a=if X0 s k=0 then .bad else .tok ⟨2,s.extract k (k+X0 s k),a⟩ (k+X0 s k):=by
 have g:ZK (ZD s k)=false:=by simp[ZK];omega
 have h:iD (ZD s k)=false:=by simp[iD];omega
 unfold Zs X0;rw[if_neg d,if_neg f,if_neg e,g,h];simp only[Bool.false_eq_true,if_false];by_cases b:(P9 s k 46 46||P9 s k 45 62)=true
 ·have c:¬(ZD s k=59\/ZD s k=58\/ZD s k=44):=by
   simp only[z1]at b
   rcases b with b|b<;>have:=Fh b<;>omega
  simp[b,c]
 by_cases c:ZD s k=59\/ZD s k=58\/ZD s k=44<;>simp[b,c]
theorem yZ (s k)(b:k<s.size):X0 s k<=2/\k+X0 s k<=s.size:=by
 unfold X0
 split
 ·rename_i a
  simp only[z1]at a
  have:k+2<=s.size:=by rcases a with a|a<;>exact Jb a
  omega
 split<;>omega
theorem FF (s w)(hs:s.size<=3000):z2 N 78 #[D s] w (VV (ZL s 0 1 []) w):=by
  obtain⟨ii,hi,g0,i0,j0⟩:=info_parts Jy
  have IX:U (∀(j:Nat),j<s.size->∀w,_):=fun j hj w=>VK (P:=N) Tryz.underlying9 s j (j:Int) rfl hj w
  go_enter Tryz.func78,Tryz.ntmps78;go_wp2_with fail
  go_loopg [4,5,6] s.size (fun m o l i wr=>∃k a f,k<=s.size/\m=s.size-k/\l=J Y (a:Nat)/\i=J Y (k:Nat)/\a<=k+1/\f.length<=k/\U (wr.ownsRow w.heap.size 166 3 o f.length (Vw f))/\U (F0 w wr)/\U (ZL s 0 1 []=ZL s k a f))
  case atStart=>exact⟨0,1,[],z6 _,rfl,rfl,rfl,by omega,by simp,oZ _ _ _ _,Zt,rfl⟩
  obtain⟨k,a,f,hk,rfl,rfl,rfl,v0,w0,HO,R,S⟩:=hrel;have x0:=R.o.size;by_cases E:k<s.size
  · have r:=Za E
    have k0:(k:Int)<(s.size:Int):=by omega
    have T:=IX.o k E;by_cases G:ZD s k=10
    · have p:U (Zs s k a=.skip (k+1) (a+1)):=by show _=_;simp[Zs,G]
      rw[G]at T;go_wp2;go_roundg (s.size-(k+1))
      case measure=>omega
      exact⟨k+1,a+1,f,by omega,rfl,by go_num,by go_num,by omega,by omega,HO,R,S.o.trans (YI r.o p.o)⟩
    by_cases F:ZD s k=32\/ZD s k=9
    · have p:U (Zs s k a=.skip (k+1) a):=by show _=_;simp[Zs,G,F]
      rcases F with h|h<;>
      (rw[h]at T
       go_wp2;go_roundg (s.size-(k+1))
       case measure=>omega
       exact⟨k+1,a,f,by omega,rfl,rfl,by go_num,by omega,by omega,HO,R,S.o.trans (YI r.o p.o)⟩)
    by_cases H:ZD s k=35
    · have p:U (Zs s k a=.skip (k+ZN ZW s k) a):=by show _=_;simp[Zs,H]
      have x:=XK ZW s k E (by simp[ZW,H]);rw[H]at T;obtain⟨n,F⟩:∃n,n=ZN ZW s k:=⟨_,rfl⟩;rw[<-F]at p x
      have HN:U (n=k-k+ZN ZW s k):=by show _=_;omega
      go_wp2_with fail
      go_loop [6] (fun i=>∃j:Nat,k<=j/\j<=s.size/\i=J Y j/\U (n=j-k+ZN ZW s j)) (fun i=>s.size-(intOf i).toNat)
      case atStart=>exact⟨k,y0 _,hk,rfl,HN⟩
      obtain⟨j,y,d,rfl,Z⟩:=hrel;by_cases e:j<s.size/\ZW (ZD s j)=true
      · obtain⟨b,M⟩:=e
        have z:(j:Int)<(s.size:Int):=by omega
        have K:=IX.o j b;have L:=Za (N7 ZW s k j n b Z.o y M)
        have z0:(ZD s j==10)=false:=by simpa[ZW]using M
        have A0:(ZD s j !=10)=true:=by simpa[ZW]using M
        generalize ZD s j=c at*;go_wp2;exact⟨⟨j+1,by omega,by omega,by go_num,L⟩,by simp[intOf];omega⟩
      have q:=Za (PN _ s k j n Z.o y e)
      by_cases b:j<s.size
      · have z:(j:Int)<(s.size:Int):=by omega
        have K:=IX.o j b
        have M:ZD s j=10:=by simpa[ZW,b]using e
        rw[M]at K;go_wp2;go_roundg (s.size-j)
        case measure=>have:=q.o;omega
        exact⟨j,a,f,by omega,rfl,rfl,rfl,by omega,by omega,HO,R,by rw[q.o];exact S.o.trans (YI r.o p.o)⟩
      have z:¬(j:Int)<(s.size:Int):=by omega
      go_wp2;go_roundg (s.size-j)
      case measure=>have:=q.o;omega
      exact⟨j,a,f,by omega,rfl,rfl,rfl,by omega,by omega,HO,R,by rw[q.o];exact S.o.trans (YI r.o p.o)⟩
    have l0:(ZD s k==10)=false:=by simp[G]
    have m0:(ZD s k==32)=false:=by simp;omega
    have d9:(ZD s k==9)=false:=by simp;omega
    have n0:(ZD s k==35)=false:=by simp[H]
    obtain⟨c,hc⟩:∃c,ZD s k=c:=⟨_,rfl⟩;have O:=Za hc;rw[hc]at T G F H l0 m0 d9 n0;have A:U (c≠10/\¬(c=32\/c=9)/\c≠35):=⟨G,F,H⟩
    go_upto_block 5 with fail
    go_cut [8,9]from 12 to 148 (fun v8 v9 wx=>∃(j:Nat)(kd:Int)(t:Tk),v8=J Y j/\v9=J .u8 kd/\k<j/\j<=s.size/\U (Zs s k a=.tok t j/\VU t=[D (s.extract k j),J .u8 kd,J Y a])/\wx=wr)
    case rest=>
      obtain⟨j,kd,t,rfl,rfl,Q,d,p,rfl⟩:=hcut
      have o0:(k:Int)<=(j:Int):=by omega
      have p0:(j:Int)<=(s.size:Int):=by omega
      go_wp2_with (at_builtin;refine wpList_append_lies _ rfl (.tmp 138) (.tmp 146) 67 rfl w.heap.size 166 ii _ 3 32 Tryz.underlying67 hi g0 i0 j0 rfl (by decide) u4 f.length (Vw f) rfl ?h1 ⟨wc.heap.size,0,I⟩ 1 1 [D (s.extract k j),J .u8 kd,J Y a] rfl rfl ?h2 ?h3 (by decide) ?h4 ?h5 ?h6 _ rfl ?h7)
      case h1=>exact HO.o.alloc _
      try case h2=>exact C (aN wc _)
      case h3=>simp[y1]
      case h4=>unfold maxLen;omega
      case h5=>omega
      case h6=>first|omega|(simp;omega)
      intro g2 t0 w4 d0 a0 _ _;have q0:=Za d0;have r0:=Za ((R.o.alloc _).grown a0 (fun k hk=>z4 (HO.o.lt k hk).1));go_wp2;go_roundg (s.size-j)
      case measure=>omega
      refine⟨j,a,f++[t],by omega,rfl,rfl,by go_num,by omega,by simp;omega,?_,r0,S.o.trans (WH r.o p.o.1)⟩
      show z3 _ _ _ _ _ _ _
      rw[IOq,lA,p.o.2];exact q0.o
    by_cases V:48<=c/\c<=57
    · have hD:iD c=true:=by simp[iD];exact V
      have hS:ZK c=false:=by simp[ZK];omega
      obtain⟨n,F⟩:∃n,ZN iD s k=n:=⟨_,rfl⟩
      have HB:U (9<n->Zs s k a=.bad):=fun h=>by simp[Zs,O.o,A.o,hS,hD,F,h]
      have HG:U (¬9<n->Zs s k a=.tok ⟨1,s.extract k (k+n),a⟩ (k+n)):=fun h=>by simp[Zs,O.o,A.o,hS,hD,F,h]
      have x:=XK iD s k E (by rw[O.o];exact hD);have b0:=Wi iD s k hk;rw[F]at x b0
      have HN:U (n=k-k+ZN iD s k):=by show _=_;omega
      obtain⟨g1,g2⟩:=V
      go_upto_block 6 with fail
      go_cut [8]from 12 to 148 (fun v wx=>∃j:Nat,v=J Y j/\j<=s.size/\U (j=k+n)/\wx=wr)
      case first=>
        go_wp2_with fail
        go_loop [8] (fun i=>∃j:Nat,k<=j/\j<=s.size/\i=J Y j/\U (n=j-k+ZN iD s j)) (fun i=>s.size-(intOf i).toNat)
        case atStart=>exact⟨k,y0 _,hk,rfl,HN⟩
        obtain⟨j,y,d,rfl,Z⟩:=hrel;by_cases e:j<s.size/\iD (ZD s j)=true
        · obtain⟨b,M⟩:=e
          have z:(j:Int)<(s.size:Int):=by omega
          have K:=IX.o j b;have L:=Za (N7 iD s k j n b Z.o y M);simp only[iD,decide_eq_true_eq]at M;obtain⟨g1,g2⟩:=M;generalize ZD s j=c at*;go_wp2;exact⟨⟨j+1,by omega,by omega,by go_num,L⟩,by simp[intOf];omega⟩
        have q:=Za (PN _ s k j n Z.o y e)
        by_cases b:j<s.size
        · have z:(j:Int)<(s.size:Int):=by omega
          have K:=IX.o j b;simp only[iD,decide_eq_true_eq,b,true_and]at e;generalize ZD s j=c at*;by_cases g1:48<=c
          · have g2:¬c<=57:=fun h=>e ⟨g1,h⟩
            go_wp2;go_meet;exact⟨j,rfl,d,q,rfl⟩
          clear e
          go_wp2;go_meet;exact⟨j,rfl,d,q,rfl⟩
        have z:¬(j:Int)<(s.size:Int):=by omega
        go_wp2;go_meet;exact⟨j,rfl,d,q,rfl⟩
      obtain⟨j,rfl,d,q,rfl⟩:=hcut;have s0:z9.wrap ((j:Int)-(k:Int))=(j:Int)-(k:Int):=IntWalk.i64_in _ (by omega);by_cases h9:9<n
      · have W:(9:Int)<(j:Int)-(k:Int):=by have:=q.o;omega
        have p:=Za (HB.o h9);go_wp2
        go_ret2
        exact(VV.err (S.o.trans (Xq r.o p.o))).2 ⟨rfl,R.o⟩
      have W:¬(9:Int)<(j:Int)-(k:Int):=by have:=q.o;omega
      have p:=Za (HG.o h9);rw[<-q.o]at p
      have Q:k<j:=by have:=q.o;omega
      go_wp2;go_meet;exact⟨j,105,_,rfl,rfl,Q,d,⟨p.o,rfl⟩,rfl⟩
    by_cases X:97<=c/\c<=122
    · have hD:iD c=false:=by simp[iD];omega
      have hS:ZK c=true:=by simp[ZK];exact X
      obtain⟨n,F⟩:∃n,ZN Zq s k=n:=⟨_,rfl⟩
      have HW:U (Y8 (s.extract k (k+n))=true->Zs s k a=.tok ⟨2,s.extract k (k+n),a⟩ (k+n)):=fun h=>by simp[Zs,O.o,A.o,hS,F,h]
      have HB:U (Y8 (s.extract k (k+n))=false->8<n->Zs s k a=.bad):=fun h h2=>by simp[Zs,O.o,A.o,hS,F,h,h2]
      have HG:U (Y8 (s.extract k (k+n))=false->¬8<n->Zs s k a=.tok ⟨0,s.extract k (k+n),a⟩ (k+n)):=fun h h2=>by simp[Zs,O.o,A.o,hS,F,h,h2]
      have x:=XK Zq s k E (by rw[O.o];simp[Zq,hS]);have b0:=Wi Zq s k hk;rw[F]at x b0
      have HN:U (n=k-k+ZN Zq s k):=by show _=_;omega
      obtain⟨g1,g2⟩:=X
      have g3:¬c<=57:=by omega
      go_upto_block 8 with fail
      go_cut [8]from 12 to 148 (fun v wx=>∃j:Nat,v=J Y j/\j<=s.size/\U (j=k+n)/\wx=wr)
      case first=>
        go_wp2_with fail
        go_loop [8] (fun i=>∃j:Nat,k<=j/\j<=s.size/\i=J Y j/\U (n=j-k+ZN Zq s j)) (fun i=>s.size-(intOf i).toNat)
        case atStart=>exact⟨k,y0 _,hk,rfl,HN⟩
        obtain⟨j,y,d,rfl,Z⟩:=hrel;by_cases e:j<s.size/\Zq (ZD s j)=true
        · obtain⟨b,M⟩:=e
          have z:(j:Int)<(s.size:Int):=by omega
          have K:=IX.o j b;have L:=Za (N7 Zq s k j n b Z.o y M);simp only[Zq,ZK,iD,z1,decide_eq_true_eq]at M;generalize ZD s j=c at*;by_cases g1:97<=c
          · have g2:c<=122:=by omega
            go_wp2;exact⟨⟨j+1,by omega,by omega,by go_num,L⟩,by simp[intOf];omega⟩
          have g2:48<=c:=by omega
          have g3:c<=57:=by omega
          go_wp2;exact⟨⟨j+1,by omega,by omega,by go_num,L⟩,by simp[intOf];omega⟩
        have q:=Za (PN _ s k j n Z.o y e)
        by_cases b:j<s.size
        · have z:(j:Int)<(s.size:Int):=by omega
          have K:=IX.o j b;simp only[Zq,ZK,iD,z1,decide_eq_true_eq,b,true_and]at e;generalize ZD s j=c at*;by_cases g1:97<=c
          · have g2:¬c<=122:=by omega
            have g3:48<=c:=by omega
            have g4:¬c<=57:=by omega
            go_wp2;go_meet;exact⟨j,rfl,d,q,rfl⟩
          by_cases g3:48<=c
          · have g4:¬c<=57:=by omega
            go_wp2;go_meet;exact⟨j,rfl,d,q,rfl⟩
          clear e
          go_wp2;go_meet;exact⟨j,rfl,d,q,rfl⟩
        have z:¬(j:Int)<(s.size:Int):=by omega
        go_wp2;go_meet;exact⟨j,rfl,d,q,rfl⟩
      obtain⟨j,rfl,d,q,rfl⟩:=hcut;have s0:z9.wrap ((j:Int)-(k:Int))=(j:Int)-(k:Int):=IntWalk.i64_in _ (by omega)
      have Q:k<j:=by have:=q.o;omega
      have o0:(k:Int)<=(j:Int):=by omega
      have p0:(j:Int)<=(s.size:Int):=by omega
      rw[<-q.o]at HW HB HG
      cases B:Y8 (s.extract k j)with
      | true=>
        have p:=Za (HW.o B)
        have W:¬(8:Int)<(j:Int)-(k:Int):=by
          have h8:=yX B;rw[ByteArray.size_extract]at h8;omega
        have HK:U (VU ⟨2,s.extract k j,a⟩=[D (s.extract k j),J .u8 107,J Y a]):=by show _=_;simp[VU,UE,B]
        go_wp2_with (go_at_call 128;refine DZ (SL _ _) fun w' u=>?_;replace u:=u.symm;subst u;simp only[B])
        go_meet;exact⟨j,107,_,rfl,rfl,Q,d,⟨p.o,HK.o⟩,rfl⟩
      | false=>
        by_cases h8:8<n
        · have W:(8:Int)<(j:Int)-(k:Int):=by have:=q.o;omega
          have p:=Za (HB.o B h8)
          go_wp2_with (go_at_call 128;refine DZ (SL _ _) fun w' u=>?_;replace u:=u.symm;subst u;simp only[B])
          go_ret2
          exact(VV.err (S.o.trans (Xq r.o p.o))).2 ⟨rfl,R.o⟩
        have W:¬(8:Int)<(j:Int)-(k:Int):=by have:=q.o;omega
        have p:=Za (HG.o B h8)
        go_wp2_with (go_at_call 128;refine DZ (SL _ _) fun w' u=>?_;replace u:=u.symm;subst u;simp only[B])
        go_meet;exact⟨j,110,_,rfl,rfl,Q,d,⟨p.o,rfl⟩,rfl⟩
    have hT:=AP s k a (by rw[O.o];exact A.o.1) (by rw[O.o];exact A.o.2.1) (by rw[O.o];exact A.o.2.2) (by rw[O.o];exact V) (by rw[O.o];exact X);have c0:=yZ s k E;have HX:=Za (yY s k c0.2);obtain⟨n,e0⟩:∃n,X0 s k=n:=⟨_,rfl⟩;have f0:=Za e0;rw[e0]at hT c0 HX
    have g:(48<=c/\¬c<=57/\97<=c/\¬c<=122)\/(48<=c/\¬c<=57/\¬97<=c)\/(¬48<=c/\¬97<=c):=by omega
    rcases g with⟨g1,g2,g3,g4⟩|⟨g1,g2,g3⟩|⟨g1,g3⟩<;>clear V X<;>by_cases h0:n=0
    all_goals first
      | (have hz:(((n:Nat):Int)==0)=true:=by simp;omega
         rw[if_pos h0]at hT;have p:=Za hT
         go_wp2_with (go_at_call 129;refine DZ (IN _ _ _ r.o hs) fun w' u=>?_;replace u:=u.symm;subst u;rw[f0.o])
         go_ret2
         exact(VV.err (S.o.trans (Xq r.o p.o))).2 ⟨rfl,R.o⟩)
      | (have hz:(((n:Nat):Int)==0)=false:=by simp;omega
         rw[if_neg h0]at hT;have p:=Za hT
         have HK:U (VU ⟨2,s.extract k (k+n),a⟩=[D (s.extract k (k+n)),J .u8 115,J Y a]):=by show _=_;simp[VU,UE,HX.o]
         have B0:1<=n:=by omega
         go_wp2_with (go_at_call 129;refine DZ (IN _ _ _ r.o hs) fun w' u=>?_;replace u:=u.symm;subst u;rw[f0.o])
         go_meet
         exact⟨k+n,115,_,by go_num,rfl,by omega,c0.2,⟨p.o,HK.o⟩,rfl⟩)
  have k0:¬(k:Int)<(s.size:Int):=by omega
  have q:=Za (S.o.trans (WI E));go_wp2
  go_ret2
  refine(VV.ok q.o).2 ⟨⟨_,rfl,?_⟩,R.o⟩;rw[List.dropLast_concat];exact HO.o
