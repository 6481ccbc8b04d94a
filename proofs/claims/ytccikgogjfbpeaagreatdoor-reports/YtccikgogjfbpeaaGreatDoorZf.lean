import Derived.Test.YtccikgogjfbpeaaGreatDoorQw
open And renaming intro->I
open Go.Value renaming int->J,bool->E,slice->D,string->M,pointer->L
open Go.IntKind renaming i64->Y
open Option renaming none->Z,some->U
open Go.RowKit renaming Hid->O
open Go.AllReadyH renaming nil->G
open Int renaming natCast_add->N
open List renaming length_map->R
open Go renaming Value->T,World->z1,Calls->z2
open Go.Proofs.Tryz renaming prog->A
open Go.Obj renaming cells->C
open Go.Ending renaming returned->z0
namespace Go.Proofs.YtccikgogjfbpeaaGreatDoor
set_option maxRecDepth 30000
set_option maxHeartbeats 8000000
open Go.RowKit
def Cj (a:Nat->T)(o:Option (Tk×Tk)):Nat->T:=
 match o with
 |none=>a
 |some b=>WU (WU (WU a 7 (E true)) 8 (J Y (Ze b.1))) 9 (J Y (Ze b.2))
theorem Ck {w W:z1}{B x p q g i y X:Nat}{f f':Fa}{body:List Tk}{t:Nat}{z A:T}{a:List Zd}{l:List Z8}{C:List T}{D:Nat->T}(h:PB w B x p q g i f body t z A a l C)(b:UD w W p q X y f' D)(E:a.length<=7):∃m n o,Ey W p q g X body t m n o a:=by
 obtain⟨m,o,e,c⟩:=QT h.ro;have F:q<w.heap.size:=bL w _ h.q1;have G:=h.wt.lt
 have d:g≠p:=by have:=h.gB;have:=h.pB;omega
 have H:=b.xl;refine⟨m,a.length,o,h.wt.fr b.fr h.ne d,?_,⟨h.ne,d,by omega,by omega,b.ne⟩,⟨rfl,E⟩,fun j r I=>?_⟩
 ·have u:=(b.fr.cell (p:=⟨q,1,Z⟩) F h.ne).trans h.q1
  rw[e]at u;exact u
 ·obtain⟨s,J,L,v,K⟩:=c j r I
  have k:s≠p:=by have:=h.pB;omega
  exact⟨s,J,k,by omega,nL v b.fr.size,(b.fr.cell (p:=⟨s,j*3,Z⟩) v k).trans K⟩
theorem Yw {P:Program}{l:List Oper}{Q:Exit->Act->z1->Prop}{e:Region.Mode}{S:z1->Prop}(i:Nat){f:Oper}{d:Nat}{b:Array Bool}{a:Act}{w:z1}(g:DJ l i=U f)
  (j:Region.noSelect l.toArray=true)(k:Region.free e l.toArray b i=true)(m:(Region.ready e l.toArray b).contains i=true)
  (n:∀c a w,Q (.panic c) (a.put f.dst undef) w->Q (.panic c) a w)(o:Region.wanted f (yielded l.toArray a.tmps)=false)(p:S w)
  (h:wpAnyH P e l.toArray Q S d (b.setIfInBounds i true) (a.put f.dst undef) w):wpAnyH P e l.toArray Q S (d+1) b a w:=
 wpAnyH_take ((MJ l i).trans g) j k m n (Or.inr ⟨o,rfl⟩) p h
theorem Tv {P:Program}{F:Nat}{args:Array T}{u:T}{a W:z1}{Q:Ending->z1->Prop}(H:∀W,F0 a W->z2 P F args W fun e w'=>e=z0 u/\F0 W w')(b:F0 a W)(k:∀w',F0 a w'->Q (z0 u) w'):z2 P F args W Q:=
 (H W b).mono (by rintro e w' ⟨rfl,c⟩;exact k w' (b.trans c))
def E7 (n:Nat):Code->Bool
 | .region m _ _=>m==n
 | .seq a _=>E7 n a
 |_=>false
def KC (n:Nat):Code->Option Code
 | .seq a b=>if E7 n a then U (.seq a b)else KC n b
 |_=>Z
def Bp (f:Func)(n:Nat):Code:=(f.body.bind (KC n)).getD .skip
set_option maxRecDepth 1000000 in
theorem Lk (w:z1)(B B2 p q g i:Nat)(f:Fa)(body:List Tk)(cv:Nat)(vr vl:T)(F:List Zd)(m0:List Z8)(xs:List T)(r:XX)(j5:Nat)(hb:body.length<=3000)(h7:F.length<=7)
  (n0:O (PB w B B2 p q g i f body cv vr vl F m0 xs))(HA:O (MY body i r j5))(HQ:O (q≠p/\g≠p))(o0:O (∀W,Fr (fun j=>j=p) w W->FZ W q g body cv))(la:Option Addr)(lc:Nat)(Z1:O (vl=D la m0.length lc))(n:Nat)(HN:O (m0.length=n))(b8:Bool)(N2:O (decide (8<=n)=b8))(t4:n<=8)(O2:O (p<w.heap.size))(X:Nat)
  (fn:Fa)(P2:O (fn=Yn r.name.text r.name.line (ZW f b8 6 r.name.line) (m0.map Z8.name)))(x:Nat)(S3:O (x=i+1))(f6:Fa)(y:Nat)(Q2:O (f6=ZW fn (decide (1000<Ze r.rank)) 5 r.rank.line))(HY:O (y=x+1+1))(v1:Nat)(T3:O (v1=Ze r.rank))(R2:Nat->T)(q0:O (R2=WU (Ez r.name.text) 1 (J Y v1)))
  (S2:Nat->T)(s1:Nat)(r0:O (S2=WU R2 2 (J Y s1)))(c2:O (s1=r.bin.1.text.size))(b6:Bool)(T2:O (decide (6<s1)=b6))(d2:Fa)(O1:O (d2=ZW f6 b6 5 r.bin.1.line))(v3:Nat)(f2:O (v3=Ze r.bin.1))(V2:Nat->T)(s0:O (V2=WU S2 3 (J Y v3)))(z:Nat)(HZ:O (z=y+2))(w4:z+3<=3000)
  (v4:Nat)(h2:O (v4=Ze r.bin.2))(E0:Nat->T)(t0:O (E0=WU V2 4 (J Y v4)))(s2:Nat)(W2:O (s2=r.bin.2.text.size))(wc:z1)(hcut:O (UD w wc p q X (z+2) (ZW d2 (decide (6<s2)||decide (s2≠s1)||decide (v4<v3)) 5 r.bin.2.line) E0))
  (u1 u4 u5 u6 u7 u8 u9 u10 u11 u12 u13 u14 u15 u16 u17 u18 u19 u20 u21 u22 u23 u24 u25 u26 u27 u28 u29 u30 u31 u32 u33 u34 u35 u36 u37 u38 u39 u40 u41 u42 u43 u44 u45 u46 u47 u48 u49 u50 u51 u52 u53 u54 u55 u56 u57 u58 u59 u60 u61 u62 u63 u64 u65 u66 u67 u68 u69 u70 u71 u72 u73 u74 u75 u76 u77 u78 u79 u80 u81 u82 u83 u84 u85 u86 u87 u88 u89 u90 u91 u92 u93 u94 u95 u96 u97 u98 u99 u100 u101 u102 u103 u104 u105 u106 u107 u108 u109 u110 u111 u112 u113 u114 u115 u116 u117 u118 u119 u120 u121 u122 u123 u124 u125 u126 u127 u128 u129 u130 u131 u132 u133 u134 u135 u136 u137 u138 u139 u140 u141 u142 u143 u144 u145 u146 u147 u148 u149 u150 u151 u152 u153 u154 u155 u156 u157 u158 u159 u160 u161 u162 u163 u164 u165 u166 u167 u168 u169 u170 u171 u172 u173 u174 u175 u176 u177 u178 u179 u180 u181 u182 u183 u184 u185 u186 u187 u188 u189 u190 u191 u192 u193 u194:T):
  Code.wp A (Bp Tryz.f82 17) (bodyPost A Tryz.f82 fun e w'=>e=z0 (.tuple #[])/\(∃V3 c,PB w' B B2 p q g j5 (Xm F (m0.map Z8.name) f r) body cv vr V3 F (m0++[WR F r]) (xs++c))/\Fr (fun j=>B<=j) w w') ⟨#[L (U ⟨p,0,Z⟩),u1,L (U ⟨q,0,Z⟩),L (U ⟨X,0,Z⟩),u4,u5,u6,u7,u8,u9,u10,u11,u12,u13,u14,u15,u16,u17,u18,u19,u20,u21,u22,u23,u24,u25,u26,u27,u28,u29,u30,u31,u32,u33,u34,u35,u36,u37,u38,u39,u40,u41,u42,u43,u44,u45,u46,u47,u48,u49,u50,u51,u52,u53,u54,u55,u56,u57,u58,u59,u60,u61,u62,u63,u64,u65,u66,u67,u68,u69,u70,u71,u72,u73,u74,u75,u76,u77,u78,u79,u80,u81,u82,u83,u84,u85,u86,u87,u88,u89,u90,u91,u92,u93,u94,u95,u96,u97,u98,u99,u100,u101,u102,u103,u104,u105,u106,u107,u108,u109,u110,u111,u112,u113,u114,u115,u116,u117,u118,u119,u120,u121,u122,u123,u124,u125,u126,u127,u128,u129,u130,u131,u132,u133,u134,u135,u136,u137,u138,u139,u140,u141,u142,u143,u144,u145,u146,u147,u148,u149,u150,u151,u152,u153,u154,u155,u156,u157,u158,u159,u160,u161,u162,u163,u164,u165,u166,u167,u168,u169,u170,u171,u172,u173,u174,u175,u176,u177,u178,u179,u180,u181,u182,u183,u184,u185,u186,u187,u188,u189,u190,u191,u192,u193,u194],[]⟩ wc:=by
 obtain⟨ii,hi,X2,Y2,Z2⟩:=info_parts T4
 conv=>arg 2;whnf
 have v0:=hcut;clear hcut;obtain⟨w0,T0⟩:∃w0,w0=ZW d2 (decide (6<s2)||decide (s2≠s1)||decide (v4<v3)) 5 r.bin.2.line:=⟨_,rfl⟩;obtain⟨u,hu⟩:∃u,u=z+2:=⟨_,rfl⟩;rw[<-T0,<-hu]at v0;have P1:=Za T0;have HU:=Za hu
 have W3:u+1<=3000:=by omega
 have x0:O (UD w (wc.setCell ⟨p,1,Z⟩ (J Y ((u:Int)+1))) p q X (u+1) w0 E0):=by have e:=v0.o.move (u+1);rw[N]at e;exact e
 have c1:=v0.o.wp.c1;have fz:=v0.o.wp.fz;clear T0 hu;go_wp2_with fail
 have ei:i+8=u+1:=by have:=S3.o;have:=HY.o;have:=HZ.o;have:=HU.o;omega
 obtain⟨a1,b3⟩:∃a1,a1=u+1:=⟨_,rfl⟩;rw[<-b3]at x0
 have c3:O (a1=i+8):=by show _=_;omega
 have d3:=HA.o.mc;rw[<-c3.o]at d3;obtain⟨tm,f3,V0⟩:=d3;have X3:=Za f3;obtain⟨qm,g3⟩:∃b,(tm.text.toList==[109,99,99])=b:=⟨_,rfl⟩;rw[g3]at V0;have i2:=Za V0;refine(Xs _ p q g a1 w0 body cv tm x0.o.wp (o0.o _ x0.o.fr) X3.o).mono ?_;rintro e j2 ⟨rfl,hf⟩;have h0:=Za (x0.o.look hf);clear hf c1 fz x0 v0 ei b3 f3 V0 W3
 go_upto_if 123 with fail
 go_cut [] (fun wx=>∃Q,O (UD w wx p q X (a1+2*r.mcc.length) (Yc 9999 1 w0 r.mcc) (WU E0 5 Q))/\O (wx.ownsRow (X+1) 3 1 Q r.mcc.length (Zg (r.mcc.map Ze))))
 case first=>
  cases qm with
  |true=>
   have l2:O (C0 body a1 r.mcc):=by rcases i2.o with⟨_,W0⟩|⟨hk,_⟩;exact W0;cases hk
   go_wp2_with fail;refine(L5 j2 p q g a1 w0 body cv r.mcc 9999 _ h0.o.wp (o0.o _ h0.o.fr) HQ.o.1 HQ.o.2 hb l2.o HA.o.dg.2.2.2.1 (by rfl)).mono ?_;rintro e H1 ⟨⟨v,rfl,hO⟩,hP,hF⟩;have X0:=Za (h0.o.call hP hF);have Y0:X<j2.heap.size:=bL j2 _ (h0.o.xb.cell 0 (by omega));obtain⟨va,vc,rfl⟩:=oL hO;have hs:=X0.o.set (k:=5) (by omega) (D va (r.mcc.map Ze).length vc)
   have F0:(H1.setCell ⟨X,5,Z⟩ (D va (r.mcc.map Ze).length vc)).ownsRow (X+1) 3 1 (D va (r.mcc.map Ze).length vc) r.mcc.length (Zg (r.mcc.map Ze)):=by
    have e:=oS (oF hO ((Fr.refl (fun j=>j=X) H1).setCell (p:=⟨X,5,Z⟩) (Or.inl rfl) (D va (r.mcc.map Ze).length vc)) (fun k e=>by rw[e];exact Y0)) (Nat.succ_le_of_lt Y0);rw[R]at e ⊢;exact e
   obtain⟨ml,Z0⟩:∃ml,(r.mcc.map Ze).length=ml:=⟨_,rfl⟩;rw[Z0]at hs F0 ⊢;have s:O (UD w (H1.setCell ⟨X,5,Z⟩ (D va ml vc)) p q X (a1+2*r.mcc.length) (Yc 9999 1 w0 r.mcc) (WU E0 5 (D va ml vc))/\(H1.setCell ⟨X,5,Z⟩ (D va ml vc)).ownsRow (X+1) 3 1 (D va ml vc) r.mcc.length (Zg (r.mcc.map Ze))):=⟨hs,F0⟩;have x5:=X0.o.xb.cell 5 (by omega);have xf:=X0.o.xb.fz;clear hs F0 hO hP hF Z0;go_wp2_with fail;go_meet
   case rel=>exact⟨_,s.o.1,s.o.2⟩
  |false=>
   have b1:O (r.mcc=[]):=by rcases i2.o with⟨hk,_⟩|⟨_,d1⟩;cases hk;exact d1
   have h5:O (E0 5=D Z 0 0):=by show _=_;rw[t0.o,s0.o,r0.o,q0.o];rfl
   go_wp2_with fail;go_meet
   case rel=>
    refine⟨D Z 0 0,?_,?_⟩
    ·show UD _ _ _ _ _ _ _ _
     rw[b1.o];have e:=h0.o;exact⟨e.wp,e.xb.congr (fun o _=>by unfold WU;by_cases h:o=5<;>simp[h,h5.o]),e.fr,e.xl,e.ne⟩
    ·show World.ownsRow _ _ _ _ _ _ _
     rw[b1.o];exact oZ _ _ _ _
 case rest=>
  obtain⟨Q,f1,h3⟩:=hcut;obtain⟨d0,g1⟩:∃d0,d0=WU E0 5 Q:=⟨_,rfl⟩;obtain⟨g0,i1⟩:∃g0,g0=Yc 9999 1 w0 r.mcc:=⟨_,rfl⟩;obtain⟨a2,m2⟩:∃a2,a2=a1+2*r.mcc.length:=⟨_,rfl⟩;rw[<-g1,<-i1,<-m2]at f1;have J0:=Za g1;have Q1:=Za i1
  have i3:O (a2=i+8+2*r.mcc.length):=by show _=_;rw[m2,c3.o]
  have j3:=HA.o.am;rw[<-i3.o]at j3;obtain⟨ta,n2,o2⟩:=j3;have Z3:=Za n2;obtain⟨qa,l3⟩:∃b,(ta.text.toList==[97,109,111,117,110,116])=b:=⟨_,rfl⟩;rw[l3]at o2;have p2:=Za o2
  have p4:a2+4<=3010:=by have:=(iG.1 n2).1;omega
  clear g1 i1 m2 n2 o2 h0 i2 g3;go_wp2_with fail;refine(Xs _ p q g a2 g0 body cv ta f1.o.wp (o0.o _ f1.o.fr) Z3.o).mono ?_;rintro e m3 ⟨rfl,hf⟩;have j0:=Za (f1.o.look hf);have j1:=Za (oF h3.o hf (by simp));clear hf f1 h3
  go_upto_if 129 with fail
  go_cut [5] (fun _ wx=>O (UD w wx p q X (a2+TF r.amount) (Y3 g0 r.amount) (Cj d0 r.amount))/\O (wx.ownsRow (X+1) 3 1 Q r.mcc.length (Zg (r.mcc.map Ze))))
  case first=>
   cases hA:r.amount with
   |none=>
    have hq:qa=false:=by have:=p2.o;rw[hA]at this;exact this
    subst hq;go_wp2_with fail;go_meet
    case rel=>
     refine⟨?_,j1⟩
     show UD _ _ _ _ _ _ _ _
     rw[hA];exact j0.o
   |some ab=>
    have hq:qa=true/\body[a2+1]?=U ab.1/\body[a2+3]?=U ab.2:=by have:=p2.o;rw[hA]at this;exact this
    obtain⟨b4,n3,o3⟩:=hq;subst b4;have c4:=Za n3;have d4:=Za o3;have HD:=Za (HA.o.dg.2.2.2.2.2 ab hA);have f4:=Za hA
    have I1:O (UD w (m3.setCell ⟨p,1,Z⟩ (J Y ((a2:Int)+1))) p q X (a2+1) g0 d0):=by have e:=j0.o.move (a2+1);rw[N]at e;exact e
    have J1:O (UD w ((m3.setCell ⟨p,1,Z⟩ (J Y ((a2:Int)+1))).setCell ⟨X,7,Z⟩ (E true)) p q X (a2+1) g0 (WU d0 7 (E true))):=I1.o.set (by omega) _;have c1:=j0.o.wp.c1;have fz:=j0.o.wp.fz;have x7:=I1.o.xb.cell 7 (by omega);have xf:=I1.o.xb.fz;clear n3 o3 hA;go_wp2_with fail;refine(Oa _ p q g (a2+1) g0 body cv ab.1 1000000000 _ _ J1.o.wp (o0.o _ J1.o.fr) HQ.o.1 HQ.o.2 c4.o HD.o.1 (by omega) (by rfl) (by rfl)).mono ?_;rintro e p3 ⟨rfl,hP,hF⟩
    have e0:p<X+1:=by have:=O2.o;have:=j0.o.xl;omega
    obtain⟨y0,l1⟩:∃y0,y0=ZW g0 (decide (1000000000<Ze ab.1)) 5 ab.1.line:=⟨_,rfl⟩;obtain⟨t1,r2⟩:∃t1,t1=a2+1+1:=⟨_,rfl⟩;rw[<-l1,<-r2]at hP;have q3:=Za l1;have r3:=Za r2
    have q4:t1+2<=3010:=by omega
    have K0:=Za (J1.o.call hP hF);have s3:=Za (oF (ownsRow_setCell_below (ownsRow_setCell_below j1.o (by simpa using e0) _) (by simp) _) hF (fun k e=>by rw[e];exact e0));obtain⟨v8,v2⟩:∃v8,v8=Ze ab.1:=⟨_,rfl⟩;rw[<-v2];have w2:=Za v2;have L0:O (UD w (p3.setCell ⟨X,8,Z⟩ (J Y v8)) p q X t1 y0 (WU (WU d0 7 (E true)) 8 (J Y v8))):=K0.o.set (by omega) _
    have M0:O (UD w ((p3.setCell ⟨X,8,Z⟩ (J Y v8)).setCell ⟨p,1,Z⟩ (J Y ((t1:Int)+1))) p q X (t1+1) y0 (WU (WU d0 7 (E true)) 8 (J Y v8))):=by have e:=L0.o.move (t1+1);rw[N]at e;exact e
    clear c1 fz x7 xf;have x8:=K0.o.xb.cell 8 (by omega);have xf:=K0.o.xb.fz;have c1:=L0.o.wp.c1;have fz:=L0.o.wp.fz;clear hP hF l1 r2 v2 I1 J1;go_wp2_with fail
    have R1:O (body[t1+1]?=U ab.2):=by have e:=d4.o;rw[r3.o];exact e
    refine(Xs _ p q g (t1+1) y0 body cv ab.2 M0.o.wp (o0.o _ M0.o.fr) R1.o).mono ?_;rintro e x2 ⟨rfl,hf⟩;have N0:=Za (M0.o.look hf);have t3:=Za (oF (oB (oB s3.o (by simp) _) (by simpa using e0) _) hf (by simp));clear hf c1 fz x8 xf M0 L0 K0;go_wp2_with fail;refine(UB ab.2.text x2 HD.o.2).mono ?_;rintro e x4 ⟨rfl,he⟩;replace he:=he.symm;subst he;obtain⟨v9,K1⟩:∃v9,v9=Ze ab.2:=⟨_,rfl⟩;rw[show Yt ab.2.text.data.toList=v9 from K1.symm];have w3:=Za K1
    have r4:v9<1000000000:=by rw[K1];exact XY ab.2 HD.o.2
    have e1:decide ((1000000000:Int)<(v9:Int))=false:=by simp;omega
    obtain⟨bb,y2⟩:∃bb,decide (v9<v8)=bb:=⟨_,rfl⟩
    have x3:decide ((v9:Int)<(v8:Int))=bb:=by rw[<-y2];by_cases hq:v9<v8<;>simp[hq]<;>omega
    have g4:=Za y2;have x8:x2.cell? ⟨X,8,Z⟩=U (J Y v8):=N0.o.xb.cell 8 (by omega);clear K1;go_wp2_with fail;refine(XA _ p q g (t1+1) y0 body cv ab.2 bb 5 _ N0.o.wp (o0.o _ N0.o.fr) HQ.o.1 HQ.o.2 R1.o (by decide) (by rfl)).mono ?_;rintro e A2 ⟨rfl,hP,hF⟩;obtain⟨m1,n1⟩:∃m1,m1=ZW y0 bb 5 ab.2.line:=⟨_,rfl⟩;obtain⟨t2,C2⟩:∃t2,t2=t1+1:=⟨_,rfl⟩;rw[<-n1,<-C2]at hP;have y3:=Za n1;have h4:=Za C2
    have s4:t2+1<=3010:=by omega
    have o1:=Za ((show UD w x2 p q X (t1+1) y0 _ from N0.o).call hP hF);have z3:=Za (oF t3.o hF (fun k e=>by rw[e];exact e0));have p1:O (UD w (A2.setCell ⟨X,9,Z⟩ (J Y v9)) p q X t2 m1 (WU (WU (WU d0 7 (E true)) 8 (J Y v8)) 9 (J Y v9))):=o1.o.set (by omega) _
    have A3:O (UD w ((A2.setCell ⟨X,9,Z⟩ (J Y v9)).setCell ⟨p,1,Z⟩ (J Y ((t2:Int)+1))) p q X (t2+1) m1 (WU (WU (WU d0 7 (E true)) 8 (J Y v8)) 9 (J Y v9))):=by have e:=p1.o.move (t2+1);rw[N]at e;exact e
    have B3:O (((A2.setCell ⟨X,9,Z⟩ (J Y v9)).setCell ⟨p,1,Z⟩ (J Y ((t2:Int)+1))).ownsRow (X+1) 3 1 Q r.mcc.length (Zg (r.mcc.map Ze))):=oB (oB z3.o (by simp) _) (by simpa using e0) _;have x9:=o1.o.xb.cell 9 (by omega);have xf:=o1.o.xb.fz;have c1:=p1.o.wp.c1;have fz:=p1.o.wp.fz;clear hP hF n1 C2 x8 y2 x3;go_wp2_with fail;go_meet
    case rel=>
     refine⟨?_,B3⟩
     show UD _ _ _ _ _ _ _ _
     rw[f4.o]
     have e2:Y3 g0 (U ab)=m1:=by
      simp only[Y3];rw[y3.o,q3.o,<-w3.o,<-w2.o,show decide (1000000000<v9)=false from by simp;omega,Bool.false_or,g4.o,w2.o]
     have e3:Cj d0 (U ab)=WU (WU (WU d0 7 (E true)) 8 (J Y v8)) 9 (J Y v9):=by rw[w2.o,w3.o];rfl
     have e4:a2+TF (U ab)=t2+1:=by have:=h4.o;have:=r3.o;simp only[TF];omega
     rw[e2,e3,e4];exact A3.o
  case rest=>
   obtain⟨Q0,C3⟩:=hcut;obtain⟨R0,r1⟩:∃R0,R0=Cj d0 r.amount:=⟨_,rfl⟩;obtain⟨G0,x1⟩:∃G0,G0=Y3 g0 r.amount:=⟨_,rfl⟩;obtain⟨a3,D2⟩:∃a3,a3=a2+TF r.amount:=⟨_,rfl⟩;rw[<-r1,<-x1,<-D2]at Q0;have O0:=Za r1;have S1:=Za x1
   have D3:O (a3=i+8+2*r.mcc.length+TF r.amount):=by show _=_;rw[D2,i3.o]
   have E3:=HA.o.cu;rw[<-D3.o]at E3;obtain⟨tu,F3,E2⟩:=E3;have i4:=Za F3;obtain⟨qc,G3⟩:∃b,(tu.text.toList==[99,117,114])=b:=⟨_,rfl⟩;rw[G3]at E2;have F2:=Za E2
   have e0:p<X+1:=by have:=O2.o;have:=Q0.o.xl;omega
   clear r1 x1 D2 F3 E2 j0 j1 p2 l3;go_wp2_with fail;refine(Xs _ p q g a3 G0 body cv tu Q0.o.wp (o0.o _ Q0.o.fr) i4.o).mono ?_;rintro e G2 ⟨rfl,hf⟩;have l0:=Za (Q0.o.look hf);have y1:=Za (oF C3.o hf (by simp));clear hf Q0 C3
   go_upto_if 172 with fail
   go_cut [] (fun wx=>∃vu,O (UD w wx p q X (a3+2*r.cur.length) (Yc 999 1 G0 r.cur) (WU R0 6 vu))/\O (wx.ownsRow (X+1) 3 1 vu r.cur.length (Zg (r.cur.map Ze)))/\O (wx.ownsRow (X+1) 3 1 Q r.mcc.length (Zg (r.mcc.map Ze))))
   case first=>
    cases qc with
    |true=>
     have l2:O (C0 body a3 r.cur):=by rcases F2.o with⟨_,W0⟩|⟨hk,_⟩;exact W0;cases hk
     go_wp2_with fail;refine(L5 G2 p q g a3 G0 body cv r.cur 999 _ l0.o.wp (o0.o _ l0.o.fr) HQ.o.1 HQ.o.2 hb l2.o HA.o.dg.2.2.2.2.1 (by rfl)).mono ?_;rintro e S0 ⟨⟨v,rfl,hO⟩,hP,hF⟩;have A1:=Za (l0.o.call hP hF);have Y0:X<G2.heap.size:=bL G2 _ (l0.o.xb.cell 0 (by omega));obtain⟨va,vc,rfl⟩:=oL hO;have hs:=A1.o.set (k:=6) (by omega) (D va (r.cur.map Ze).length vc)
     have F0:(S0.setCell ⟨X,6,Z⟩ (D va (r.cur.map Ze).length vc)).ownsRow (X+1) 3 1 (D va (r.cur.map Ze).length vc) r.cur.length (Zg (r.cur.map Ze)):=by
      have e:=oS (oF hO ((Fr.refl (fun j=>j=X) S0).setCell (p:=⟨X,6,Z⟩) (Or.inl rfl) (D va (r.cur.map Ze).length vc)) (fun k e=>by rw[e];exact Y0)) (Nat.succ_le_of_lt Y0);rw[R]at e ⊢;exact e
     have H2:(S0.setCell ⟨X,6,Z⟩ (D va (r.cur.map Ze).length vc)).ownsRow (X+1) 3 1 Q r.mcc.length (Zg (r.mcc.map Ze)):=oB (oF y1.o hF (fun k e=>by rw[e];exact e0)) (by simp) _;obtain⟨ml,Z0⟩:∃ml,(r.cur.map Ze).length=ml:=⟨_,rfl⟩;rw[Z0]at hs F0 H2 ⊢;have s:O (UD w (S0.setCell ⟨X,6,Z⟩ (D va ml vc)) p q X (a3+2*r.cur.length) (Yc 999 1 G0 r.cur) (WU R0 6 (D va ml vc))/\(S0.setCell ⟨X,6,Z⟩ (D va ml vc)).ownsRow (X+1) 3 1 (D va ml vc) r.cur.length (Zg (r.cur.map Ze))/\(S0.setCell ⟨X,6,Z⟩ (D va ml vc)).ownsRow (X+1) 3 1 Q r.mcc.length (Zg (r.mcc.map Ze))):=⟨hs,F0,H2⟩;have x6:=A1.o.xb.cell 6 (by omega);have xf:=A1.o.xb.fz;clear hs F0 H2 hO hP hF Z0;go_wp2_with fail;go_meet
     case rel=>exact⟨_,s.o.1,s.o.2.1,s.o.2.2⟩
    |false=>
     have b1:O (r.cur=[]):=by rcases F2.o with⟨hk,_⟩|⟨_,d1⟩;cases hk;exact d1
     have h6:O (R0 6=D Z 0 0):=by show _=_;rw[O0.o,J0.o,t0.o,s0.o,r0.o,q0.o];cases r.amount<;>rfl
     go_wp2_with fail;go_meet
     case rel=>
      refine⟨D Z 0 0,?_,?_,y1⟩
      ·show UD _ _ _ _ _ _ _ _
       rw[b1.o];have e:=l0.o;exact⟨e.wp,e.xb.congr (fun o _=>by unfold WU;by_cases h:o=6<;>simp[h,h6.o]),e.fr,e.xl,e.ne⟩
      ·show World.ownsRow _ _ _ _ _ _ _
       rw[b1.o];exact oZ _ _ _ _
   case rest=>
    obtain⟨vu,L1,H3,I3⟩:=hcut;obtain⟨H,B1⟩:∃H,H=WU R0 6 vu:=⟨_,rfl⟩;obtain⟨p0,C1⟩:∃p0,p0=Yc 999 1 G0 r.cur:=⟨_,rfl⟩;obtain⟨a4,I2⟩:∃a4,a4=a3+2*r.cur.length:=⟨_,rfl⟩;rw[<-B1,<-C1,<-I2]at L1;have D1:=Za B1;have T1:=Za C1
    have j4:O (a4=i+8+2*r.mcc.length+TF r.amount+2*r.cur.length):=by show _=_;rw[I2,D3.o]
    have M1:=HA.o.ac;rw[<-j4.o]at M1
    have J3:a4+1<=3000:=by
     obtain⟨t,ht,_⟩:=M1;have:=(iG.1 ht).1;omega
    have m:O (UD w (wc.setCell ⟨p,1,Z⟩ (J Y ((a4:Int)+1))) p q X (a4+1) p0 H):=by have e:=L1.o.move (a4+1);rw[N]at e;exact e
    have H0:H 10=D Z 0 0/\H 11=E false/\H 12=E false:=by rw[D1.o,O0.o,J0.o,t0.o,s0.o,r0.o,q0.o];cases r.amount<;>exact⟨rfl,rfl,rfl⟩
    have K3:O (z2 A 135 #[L (U ⟨p,0,Z⟩),L (U ⟨X,0,Z⟩)] (wc.setCell ⟨p,1,Z⟩ (J Y ((a4:Int)+1))) (JO (wc.setCell ⟨p,1,Z⟩ (J Y ((a4:Int)+1))) p q X j5 (Y9 F 1 p0 r.act.routes) H (r.act.routes.map (fun t=>ZB t.text (-1) 0 F)) r.act.decline r.act.cheapest)):=by
     show z2 _ _ _ _ _
     obtain⟨t,ht,V0⟩:=M1;rcases V0 with⟨ea,hk,ej⟩|⟨ed,l4,m4,i0,ei,W0,ej⟩
     ·rw[ea,ej]
      exact Pn _ p q g X (a4+1) p0 body cv H t m.o.wp (o0.o _ m.o.fr) m.o.xb m.o.ne H0.1 H0.2.1 H0.2.2 J3 ht hk
     ·obtain⟨va,nr,vc,hV⟩:=Ck n0.o m.o h7
      rw[ed,ej];exact Nx _ p q g X (a4+1) i0 body cv va nr vc F r.act.routes p0 H r.act.cheapest m.o.wp hV m.o.xb H0.1 H0.2.1 H0.2.2 W0 hb t ht l4 m4 ei
    have c1:=L1.o.wp.c1;have fz:=L1.o.wp.fz;clear B1 C1 I2 M1 H0 l0 y1 F2 G3;go_wp2_with fail;refine K3.o.mono ?_;rintro e l ⟨rfl,hP,⟨vp,hX,hO⟩,hF⟩;have V1:=Za hX;have W1:=Za hO;have X1:=Za hP;have A0:=Za (m.o.fr.monoNew hF (fun k e=>by rcases e with e|e;exact Or.inl e;exact Or.inr (by rw[e];exact m.o.xl)));obtain⟨y7,J2⟩:∃y7,y7=H 7:=⟨_,rfl⟩;obtain⟨y8,K2⟩:∃y8,y8=H 8:=⟨_,rfl⟩;obtain⟨y9,L2⟩:∃y9,y9=H 9:=⟨_,rfl⟩
    have L3:O (l.cell? ⟨X,0,Z⟩=U (M r.name.text)/\l.cell? ⟨X,1,Z⟩=U (J Y v1)/\l.cell? ⟨X,2,Z⟩=U (J Y s1)/\l.cell? ⟨X,3,Z⟩=U (J Y v3)/\l.cell? ⟨X,4,Z⟩=U (J Y v4)/\l.cell? ⟨X,5,Z⟩=U Q/\l.cell? ⟨X,6,Z⟩=U vu/\l.cell? ⟨X,7,Z⟩=U y7/\l.cell? ⟨X,8,Z⟩=U y8/\l.cell? ⟨X,9,Z⟩=U y9/\l.cell? ⟨X,10,Z⟩=U vp/\l.cell? ⟨X,11,Z⟩=U (E r.act.decline)/\l.cell? ⟨X,12,Z⟩=U (E r.act.cheapest)):=by
     have e:=V1.o
     have eq:∀o,(WU (WU (WU H 11 (E r.act.decline)) 12 (E r.act.cheapest)) 10 vp) o=if o=10 then vp else if o=12 then E r.act.cheapest else if o=11 then E r.act.decline else H o:=fun o=>by unfold WU;rfl
     have lo:∀o,o<7->H o=(WU (WU (WU (WU (WU (WU (Ez r.name.text) 1 (J Y v1)) 2 (J Y s1)) 3 (J Y v3)) 4 (J Y v4)) 5 Q) 6 vu) o:=fun o ho=>by
      rw[D1.o,O0.o,J0.o,t0.o,s0.o,r0.o,q0.o]
      cases r.amount with
      |none=>rfl
      |some ab=>simp only[Cj,WU];(repeat' split)<;>first|rfl|omega
     have c:=fun o ho=>(e.cell o ho).trans (by rw[eq o])
     refine⟨(c 0 (by omega)).trans (by rw[lo 0 (by omega)];rfl),(c 1 (by omega)).trans (by rw[lo 1 (by omega)];rfl),(c 2 (by omega)).trans (by rw[lo 2 (by omega)];rfl),(c 3 (by omega)).trans (by rw[lo 3 (by omega)];rfl),(c 4 (by omega)).trans (by rw[lo 4 (by omega)];rfl),(c 5 (by omega)).trans (by rw[lo 5 (by omega)];rfl),(c 6 (by omega)).trans (by rw[lo 6 (by omega)];rfl),(c 7 (by omega)).trans (by rw[J2];rfl),(c 8 (by omega)).trans (by rw[K2];rfl),(c 9 (by omega)).trans (by rw[L2];rfl),c 10 (by omega),c 11 (by omega),c 12 (by omega)⟩
    have P0:O (PB l B B2 p q g j5 (Y9 F 1 p0 r.act.routes) body cv vr (D la n lc) F m0 xs):=by have e:=n0.o.step X1.o A0.o;rw[Z1.o,HN.o]at e;exact e
    have E1:O (l.ownsRow B2 170 13 (D la n lc) n xs):=by have e:=P0.o.lo;rw[HN.o]at e;exact e
    have y4:=P0.o.b2
    have z4:X≠q:=by have:=m.o.xl;have:q<w.heap.size:=bL w _ n0.o.q1;omega
    have F1:X<l.heap.size:=bL l _ (V1.o.cell 0 (by omega))
    have Y1:B2<=X+1:=by have:=n0.o.b2;have:=m.o.xl;omega
    have M3:O (∀W:z1,l.heap.size<=W.heap.size->∀w1,W.grownBy w1 (Value.slice la n lc).ownBlock->(∀o v,W.cell? ⟨X,o,Z⟩=U v->w1.cell? ⟨X,o,Z⟩=U v)):=fun W hW w1 hg o v hv=>(hg.cell_far ⟨X,o,Z⟩ (nL F1 hW) (fun e=>by
     have h1:=n0.o.lo;rw[Z1.o,HN.o]at h1;have:=(h1.lt X e.symm).2;have:=m.o.xl
     omega)).trans hv
    have N3:Q.oneCell'=true:=by obtain⟨a,c,e⟩:=oL I3.o;rw[e];rfl
    have O3:vu.oneCell'=true:=by obtain⟨a,c,e⟩:=oL H3.o;rw[e];rfl
    have P3:vp.oneCell'=true:=by obtain⟨a,c,e⟩:=oL W1.o;rw[e];rfl
    have I0:y7=E r.amount.isSome/\y8=J Y ((r.amount.map fun ab=>(Ze ab.1,Ze ab.2)).getD (0,0)).1/\y9=J Y ((r.amount.map fun ab=>(Ze ab.1,Ze ab.2)).getD (0,0)).2:=by
     rw[J2,K2,L2,D1.o,O0.o,J0.o,t0.o,s0.o,r0.o,q0.o]
     cases r.amount<;>exact⟨rfl,rfl,rfl⟩
    have N1:y7.oneCell'=true/\y8.oneCell'=true/\y9.oneCell'=true:=by rw[I0.1,I0.2.1,I0.2.2];exact⟨rfl,rfl,rfl⟩
    have Q3:O (∀u,u∈([M r.name.text,J Y v1,J Y s1,J Y v3,J Y v4,Q,vu,y7,y8,y9,vp,E r.act.decline,E r.act.cheapest]:List T)->u.oneCell'=true):=fun u hu=>by
     simp only[List.mem_cons,List.not_mem_nil,or_false]at hu
     rcases hu with h|h|h|h|h|h|h|h|h|h|h|h|h<;>subst h<;>first|rfl|exact N3|exact O3|exact P3|exact N1.1|exact N1.2.1|exact N1.2.2
    have R3:O (CM B2 l (WR F r) [M r.name.text,J Y v1,J Y s1,J Y v3,J Y v4,Q,vu,y7,y8,y9,vp,E r.act.decline,E r.act.cheapest]):=by
     refine⟨Q,vu,vp,?_,?_,?_,?_⟩
     ·simp only[WR]
      rw[I0.1,I0.2.1,I0.2.2,T3.o,c2.o,f2.o,h2.o];simp
     ·simp only[WR]
      rw[R];exact oS (oF (oB I3.o (by simpa using e0) _) hF (fun k e=>by rcases e with e|e<;>rw[e];exact e0;omega)) Y1
     ·simp only[WR]
      rw[R];exact oS (oF (oB H3.o (by simpa using e0) _) hF (fun k e=>by rcases e with e|e<;>rw[e];exact e0;omega)) Y1
     ·exact oS W1.o (by have:=m.o.fr.size;have:=n0.o.b2;omega)
    clear J2 K2 L2 I0 N1 N3 O3 P3;clear hP hX hO hF c1 fz
    have q2:l.cell? ⟨q,2,Z⟩=U (D la n lc):=by have e:=(n0.o.step X1.o A0.o).q2;rw[Z1.o,HN.o]at e;exact e
    have n4:=A0.o.size;go_wp2_with fail;refine wp_region_held_drew (S:=fun W=>W.cell? ⟨X,0,Z⟩=U (M r.name.text)/\W.cell? ⟨X,1,Z⟩=U (J Y v1)/\W.cell? ⟨X,2,Z⟩=U (J Y s1)/\W.cell? ⟨X,3,Z⟩=U (J Y v3)/\W.cell? ⟨X,4,Z⟩=U (J Y v4)/\W.cell? ⟨X,5,Z⟩=U Q/\W.cell? ⟨X,6,Z⟩=U vu/\W.cell? ⟨X,7,Z⟩=U y7/\W.cell? ⟨X,8,Z⟩=U y8/\W.cell? ⟨X,9,Z⟩=U y9/\W.cell? ⟨X,10,Z⟩=U vp/\W.cell? ⟨X,11,Z⟩=U (E r.act.decline)/\W.cell? ⟨X,12,Z⟩=U (E r.act.cheapest)) (by kernel_rfl) ?_ (fun hH=>?_)
    ·exact L3.o
    refine Zf 0 hH ?_
    try go_frame
    refine Zf 1 hH ?_
    try go_frame
    refine Zf 2 hH ?_
    try go_frame
    refine Zf 3 hH ?_
    try go_frame
    refine Zf 5 hH ?_
    try go_frame
    refine wpAnyH_ready (rs:=[4,6]) (by kernel_rfl) (by simp) ?_;refine Zb rfl (fun K hK=>?_) ?_
    ·rw[if_pos (by rfl)]
     go_simp;refine hK.out _ _ hH (fun _=>?_);clear hK K
     try go_frame
     refine SX 6 (fun K hK=>?_);go_simp;refine hK.out _ _ ?_ (fun hH=>?_)
     ·obtain⟨k0,k1,k2,k3,k4,k5,k6,k7,k8,k9,a0,b0,c0⟩:=hH
      have d:∀o v,l.cell? ⟨X,o,Z⟩=U v->(l.alloc (C #[M r.name.text,J Y v1,J Y s1,J Y v3,J Y v4,Q,vu,y7,y8,y9,vp,E r.act.decline,E r.act.cheapest] 170)).cell? ⟨X,o,Z⟩=U v:=fun o v hv=>(((Fr.refl (fun _=>False) l).alloc (C #[M r.name.text,J Y v1,J Y s1,J Y v3,J Y v4,Q,vu,y7,y8,y9,vp,E r.act.decline,E r.act.cheapest] 170)).cell (p:=⟨X,o,Z⟩) F1 (by simp)).trans hv
      exact I (d _ _ k0) (I (d _ _ k1) (I (d _ _ k2) (I (d _ _ k3) (I (d _ _ k4) (I (d _ _ k5) (I (d _ _ k6) (I (d _ _ k7) (I (d _ _ k8) (I (d _ _ k9) (I (d _ _ a0) (I (d _ _ b0) (d _ _ c0))))))))))))
     clear hK K
     try go_frame
     refine wpAnyH_ready (rs:=[7]) (by kernel_rfl) (by simp) ?_;refine Zb rfl (fun K hK=>?_) G;refine step_append_lies _ rfl (.tmp 189) (.tmp 191) 69 rfl B2 170 ii _ 13 152 Tryz.underlying69 hi X2 Y2 Z2 rfl (by decide) (D la n lc) n xs rfl ?h1a ⟨l.heap.size,0,Z⟩ 1 1 [M r.name.text,J Y v1,J Y s1,J Y v3,J Y v4,Q,vu,y7,y8,y9,vp,E r.act.decline,E r.act.cheapest] rfl rfl ?h2a ?h3a (by decide) ?h4a ?h5a ?h6a _ rfl ?h7a
     case h1a=>exact(E1.o.alloc _).drew
     case h2a=>exact World.news_of_block (aN l (C #[M r.name.text,J Y v1,J Y s1,J Y v3,J Y v4,Q,vu,y7,y8,y9,vp,E r.act.decline,E r.act.cheapest] 170))
     case h3a=>exact Q3.o
     case h4a=>unfold maxLen;omega
     case h5a=>omega
     case h6a=>simp;omega
     case h7a=>
      intro g2 f0 w1 B0 P _ _;obtain⟨e1,ef,D0⟩:=P0.o.rules (V:=D (U ⟨g2,0,Z⟩) (n+1) f0) R3.o P (by rw[HN.o];exact B0);obtain⟨k0,k1,k2,k3,k4,k5,k6,k7,k8,k9,a0,b0,c0⟩:=hH;have d:=M3.o _ (by simp) w1 P;have s:=Za D0;have G1:=I (d _ _ k0) (I (d _ _ k1) (I (d _ _ k2) (I (d _ _ k3) (I (d _ _ k4) (I (d _ _ k5) (I (d _ _ k6) (I (d _ _ k7) (I (d _ _ k8) (I (d _ _ k9) (I (d _ _ a0) (I (d _ _ b0) (d _ _ c0))))))))))));clear d k0 k1 k2 k3 k4 k5 k6 k7 k8 k9 a0 b0 c0 D0 P B0 q2;refine hK.out _ _ G1 (fun hH=>?_);clear hK K G1
      try go_frame
      refine Zf 8 hH ?_
      try go_frame
      refine Zf 9 hH ?_
      try go_frame
      refine SX 10 (fun K hK=>?_);go_simp;refine hK.out _ _ ?_ (fun hH=>?_)
      ·obtain⟨k0,k1,k2,k3,k4,k5,k6,k7,k8,k9,a0,b0,c0⟩:=hH
       have d:∀o v,w1.cell? ⟨X,o,Z⟩=U v->(w1.setCell ⟨q,2,Z⟩ (D (U ⟨g2,0,Z⟩) (n+1) f0)).cell? ⟨X,o,Z⟩=U v:=fun o v hv=>by rw[cO _ _ _ _ (by first|(simp;done)|(simp;omega))];exact hv
       exact I (d _ _ k0) (I (d _ _ k1) (I (d _ _ k2) (I (d _ _ k3) (I (d _ _ k4) (I (d _ _ k5) (I (d _ _ k6) (I (d _ _ k7) (I (d _ _ k8) (I (d _ _ k9) (I (d _ _ a0) (I (d _ _ b0) (d _ _ c0))))))))))))
      clear hK K hH
      try go_frame
      refine wpAnyH_done (by kernel_rfl) ?_ _;go_wp2
      go_end0
      refine⟨rfl,⟨D (U ⟨g2,0,Z⟩) (n+1) f0,[M r.name.text,J Y v1,J Y s1,J Y v3,J Y v4,Q,vu,y7,y8,y9,vp,E r.act.decline,E r.act.cheapest],?_⟩,(A0.o.mono (fun k e=>by have:=n0.o.pB;omega)).trans s.o.2⟩;have e:=s.o.1
      have M2:Y9 F 1 p0 r.act.routes=Xm F (m0.map Z8.name) f r:=by
       unfold Xm;rw[T1.o,S1.o,Q1.o,P1.o,O1.o,Q2.o,P2.o,W2.o,h2.o,f2.o,<-T2.o,c2.o,R,HN.o,N2.o]
      rw[M2]at e;exact e
    ·refine Zb rfl (fun K hK=>?_) G
     rw[if_pos (by rfl)];go_simp;refine hK.out _ _ ?_ (fun hH=>?_)
     ·obtain⟨k0,k1,k2,k3,k4,k5,k6,k7,k8,k9,a0,b0,c0⟩:=hH
      have d:∀o v,l.cell? ⟨X,o,Z⟩=U v->(l.alloc (C #[M r.name.text,J Y v1,J Y s1,J Y v3,J Y v4,Q,vu,y7,y8,y9,vp,E r.act.decline,E r.act.cheapest] 170)).cell? ⟨X,o,Z⟩=U v:=fun o v hv=>(((Fr.refl (fun _=>False) l).alloc (C #[M r.name.text,J Y v1,J Y s1,J Y v3,J Y v4,Q,vu,y7,y8,y9,vp,E r.act.decline,E r.act.cheapest] 170)).cell (p:=⟨X,o,Z⟩) F1 (by simp)).trans hv
      exact I (d _ _ k0) (I (d _ _ k1) (I (d _ _ k2) (I (d _ _ k3) (I (d _ _ k4) (I (d _ _ k5) (I (d _ _ k6) (I (d _ _ k7) (I (d _ _ k8) (I (d _ _ k9) (I (d _ _ a0) (I (d _ _ b0) (d _ _ c0))))))))))))
     clear hK K
     try go_frame
     refine SX 4 (fun K hK=>?_);have o4:(l.alloc (C #[M r.name.text,J Y v1,J Y s1,J Y v3,J Y v4,Q,vu,y7,y8,y9,vp,E r.act.decline,E r.act.cheapest] 170)).cell? ⟨q,2,Z⟩=U (D la n lc):=(((Fr.refl (fun _=>False) l).alloc (C #[M r.name.text,J Y v1,J Y s1,J Y v3,J Y v4,Q,vu,y7,y8,y9,vp,E r.act.decline,E r.act.cheapest] 170)).cell (p:=⟨q,2,Z⟩) (bL l _ q2) (by simp)).trans q2;go_simp;refine hK.out _ _ hH (fun _=>?_);clear hK K o4
     try go_frame
     refine wpAnyH_ready (rs:=[7]) (by kernel_rfl) (by simp) ?_;refine Zb rfl (fun K hK=>?_) G;refine step_append_lies _ rfl (.tmp 189) (.tmp 191) 69 rfl B2 170 ii _ 13 152 Tryz.underlying69 hi X2 Y2 Z2 rfl (by decide) (D la n lc) n xs rfl ?h1b ⟨l.heap.size,0,Z⟩ 1 1 [M r.name.text,J Y v1,J Y s1,J Y v3,J Y v4,Q,vu,y7,y8,y9,vp,E r.act.decline,E r.act.cheapest] rfl rfl ?h2b ?h3b (by decide) ?h4b ?h5b ?h6b _ rfl ?h7b
     case h1b=>exact(E1.o.alloc _).drew
     case h2b=>exact World.news_of_block (aN l (C #[M r.name.text,J Y v1,J Y s1,J Y v3,J Y v4,Q,vu,y7,y8,y9,vp,E r.act.decline,E r.act.cheapest] 170))
     case h3b=>exact Q3.o
     case h4b=>unfold maxLen;omega
     case h5b=>omega
     case h6b=>simp;omega
     case h7b=>
      intro g2 f0 w1 B0 P _ _;obtain⟨e1,ef,D0⟩:=P0.o.rules (V:=D (U ⟨g2,0,Z⟩) (n+1) f0) R3.o P (by rw[HN.o];exact B0);obtain⟨k0,k1,k2,k3,k4,k5,k6,k7,k8,k9,a0,b0,c0⟩:=hH;have d:=M3.o _ (by simp) w1 P;have s:=Za D0;have G1:=I (d _ _ k0) (I (d _ _ k1) (I (d _ _ k2) (I (d _ _ k3) (I (d _ _ k4) (I (d _ _ k5) (I (d _ _ k6) (I (d _ _ k7) (I (d _ _ k8) (I (d _ _ k9) (I (d _ _ a0) (I (d _ _ b0) (d _ _ c0))))))))))));clear d k0 k1 k2 k3 k4 k5 k6 k7 k8 k9 a0 b0 c0 D0 P B0 q2;refine hK.out _ _ G1 (fun hH=>?_);clear hK K G1
      try go_frame
      refine Zf 8 hH ?_
      try go_frame
      refine Zf 9 hH ?_
      try go_frame
      refine SX 10 (fun K hK=>?_);go_simp;refine hK.out _ _ ?_ (fun hH=>?_)
      ·obtain⟨k0,k1,k2,k3,k4,k5,k6,k7,k8,k9,a0,b0,c0⟩:=hH
       have d:∀o v,w1.cell? ⟨X,o,Z⟩=U v->(w1.setCell ⟨q,2,Z⟩ (D (U ⟨g2,0,Z⟩) (n+1) f0)).cell? ⟨X,o,Z⟩=U v:=fun o v hv=>by rw[cO _ _ _ _ (by first|(simp;done)|(simp;omega))];exact hv
       exact I (d _ _ k0) (I (d _ _ k1) (I (d _ _ k2) (I (d _ _ k3) (I (d _ _ k4) (I (d _ _ k5) (I (d _ _ k6) (I (d _ _ k7) (I (d _ _ k8) (I (d _ _ k9) (I (d _ _ a0) (I (d _ _ b0) (d _ _ c0))))))))))))
      clear hK K hH
      try go_frame
      refine wpAnyH_done (by kernel_rfl) ?_ _;go_wp2
      go_end0
      refine⟨rfl,⟨D (U ⟨g2,0,Z⟩) (n+1) f0,[M r.name.text,J Y v1,J Y s1,J Y v3,J Y v4,Q,vu,y7,y8,y9,vp,E r.act.decline,E r.act.cheapest],?_⟩,(A0.o.mono (fun k e=>by have:=n0.o.pB;omega)).trans s.o.2⟩;have e:=s.o.1
      have M2:Y9 F 1 p0 r.act.routes=Xm F (m0.map Z8.name) f r:=by
       unfold Xm;rw[T1.o,S1.o,Q1.o,P1.o,O1.o,Q2.o,P2.o,W2.o,h2.o,f2.o,<-T2.o,c2.o,R,HN.o,N2.o]
      rw[M2]at e;exact e
theorem Fw (w:z1)(B B2 p q g i:Nat)(f:Fa)(body:List Tk)(cv:Nat)(vr vl:T)(i0:List Zd)(s:List Z8)(xs:List T)(r:XX)(j5:Nat)(h:PB w B B2 p q g i f body cv vr vl i0 s xs)(hb:body.length<=3000)(h7:i0.length<=7)(h8:s.length<=8)(hr:MY body i r j5):
  z2 A 82 #[L (U ⟨p,0,Z⟩)] w fun e w'=>e=z0 (.tuple #[])/\(∃E1 c,PB w' B B2 p q g j5 (Xm i0 (s.map Z8.name) f r) body cv vr E1 i0 (s++[WR i0 r]) (xs++c))/\Fr (fun j=>B<=j) w w':=by
 obtain⟨ii,hi,r2,t2,v2⟩:=info_parts T4;have k1:=Za h;have HA:=Za hr;have HQ:O (q≠p/\g≠p):=⟨h.ne,by have:=h.gB;have:=h.pB;omega⟩
 have I:O (∀W,Fr (fun j=>j=p) w W->FZ W q g body cv):=fun W Q=>h.wt.fr Q h.ne (by have:=h.gB;have:=h.pB;omega)
 have w2:i+7<body.length:=(iG.1 hr.b2).1;obtain⟨la,lc,S0,N0⟩:=JP h.lo;have l1:=Za S0
 have m1:O (∀j y,s[j]?=U y->∃g3,la=U ⟨g3,0,Z⟩/\g3≠p/\g3<w.heap.size/\w.cell? ⟨g3,j*13,Z⟩=U (M y.name)):=fun j y hj=>by
  obtain⟨g3,e,h1,h2,h3⟩:=N0 j _ (iG.1 hj).1 (I4 h.ru hj);exact⟨g3,e,by have:=h.pB;omega,h2,h3⟩
 obtain⟨n,hn⟩:∃n,s.length=n:=⟨_,rfl⟩;have HN:=Za hn;obtain⟨b8,n1⟩:∃b,decide (8<=n)=b:=⟨_,rfl⟩
 have l2:decide ((8:Int)<=(n:Int))=b8:=by rw[<-n1];by_cases hq:8<=n<;>simp[hq]<;>omega
 have F1:=Za n1
 have G1:n<=8:=by omega
 have o1:=Za (bL w _ h.wp.c0);have c0:=h.wp.c0;have c1:=h.wp.c1;have fz:=h.wp.fz;have n0:=h.wp.move (i+1);rw[N]at n0;have T0:=Za n0
 have H1:(w.setCell ⟨p,1,Z⟩ (J Y ((i:Int)+1))).cell? ⟨q,2,Z⟩=U (D la n lc):=by have e:=(h.step n0.1 n0.2).q2;rw[S0,hn]at e;exact e
 clear h hr N0 S0 hn n0;go_enter Tryz.func82,Tryz.ntmps82;go_wp2_with fail;refine(XA _ p q g (i+1) f body cv r.name b8 6 _ T0.o.1 (I.o _ T0.o.2) HQ.o.1 HQ.o.2 HA.o.nm (by decide) (by rfl)).mono ?_;rintro e w3 ⟨rfl,p1,q1⟩;have r1:=Za p1;have t1:=Za (T0.o.2.trans q1);clear p1 q1 c0 c1 fz H1;go_wp2_with fail;refine(Xs w3 p q g (i+1) _ body cv r.name r1.o (I.o _ t1.o) HA.o.nm).mono ?_;rintro e w4 ⟨rfl,hf⟩;have I1:=Za (r1.o.fr hf (by simp));have V0:=Za (t1.o.trans hf.no);clear hf;go_wp2_with fail
 have J1:O (UD w (w4.alloc (C #[M r.name.text,J Y 0,J Y 0,J Y 0,J Y 0,D Z 0 0,D Z 0 0,E false,J Y 0,J Y 0,D Z 0 0,E false,E false] 170)) p q w4.heap.size (i+1) (ZW f b8 6 r.name.line) (Ez r.name.text)):=
  ⟨I1.o.fr ((Fr.refl (fun _=>False) w4).alloc _) (by simp),C5 w4 _,V0.o.alloc _,V0.o.size,by have:=o1.o;have:=V0.o.size;omega⟩
 generalize w4.alloc (C #[M r.name.text,J Y 0,J Y 0,J Y 0,J Y 0,D Z 0 0,D Z 0 0,E false,J Y 0,J Y 0,D Z 0 0,E false,E false] 170)=w5 at*;generalize w4.heap.size=X at*
 go_loopg [4] n (fun m o wr=>∃j,j<=n/\m=n-j/\o=J Y (j:Nat)/\O (UD w wr p q X (i+1) (Yn r.name.text r.name.line (ZW f b8 6 r.name.line) ((s.map Z8.name).take j)) (Ez r.name.text)))
 case atStart=>exact⟨0,Nat.zero_le _,rfl,rfl,J1⟩
 case round=>
  obtain⟨j,hj,rfl,rfl,HR⟩:=hrel
  have q2:wr.cell? ⟨q,2,Z⟩=U (D la n lc):=by have e:=(k1.o.step HR.o.wp HR.o.fr).q2;rw[l1.o,HN.o]at e;exact e
  by_cases y2:j<n
  ·obtain⟨y,hy⟩:∃y,s[j]?=U y:=⟨_,gE (by have:=HN.o;omega)⟩
   obtain⟨g3,w1,K1,L1,r0⟩:=m1.o j y hy;rw[<-HR.o.fr.cell (p:=⟨g3,j*13,Z⟩) L1 (by simpa using K1)]at r0
   have M1:O ((s.map Z8.name)[j]?=U y.name):=by show _=_;rw[List.getElem?_map,hy];rfl
   have x0:wr.cell? ⟨X,0,Z⟩=U (M r.name.text):=HR.o.xb.cell 0 (by omega);rw[w1]at q2;obtain⟨bx,N1⟩:∃b,(y.name.toList==r.name.text.toList)=b:=⟨_,rfl⟩;have O1:=Za N1
   have y1:(j:Int)<(n:Int):=by omega
   have P1:O (∀W,F0 wr W->z2 A 131 #[L (U ⟨p,0,Z⟩),E bx,J Y 4] W (I3 W p q (i+1) (ZW (Yn r.name.text r.name.line (ZW f b8 6 r.name.line) ((s.map Z8.name).take j)) bx 4 r.name.line))):=fun W Q=>XA W p q g (i+1) _ body cv r.name bx 4 4 (HR.o.wp.fr Q (by simp)) (I.o _ (HR.o.fr.trans Q.no)) HQ.o.1 HQ.o.2 HA.o.nm (by decide) rfl
   clear hy w1;go_wp2_with fail
   go_region_with (go_at_call 131;refine(P1.o _ (by exact(Fr.refl _ _).drew)).mono ?_;rintro e w6 ⟨rfl,j0,o0⟩;have HZ:O (UD w w6 p q X (i+1) (ZW (Yn r.name.text r.name.line (ZW f b8 6 r.name.line) ((s.map Z8.name).take j)) bx 4 r.name.line) (Ez r.name.text)):=HR.o.call j0 (((Fr.refl _ _).drew).trans o0);clear j0 o0)
   all_goals
    clear q2 r0 x0;go_wp2;go_roundg (n-(j+1))
    case measure=>omega
    case rel=>
     refine⟨j+1,by omega,rfl,by go_num,?_⟩
     show UD _ _ _ _ _ _ _ _
     rw[SG M1.o,O1.o];exact HZ.o
  ·have y1:¬(j:Int)<(n:Int):=by omega
   have k0:O (UD w wr p q X (i+1) (Yn r.name.text r.name.line (ZW f b8 6 r.name.line) (s.map Z8.name)) (Ez r.name.text)):=by
    have e:=HR.o;rw[List.take_of_length_le (by rw[R];have:=HN.o;omega)]at e;exact e
   obtain⟨fn,W0⟩:∃fn,fn=Yn r.name.text r.name.line (ZW f b8 6 r.name.line) (s.map Z8.name):=⟨_,rfl⟩;rw[<-W0]at k0;have Q1:=Za W0;obtain⟨x,hx⟩:∃x,x=i+1:=⟨_,rfl⟩;rw[<-hx]at k0;have p0:=Za hx
   have A2:x+7<=3000:=by omega
   have c1:=k0.o.wp.c1;have fz:=k0.o.wp.fz;clear hx W0 HR y1 hj
   have G0:O (UD w (wr.setCell ⟨p,1,Z⟩ (J Y ((x:Int)+1))) p q X (x+1) fn (Ez r.name.text)):=by have e:=k0.o.move (x+1);rw[N]at e;exact e
   have R1:O (body[x+1]?=U r.rank):=by have e:=HA.o.rk;rw[p0.o];exact e
   go_wp2_with fail;refine(Oa _ p q g (x+1) fn body cv r.rank 1000 _ _ G0.o.wp (I.o _ G0.o.fr) HQ.o.1 HQ.o.2 R1.o HA.o.dg.1 (by omega) (by rfl) (by rfl)).mono ?_;rintro e w6 ⟨rfl,j0,o0⟩;obtain⟨f6,X0⟩:∃f6,f6=ZW fn (decide (1000<Ze r.rank)) 5 r.rank.line:=⟨_,rfl⟩;obtain⟨y,hy⟩:∃y,y=x+1+1:=⟨_,rfl⟩;rw[<-X0,<-hy]at j0;have S1:=Za X0;have HY:=Za hy
   have C2:y+5<=3000:=by have:=p0.o;omega
   have H0:=Za (G0.o.call j0 o0);obtain⟨v1,Y0⟩:∃v1,v1=Ze r.rank:=⟨_,rfl⟩;rw[<-Y0];have T1:=Za Y0;obtain⟨l0,q0⟩:∃l0,l0=WU (Ez r.name.text) 1 (J Y v1):=⟨_,rfl⟩;have A1:=Za q0
   have I0:O (UD w (w6.setCell ⟨X,1,Z⟩ (J Y v1)) p q X y f6 l0):=by rw[q0];exact H0.o.set (by omega) _
   have J0:O (UD w ((w6.setCell ⟨X,1,Z⟩ (J Y v1)).setCell ⟨p,1,Z⟩ (J Y ((y:Int)+2))) p q X (y+2) f6 l0):=by have e:=I0.o.move (y+2);rw[N]at e;exact e
   have x1:=H0.o.xb.cell 1 (by omega);have xf:=H0.o.xb.fz;clear c1 fz;have c1:=I0.o.wp.c1;have fz:=I0.o.wp.fz;clear j0 o0 X0 hy Y0 q0 k0 G0;go_wp2_with fail
   have s0:O (body[y+2]?=U r.bin.1):=by have e:=HA.o.b1;rw[HY.o,p0.o];exact e
   refine(Xs _ p q g (y+2) f6 body cv r.bin.1 J0.o.wp (I.o _ J0.o.fr) s0.o).mono ?_;rintro e w9 ⟨rfl,hf⟩;have K0:=Za (J0.o.look hf);clear hf c1 fz x1 xf J0 I0 H0;obtain⟨t0,v0⟩:∃t0,t0=WU l0 2 (J Y r.bin.1.text.size):=⟨_,rfl⟩;have w0:=Za v0
   have V:O (UD w (w9.setCell ⟨X,2,Z⟩ (J Y r.bin.1.text.size)) p q X (y+2) f6 t0):=by rw[v0];exact K0.o.set (by omega) _
   have x2:=K0.o.xb.cell 2 (by omega);have xf:=K0.o.xb.fz;obtain⟨t,L0⟩:∃t,t=r.bin.1.text.size:=⟨_,rfl⟩;have V1:=Za L0;rw[<-L0]at V w0;have n2:r.bin.1.text.size=t:=L0.symm
   have o2:t<=9:=by have:=HA.o.dg.2.1.1;omega
   obtain⟨b6,Z0⟩:∃b,decide (6<t)=b:=⟨_,rfl⟩
   have B1:decide ((6:Int)<(t:Int))=b6:=by rw[<-Z0];by_cases hq:6<t<;>simp[hq]<;>omega
   have W1:=Za Z0;clear v0 L0;go_wp2_with fail;refine(XA _ p q g (y+2) f6 body cv r.bin.1 b6 5 _ V.o.wp (I.o _ V.o.fr) HQ.o.1 HQ.o.2 s0.o (by decide) (by rfl)).mono ?_;rintro e D2 ⟨rfl,y0,O0⟩;obtain⟨u,A0⟩:∃u,u=ZW f6 b6 5 r.bin.1.line:=⟨_,rfl⟩;rw[<-A0]at y0;have C1:=Za A0;have e0:=Za (V.o.call y0 O0);clear y0 O0 A0 x2 xf Z0 B1 V K0;go_wp2_with fail;refine(Xs _ p q g (y+2) u body cv r.bin.1 e0.o.wp (I.o _ e0.o.fr) s0.o).mono ?_;rintro e a1 ⟨rfl,hf⟩;have a0:=Za (e0.o.look hf);clear hf e0;go_wp2_with fail;refine(UB r.bin.1.text a1 HA.o.dg.2.1).mono ?_;rintro e E2 ⟨rfl,he⟩;replace he:=he.symm;subst he;obtain⟨v3,e1⟩:∃v3,v3=Ze r.bin.1:=⟨_,rfl⟩;rw[show Yt r.bin.1.text.data.toList=v3 from e1.symm];have X1:=Za e1;obtain⟨m0,B0⟩:∃m0,m0=WU t0 3 (J Y v3):=⟨_,rfl⟩;have P0:=Za B0;obtain⟨z,hz⟩:∃z,z=y+2:=⟨_,rfl⟩;rw[<-hz]at a0;have HZ:=Za hz
   have Y1:z+3<=3000:=by omega
   have f0:O (UD w (a1.setCell ⟨X,3,Z⟩ (J Y v3)) p q X z u m0):=by rw[B0];exact a0.o.set (by omega) _
   have g0:O (UD w ((a1.setCell ⟨X,3,Z⟩ (J Y v3)).setCell ⟨p,1,Z⟩ (J Y ((z:Int)+2))) p q X (z+2) u m0):=by have e:=f0.o.move (z+2);rw[N]at e;exact e
   have x3:=a0.o.xb.cell 3 (by omega);have xf:=a0.o.xb.fz;have c1:=f0.o.wp.c1;have fz:=f0.o.wp.fz;clear e1 B0 hz;go_wp2_with fail
   have C0:O (body[z+2]?=U r.bin.2):=by have e:=HA.o.b2;rw[HZ.o,HY.o,p0.o];exact e
   refine(Xs _ p q g (z+2) u body cv r.bin.2 g0.o.wp (I.o _ g0.o.fr) C0.o).mono ?_;rintro e f1 ⟨rfl,hf⟩;have h0:=Za (g0.o.look hf);clear hf c1 fz x3 xf g0 f0 a0;go_wp2_with fail;refine(UB r.bin.2.text f1 HA.o.dg.2.2.1).mono ?_;rintro e F2 ⟨rfl,he⟩;replace he:=he.symm;subst he;obtain⟨F,i1⟩:∃F,F=Ze r.bin.2:=⟨_,rfl⟩;rw[show Yt r.bin.2.text.data.toList=F from i1.symm];have Z1:=Za i1;obtain⟨b0,D0⟩:∃b0,b0=WU m0 4 (J Y F):=⟨_,rfl⟩;have Q0:=Za D0
   have P:O (UD w (f1.setCell ⟨X,4,Z⟩ (J Y F)) p q X (z+2) u b0):=by rw[D0];exact h0.o.set (by omega) _
   have x4:=h0.o.xb.cell 4 (by omega);have xf:=h0.o.xb.fz;clear i1 D0 h0;go_wp2_with fail;generalize f1.setCell ⟨X,4,Z⟩ (J Y F)=v at*;clear x4 xf
   have D1:O (∀W i' f',UD w W p q X i' f' b0->W.cell? ⟨X,2,Z⟩=U (J Y t)/\W.cell? ⟨X,3,Z⟩=U (J Y v3)/\W.cell? ⟨X,4,Z⟩=U (J Y F)):=fun W i' f' Q=>by
    have e2:=Q.xb.cell 2 (by omega);have e3:=Q.xb.cell 3 (by omega);have e4:=Q.xb.cell 4 (by omega);rw[Q0.o,P0.o,w0.o]at e2 e3 e4;exact⟨e2,e3,e4⟩
   have HC:O (∀W,F0 v W->W.cell? ⟨X,2,Z⟩=U (J Y t)/\W.cell? ⟨X,3,Z⟩=U (J Y v3)/\W.cell? ⟨X,4,Z⟩=U (J Y F)):=fun W Q=>by
    exact D1.o W _ _ (P.o.look Q)
   have d0:O (∀W,F0 v W->z2 A 80 #[L (U ⟨p,0,Z⟩)] W fun e w'=>e=z0 (M r.bin.2.text)/\F0 W w'):=fun W Q=>Xs W p q g (z+2) u body cv r.bin.2 (P.o.look Q).wp (I.o _ (P.o.look Q).fr) C0.o
   have M0:O (∀b W,F0 v W->z2 A 131 #[L (U ⟨p,0,Z⟩),E b,J Y 5] W fun e w'=>e=z0 (.tuple #[])/\UD w w' p q X (z+2) (ZW u b 5 r.bin.2.line) b0/\w'.cell? ⟨X,2,Z⟩=U (J Y t)/\w'.cell? ⟨X,3,Z⟩=U (J Y v3)/\w'.cell? ⟨X,4,Z⟩=U (J Y F)):=fun b W Q=>(XA W p q g (z+2) u body cv r.bin.2 b 5 5 (P.o.look Q).wp (I.o _ (P.o.look Q).fr) HQ.o.1 HQ.o.2 C0.o (by decide) rfl).mono fun e w' h=>⟨h.1,(P.o.look Q).call h.2.1 h.2.2,D1.o _ _ _ ((P.o.look Q).call h.2.1 h.2.2)⟩
   obtain⟨H,a2⟩:∃H,r.bin.2.text.size=H:=⟨_,rfl⟩;have c2:=Za a2.symm
   have p2:H<=9:=by have:=HA.o.dg.2.2.1.1;omega
   obtain⟨k2,k3,k4⟩:=HC.o v (Fr.refl _ _)
   go_cut [] (fun wx=>O (UD w wx p q X (z+2) (ZW u (decide (6<H)||decide (H≠t)||decide (F<v3)) 5 r.bin.2.line) b0))
   case first=>
    clear k2 k3 k4;by_cases g1:6<H
    ·have d1:decide (6<H)=true:=by simpa using g1
     have f2:decide ((6:Int)<(H:Int))=true:=by simp;omega
     have HW:O ((decide (6<H)||decide (H≠t)||decide (F<v3))=true):=by show _=_;simp[g1]
     clear g1;refine wp_region_held_drew (S:=fun W=>W.cell? ⟨X,2,Z⟩=U (J Y t)/\W.cell? ⟨X,3,Z⟩=U (J Y v3)/\W.cell? ⟨X,4,Z⟩=U (J Y F)) (by kernel_rfl) ?_ (fun a=>?_)
     ·exact HC.o _ (Fr.refl _ _).drew
     have d:O (F0 v v.drew):=(Fr.refl _ _).drew;refine Zf 0 a ?_
     try go_frame
     refine Zf 1 a ?_
     try go_frame
     refine wpAnyH_ready (rs:=[2]) (by kernel_rfl) (by simp) ?_;refine Zb rfl (fun K l=>?_) G;go_simp;refine Tv d0.o d.o ?_;intro E0 k;refine l.out _ _ (HC.o _ k) (fun a=>?_);clear l K d;have d:=Za k;clear k
     try go_frame
     refine Zf 3 a ?_
     try go_frame
     refine Zf 4 a ?_
     try go_frame
     refine Zf 5 a ?_
     try go_frame
     refine Yw 6 rfl (by kernel_rfl) (by kernel_rfl) (by kernel_rfl) (fun _ _ _ h=>h) rfl a ?_
     try go_frame
     refine Yw 7 rfl (by kernel_rfl) (by kernel_rfl) (by kernel_rfl) (fun _ _ _ h=>h) rfl a ?_
     try go_frame
     refine Yw 8 rfl (by kernel_rfl) (by kernel_rfl) (by kernel_rfl) (fun _ _ _ h=>h) rfl a ?_
     try go_frame
     refine Yw 9 rfl (by kernel_rfl) (by kernel_rfl) (by kernel_rfl) (fun _ _ _ h=>h) rfl a ?_
     try go_frame
     refine Yw 10 rfl (by kernel_rfl) (by kernel_rfl) (by kernel_rfl) (fun _ _ _ h=>h) rfl a ?_
     try go_frame
     refine Yw 11 rfl (by kernel_rfl) (by kernel_rfl) (by kernel_rfl) (fun _ _ _ h=>h) rfl a ?_
     try go_frame
     refine Zf 12 a ?_
     try go_frame
     refine Zf 13 a ?_
     try go_frame
     refine Yw 14 rfl (by kernel_rfl) (by kernel_rfl) (by kernel_rfl) (fun _ _ _ h=>h) rfl a ?_
     try go_frame
     refine Yw 15 rfl (by kernel_rfl) (by kernel_rfl) (by kernel_rfl) (fun _ _ _ h=>h) rfl a ?_
     try go_frame
     refine Yw 16 rfl (by kernel_rfl) (by kernel_rfl) (by kernel_rfl) (fun _ _ _ h=>h) rfl a ?_
     try go_frame
     refine Yw 17 rfl (by kernel_rfl) (by kernel_rfl) (by kernel_rfl) (fun _ _ _ h=>h) rfl a ?_
     try go_frame
     refine Yw 18 rfl (by kernel_rfl) (by kernel_rfl) (by kernel_rfl) (fun _ _ _ h=>h) rfl a ?_
     try go_frame
     refine Zf 19 a ?_
     try go_frame
     refine wpAnyH_ready (rs:=[20]) (by kernel_rfl) (by simp) ?_;refine Zb rfl (fun K l=>?_) G;go_simp;refine(M0.o true _ d.o).mono ?_;rintro e j1 ⟨rfl,hL,m2,m3,m4⟩;refine l.out _ _ ⟨m2,m3,m4⟩ (fun a=>?_);have HL:=Za hL;clear l K hL m2 m3 m4
     try go_frame
     refine wpAnyH_done (by kernel_rfl) ?_ _;go_wp2_with fail;go_meet;rw[HW.o];exact HL
    ·have d1:decide (6<H)=false:=by simpa using g1
     have f2:decide ((6:Int)<(H:Int))=false:=by simp;omega
     by_cases g2:H=t
     ·have d2:((H:Int) !=(t:Int))=false:=by simp[g2]
      have i2:((H:Int)==(t:Int))=true:=by simp[g2]
      by_cases g3:F<v3
      ·have d3:decide (F<v3)=true:=by simpa using g3
       have j2:decide ((F:Int)<(v3:Int))=true:=by simp;omega
       have HW:O ((decide (6<H)||decide (H≠t)||decide (F<v3))=true):=by show _=_;simp[g3]
       clear g1 g2 g3;refine wp_region_held_drew (S:=fun W=>W.cell? ⟨X,2,Z⟩=U (J Y t)/\W.cell? ⟨X,3,Z⟩=U (J Y v3)/\W.cell? ⟨X,4,Z⟩=U (J Y F)) (by kernel_rfl) ?_ (fun a=>?_)
       ·exact HC.o _ (Fr.refl _ _).drew
       have d:O (F0 v v.drew):=(Fr.refl _ _).drew;refine Zf 0 a ?_
       try go_frame
       refine Zf 1 a ?_
       try go_frame
       refine wpAnyH_ready (rs:=[2]) (by kernel_rfl) (by simp) ?_;refine Zb rfl (fun K l=>?_) G;go_simp;refine Tv d0.o d.o ?_;intro E0 k;refine l.out _ _ (HC.o _ k) (fun a=>?_);clear l K d;have d:=Za k;clear k
       try go_frame
       refine Zf 3 a ?_
       try go_frame
       refine Zf 4 a ?_
       try go_frame
       refine Zf 5 a ?_
       try go_frame
       refine Zf 6 a ?_
       try go_frame
       refine Zf 9 a ?_
       try go_frame
       refine Zf 10 a ?_
       try go_frame
       refine wpAnyH_ready (rs:=[7]) (by kernel_rfl) (by simp) ?_;refine Zb rfl (fun K l=>?_) G;go_simp;refine Tv d0.o d.o ?_;intro R0 k;refine l.out _ _ (HC.o _ k) (fun a=>?_);clear l K d;have d:=Za k;clear k
       try go_frame
       refine Zf 8 a ?_
       try go_frame
       refine Zf 11 a ?_
       try go_frame
       refine Zf 12 a ?_
       try go_frame
       refine Zf 13 a ?_
       try go_frame
       refine Zf 14 a ?_
       try go_frame
       refine Zf 15 a ?_
       try go_frame
       refine Zf 16 a ?_
       try go_frame
       refine Zf 17 a ?_
       try go_frame
       refine Zf 18 a ?_
       try go_frame
       refine Zf 19 a ?_
       try go_frame
       refine wpAnyH_ready (rs:=[20]) (by kernel_rfl) (by simp) ?_;refine Zb rfl (fun K l=>?_) G;go_simp;refine(M0.o true _ d.o).mono ?_;rintro e j1 ⟨rfl,hL,m2,m3,m4⟩;refine l.out _ _ ⟨m2,m3,m4⟩ (fun a=>?_);have HL:=Za hL;clear l K hL m2 m3 m4
       try go_frame
       refine wpAnyH_done (by kernel_rfl) ?_ _;go_wp2_with fail;go_meet;rw[HW.o];exact HL
      ·have d3:decide (F<v3)=false:=by simpa using g3
       have j2:decide ((F:Int)<(v3:Int))=false:=by simp;omega
       have HW:O ((decide (6<H)||decide (H≠t)||decide (F<v3))=false):=by show _=_;simp[g2,g3];omega
       clear g1 g2 g3;refine wp_region_held_drew (S:=fun W=>W.cell? ⟨X,2,Z⟩=U (J Y t)/\W.cell? ⟨X,3,Z⟩=U (J Y v3)/\W.cell? ⟨X,4,Z⟩=U (J Y F)) (by kernel_rfl) ?_ (fun a=>?_)
       ·exact HC.o _ (Fr.refl _ _).drew
       have d:O (F0 v v.drew):=(Fr.refl _ _).drew;refine Zf 0 a ?_
       try go_frame
       refine Zf 1 a ?_
       try go_frame
       refine wpAnyH_ready (rs:=[2]) (by kernel_rfl) (by simp) ?_;refine Zb rfl (fun K l=>?_) G;go_simp;refine Tv d0.o d.o ?_;intro E0 k;refine l.out _ _ (HC.o _ k) (fun a=>?_);clear l K d;have d:=Za k;clear k
       try go_frame
       refine Zf 3 a ?_
       try go_frame
       refine Zf 4 a ?_
       try go_frame
       refine Zf 5 a ?_
       try go_frame
       refine Zf 6 a ?_
       try go_frame
       refine Zf 9 a ?_
       try go_frame
       refine Zf 10 a ?_
       try go_frame
       refine wpAnyH_ready (rs:=[7]) (by kernel_rfl) (by simp) ?_;refine Zb rfl (fun K l=>?_) G;go_simp;refine Tv d0.o d.o ?_;intro R0 k;refine l.out _ _ (HC.o _ k) (fun a=>?_);clear l K d;have d:=Za k;clear k
       try go_frame
       refine Zf 8 a ?_
       try go_frame
       refine Zf 11 a ?_
       try go_frame
       refine Zf 12 a ?_
       try go_frame
       refine Zf 13 a ?_
       try go_frame
       refine Zf 14 a ?_
       try go_frame
       refine Zf 15 a ?_
       try go_frame
       refine Zf 16 a ?_
       try go_frame
       refine Zf 17 a ?_
       try go_frame
       refine Zf 18 a ?_
       try go_frame
       refine Zf 19 a ?_
       try go_frame
       refine wpAnyH_ready (rs:=[20]) (by kernel_rfl) (by simp) ?_;refine Zb rfl (fun K l=>?_) G;go_simp;refine(M0.o false _ d.o).mono ?_;rintro e j1 ⟨rfl,hL,m2,m3,m4⟩;refine l.out _ _ ⟨m2,m3,m4⟩ (fun a=>?_);have HL:=Za hL;clear l K hL m2 m3 m4
       try go_frame
       refine wpAnyH_done (by kernel_rfl) ?_ _;go_wp2_with fail;go_meet;rw[HW.o];exact HL
     ·have d2:((H:Int) !=(t:Int))=true:=by simp;omega
      have i2:((H:Int)==(t:Int))=false:=by simp;omega
      have HW:O ((decide (6<H)||decide (H≠t)||decide (F<v3))=true):=by show _=_;simp[g2]
      clear g1 g2;refine wp_region_held_drew (S:=fun W=>W.cell? ⟨X,2,Z⟩=U (J Y t)/\W.cell? ⟨X,3,Z⟩=U (J Y v3)/\W.cell? ⟨X,4,Z⟩=U (J Y F)) (by kernel_rfl) ?_ (fun a=>?_)
      ·exact HC.o _ (Fr.refl _ _).drew
      have d:O (F0 v v.drew):=(Fr.refl _ _).drew;refine Zf 0 a ?_
      try go_frame
      refine Zf 1 a ?_
      try go_frame
      refine wpAnyH_ready (rs:=[2]) (by kernel_rfl) (by simp) ?_;refine Zb rfl (fun K l=>?_) G;go_simp;refine Tv d0.o d.o ?_;intro E0 k;refine l.out _ _ (HC.o _ k) (fun a=>?_);clear l K d;have d:=Za k;clear k
      try go_frame
      refine Zf 3 a ?_
      try go_frame
      refine Zf 4 a ?_
      try go_frame
      refine Zf 5 a ?_
      try go_frame
      refine Zf 6 a ?_
      try go_frame
      refine Zf 9 a ?_
      try go_frame
      refine Zf 10 a ?_
      try go_frame
      refine wpAnyH_ready (rs:=[7]) (by kernel_rfl) (by simp) ?_;refine Zb rfl (fun K l=>?_) G;go_simp;refine Tv d0.o d.o ?_;intro R0 k;refine l.out _ _ (HC.o _ k) (fun a=>?_);clear l K d;have d:=Za k;clear k
      try go_frame
      refine Zf 8 a ?_
      try go_frame
      refine Zf 11 a ?_
      try go_frame
      refine Zf 12 a ?_
      try go_frame
      refine Zf 13 a ?_
      try go_frame
      refine Yw 14 rfl (by kernel_rfl) (by kernel_rfl) (by kernel_rfl) (fun _ _ _ h=>h) rfl a ?_
      try go_frame
      refine Yw 15 rfl (by kernel_rfl) (by kernel_rfl) (by kernel_rfl) (fun _ _ _ h=>h) rfl a ?_
      try go_frame
      refine Yw 16 rfl (by kernel_rfl) (by kernel_rfl) (by kernel_rfl) (fun _ _ _ h=>h) rfl a ?_
      try go_frame
      refine Yw 17 rfl (by kernel_rfl) (by kernel_rfl) (by kernel_rfl) (fun _ _ _ h=>h) rfl a ?_
      try go_frame
      refine Yw 18 rfl (by kernel_rfl) (by kernel_rfl) (by kernel_rfl) (fun _ _ _ h=>h) rfl a ?_
      try go_frame
      refine Zf 19 a ?_
      try go_frame
      refine wpAnyH_ready (rs:=[20]) (by kernel_rfl) (by simp) ?_;refine Zb rfl (fun K l=>?_) G;go_simp;refine(M0.o true _ d.o).mono ?_;rintro e j1 ⟨rfl,hL,m2,m3,m4⟩;refine l.out _ _ ⟨m2,m3,m4⟩ (fun a=>?_);have HL:=Za hL;clear l K hL m2 m3 m4
      try go_frame
      refine wpAnyH_done (by kernel_rfl) ?_ _;go_wp2_with fail;go_meet;rw[HW.o];exact HL
   case rest=>
    clear k2 k3 k4
    apply_assumption
    exact Lk w B B2 p q g i f body cv vr vl i0 s xs r j5 hb h7 k1 HA HQ I la lc l1 n HN b8 F1 G1 o1 X fn Q1 x p0 f6 y S1 HY v1 T1 l0 A1 t0 t w0 V1 b6 W1 u C1 v3 X1 m0 P0 z HZ Y1 F Z1 b0 Q0 H c2 wc hcut _ _ _ _ _ _ _ _ _ _ _ _ _ _ _ _ _ _ _ _ _ _ _ _ _ _ _ _ _ _ _ _ _ _ _ _ _ _ _ _ _ _ _ _ _ _ _ _ _ _ _ _ _ _ _ _ _ _ _ _ _ _ _ _ _ _ _ _ _ _ _ _ _ _ _ _ _ _ _ _ _ _ _ _ _ _ _ _ _ _ _ _ _ _ _ _ _ _ _ _ _ _ _ _ _ _ _ _ _ _ _ _ _ _ _ _ _ _ _ _ _ _ _ _ _ _ _ _ _ _ _ _ _ _ _ _ _ _ _ _ _ _ _ _ _ _ _ _ _ _ _ _ _ _ _ _ _ _ _ _ _ _ _ _ _ _ _ _ _ _ _ _ _ _ _ _ _ _ _ _ _ _ _ _ _ _ _ _ _ _ _ _
