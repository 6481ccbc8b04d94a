import Derived.Test.YtccikgogjfbpeaaGreatDoorAq
import Derived.Test.YtccikgogjfbpeaaGreatDoorAr
import Derived.Test.YtccikgogjfbpeaaGreatDoorAo
import Derived.Test.YtccikgogjfbpeaaGreatDoorAv
import Derived.Test.YtccikgogjfbpeaaGreatDoorAs
open Option renaming none->I,some->Y
open Go.Value renaming int->J,slice->U,pointer->O,string->R,bool->z1
open Go.IntKind renaming i64->V
open Go.RowKit renaming Hid->Z
open Go.Proofs.Tryz renaming prog->E
open Go.Ending renaming returned->H
open Int renaming natCast_add->D,emod_nonneg->Q,toNat_of_nonneg->z0
open _root_.ByteArray renaming empty->G
open Nat renaming le_trans->M,zero_le->A,le_refl->z2
open Go.Obj renaming cells->L
open Go renaming Calls->C
open List renaming length_map->F
namespace Go.Proofs.YtccikgogjfbpeaaGreatDoor
set_option maxRecDepth 30000
set_option maxHeartbeats 8000000
open Go.RowKit
theorem C1 (w B B2 p q g i f body T vr vl rts a xs r j5)(h:O5 w B B2 p q g i f body T vr vl rts a xs)(hb:body.length<=3000)(h7:rts.length<=7)(h8:a.length<=8)(hr:Jw body i r j5):
  C E 82 #[O (Y ⟨p,0,I⟩)] w fun e w'=>e=H (.tuple #[])/\(∃t1 c,O5 w' B B2 p q g j5 (Xr rts (a.map Xa.name) f r) body T vr t1 rts (a++[Vl rts r]) (xs++c))/\Fr (fun j=>B<=j) w w':=by
 obtain⟨ii,hi,l2,n2,o2⟩:=info_parts SV;have X0:=Za h;have HA:=Za hr;have HQ:Z (q≠p/\g≠p):=⟨h.ne,by have:=h.gB;have:=h.pB;omega⟩
 have k:Z (∀W,Fr (fun j=>j=p) w W->BV W q g body T):=fun W s=>h.wt.fr s h.ne (by have:=h.gB;have:=h.pB;omega)
 have p2:i+7<body.length:=(iG.1 hr.b2).1;obtain⟨la,lc,L0,H0⟩:=FM h.lo;have Y0:=Za L0
 have Z0:Z (∀j y,a[j]?=Y y->∃g3,la=Y ⟨g3,0,I⟩/\g3≠p/\g3<w.heap.size/\w.cell? ⟨g3,j*13,I⟩=Y (R y.name)):=fun j y hj=>by
  obtain⟨g3,e,h1,h2,h3⟩:=H0 j _ (iG.1 hj).1 (De h.ru hj);exact⟨g3,e,by have:=h.pB;omega,h2,h3⟩
 obtain⟨n,hn⟩:∃n,a.length=n:=⟨_,rfl⟩;have HN:=Za hn;obtain⟨b8,a1⟩:∃b,decide (8<=n)=b:=⟨_,rfl⟩
 have Z1:decide ((8:Int)<=(n:Int))=b8:=by rw[<-a1];by_cases hq:8<=n<;>simp[hq]<;>omega
 have w1:=Za a1
 have y1:n<=8:=by omega
 have e1:=Za (bL w _ h.wp.c0);have c0:=h.wp.c0;have c1:=h.wp.c1;have fz:=h.wp.fz;have k0:=h.wp.move (i+1);rw[D]at k0;have M0:=Za k0
 have A1:(w.setCell ⟨p,1,I⟩ (J V ((i:Int)+1))).cell? ⟨q,2,I⟩=Y (U la n lc):=by have e:=(h.step k0.1 k0.2).q2;rw[L0,hn]at e;exact e
 clear h hr H0 L0 hn k0;go_enter Tryz.func82,Tryz.ntmps82;go_wp2_with fail;refine(XM _ p q g (i+1) f body T r.name b8 6 _ M0.o.1 (k.o _ M0.o.2) HQ.o.1 HQ.o.2 HA.o.nm (by decide) (by rfl)).mono ?_;rintro e w3 ⟨rfl,f1,i1⟩;have j1:=Za f1;have k1:=Za (M0.o.2.trans i1);clear f1 i1 c0 c1 fz A1;go_wp2_with fail;refine(XC w3 p q g (i+1) _ body T r.name j1.o (k.o _ k1.o) HA.o.nm).mono ?_;rintro e w4 ⟨rfl,hf⟩;have B1:=Za (j1.o.fr hf);have N0:=Za (k1.o.trans hf.no);clear hf;go_wp2_with fail
 have D1:Z (U2 w (w4.alloc (L #[R r.name.text,J V 0,J V 0,J V 0,J V 0,U I 0 0,U I 0 0,z1 false,J V 0,J V 0,U I 0 0,z1 false,z1 false] 170)) p q w4.heap.size (i+1) (ZW f b8 6 r.name.line) (AY r.name.text)):=
  ⟨B1.o.fr ((Fr.refl (fun _=>False) w4).alloc _),vt w4 _,N0.o.alloc _,N0.o.size,by have:=e1.o;have:=N0.o.size;omega⟩
 generalize w4.alloc _=w5 at*;generalize w4.heap.size=X at*
 go_loopg [4] n (fun m o wr=>∃j,j<=n/\m=n-j/\o=J V (j:Nat)/\Z (U2 w wr p q X (i+1) (Yn r.name.text r.name.line (ZW f b8 6 r.name.line) ((a.map Xa.name).take j)) (AY r.name.text)))
 case atStart=>exact⟨0,A _,rfl,rfl,D1⟩
 obtain⟨j,hj,rfl,rfl,HR⟩:=hrel
 have q2:wr.cell? ⟨q,2,I⟩=Y (U la n lc):=by have e:=(X0.o.step HR.o.wp HR.o.fr).q2;rw[Y0.o,HN.o]at e;exact e
 by_cases r2:j<n
 ·obtain⟨y,hy⟩:∃y,a[j]?=Y y:=⟨_,gE (by have:=HN.o;omega)⟩
  obtain⟨g3,l1,E1,F1,r0⟩:=Z0.o j y hy;rw[<-HR.o.fr.cell (p:=⟨g3,j*13,I⟩) F1 (by simpa using E1)]at r0
  have G1:Z ((a.map Xa.name)[j]?=Y y.name):=by show _=_;rw[List.getElem?_map,hy];rfl
  have x0:wr.cell? ⟨X,0,I⟩=Y (R r.name.text):=HR.o.xb.cell 0 (by omega);rw[l1]at q2;obtain⟨bx,H1⟩:∃b,(y.name.toList==r.name.text.toList)=b:=⟨_,rfl⟩;have I1:=Za H1
  have m1:(j:Int)<(n:Int):=by omega
  have J1:Z (∀W,F0 wr W->C E 131 #[O (Y ⟨p,0,I⟩),z1 bx,J V 4] W (Dd W p q (i+1) (ZW (Yn r.name.text r.name.line (ZW f b8 6 r.name.line) ((a.map Xa.name).take j)) bx 4 r.name.line))):=fun W s=>XM W p q g (i+1) _ body T r.name bx 4 4 (HR.o.wp.fr s) (k.o _ (HR.o.fr.trans s.no)) HQ.o.1 HQ.o.2 HA.o.nm (by decide) rfl
  clear hy l1;go_wp2_with fail
  go_region_with (go_at_call 131;refine(J1.o _ (by exact Zt.drew)).mono ?_;rintro e w6 ⟨rfl,f0,l0⟩;have HZ:Z (U2 w w6 p q X (i+1) (ZW (Yn r.name.text r.name.line (ZW f b8 6 r.name.line) ((a.map Xa.name).take j)) bx 4 r.name.line) (AY r.name.text)):=HR.o.call f0 ((Zt.drew).trans l0);clear f0 l0)
  all_goals
   clear q2 r0 x0;go_wp2;go_roundg (n-(j+1))
   case measure=>omega
   refine⟨j+1,by omega,rfl,by go_num,?_⟩
   show U2 _ _ _ _ _ _ _ _
   rw[RM G1.o,I1.o];exact HZ.o
 have m1:¬(j:Int)<(n:Int):=by omega
 have g0:Z (U2 w wr p q X (i+1) (Yn r.name.text r.name.line (ZW f b8 6 r.name.line) (a.map Xa.name)) (AY r.name.text)):=by
  have e:=HR.o;rw[List.take_of_length_le (by rw[F];have:=HN.o;omega)]at e;exact e
 obtain⟨fn,O0⟩:∃fn,fn=Yn r.name.text r.name.line (ZW f b8 6 r.name.line) (a.map Xa.name):=⟨_,rfl⟩;rw[<-O0]at g0;have K1:=Za O0;obtain⟨x,hx⟩:∃x,x=i+1:=⟨_,rfl⟩;rw[<-hx]at g0;have m0:=Za hx
 have t2:x+7<=3000:=by omega
 have c1:=g0.o.wp.c1;have fz:=g0.o.wp.fz;clear hx O0 HR m1 hj
 have A0:Z (U2 w (wr.setCell ⟨p,1,I⟩ (J V ((x:Int)+1))) p q X (x+1) fn (AY r.name.text)):=by have e:=g0.o.move (x+1);rw[D]at e;exact e
 have L1:Z (body[x+1]?=Y r.rank):=by have e:=HA.o.rk;rw[m0.o];exact e
 go_wp2_with fail;refine(Md _ p q g (x+1) fn body T r.rank 1000 _ _ A0.o.wp (k.o _ A0.o.fr) HQ.o.1 HQ.o.2 L1.o HA.o.dg.1 (by omega) (by rfl) (by rfl)).mono ?_;rintro e w6 ⟨rfl,f0,l0⟩;obtain⟨f6,P0⟩:∃f6,f6=ZW fn (decide (1000<Zd r.rank)) 5 r.rank.line:=⟨_,rfl⟩;obtain⟨y,hy⟩:∃y,y=x+1+1:=⟨_,rfl⟩;rw[<-P0,<-hy]at f0;have M1:=Za P0;have HY:=Za hy
 have v2:y+5<=3000:=by have:=m0.o;omega
 have B0:=Za (A0.o.call f0 l0);obtain⟨v1,Q0⟩:∃v1,v1=Zd r.rank:=⟨_,rfl⟩;rw[<-Q0];have N1:=Za Q0;obtain⟨h0,n0⟩:∃h0,h0=Vp (AY r.name.text) 1 (J V v1):=⟨_,rfl⟩;have n1:=Za n0
 have C0:Z (U2 w (w6.setCell ⟨X,1,I⟩ (J V v1)) p q X y f6 h0):=by rw[n0];exact B0.o.set (by omega) _
 have D0:Z (U2 w ((w6.setCell ⟨X,1,I⟩ (J V v1)).setCell ⟨p,1,I⟩ (J V ((y:Int)+2))) p q X (y+2) f6 h0):=by have e:=C0.o.move (y+2);rw[D]at e;exact e
 have x1:=B0.o.xb.cell 1 (by omega);have xf:=B0.o.xb.fz;clear c1 fz;have c1:=C0.o.wp.c1;have fz:=C0.o.wp.fz;clear f0 l0 P0 hy Q0 n0 g0 A0;go_wp2_with fail
 have o0:Z (body[y+2]?=Y r.bin.1):=by have e:=HA.o.b1;rw[HY.o,m0.o];exact e
 refine(XC _ p q g (y+2) f6 body T r.bin.1 D0.o.wp (k.o _ D0.o.fr) o0.o).mono ?_;rintro e w9 ⟨rfl,hf⟩;have E0:=Za (D0.o.look hf);clear hf c1 fz x1 xf D0 C0 B0;obtain⟨p0,q0⟩:∃p0,p0=Vp h0 2 (J V r.bin.1.text.size):=⟨_,rfl⟩;have s0:=Za q0
 have u:Z (U2 w (w9.setCell ⟨X,2,I⟩ (J V r.bin.1.text.size)) p q X (y+2) f6 p0):=by rw[q0];exact E0.o.set (by omega) _
 have x2:=E0.o.xb.cell 2 (by omega);have xf:=E0.o.xb.fz;obtain⟨t,G0⟩:∃t,t=r.bin.1.text.size:=⟨_,rfl⟩;have O1:=Za G0;rw[<-G0]at u s0;have a2:=G0.symm
 have c2:t<=9:=by have:=HA.o.dg.2.1.1;omega
 obtain⟨b6,R0⟩:∃b,decide (6<t)=b:=⟨_,rfl⟩
 have o1:decide ((6:Int)<(t:Int))=b6:=by rw[<-R0];by_cases hq:6<t<;>simp[hq]<;>omega
 have P1:=Za R0;clear q0 G0;go_wp2_with fail;refine(XM _ p q g (y+2) f6 body T r.bin.1 b6 5 _ u.o.wp (k.o _ u.o.fr) HQ.o.1 HQ.o.2 o0.o (by decide) (by rfl)).mono ?_;rintro e w2 ⟨rfl,t0,I0⟩;obtain⟨d,v0⟩:∃d,d=ZW f6 b6 5 r.bin.1.line:=⟨_,rfl⟩;rw[<-v0]at t0;have p1:=Za v0;have a0:=Za (u.o.call t0 I0);clear t0 I0 v0 x2 xf R0 o1 u E0;go_wp2_with fail;refine(XC _ p q g (y+2) d body T r.bin.1 a0.o.wp (k.o _ a0.o.fr) o0.o).mono ?_;rintro e S0 ⟨rfl,hf⟩;have v:=Za (a0.o.look hf);clear hf a0;go_wp2_with fail;refine(UX r.bin.1.text S0 HA.o.dg.2.1).mono ?_;rintro e y2 ⟨rfl,he⟩;replace he:=he.symm;subst he;obtain⟨v3,T0⟩:∃v3,v3=Zd r.bin.1:=⟨_,rfl⟩;rw[show Yu r.bin.1.text.data.toList=v3 from T0.symm];have Q1:=Za T0;obtain⟨i0,w0⟩:∃i0,i0=Vp p0 3 (J V v3):=⟨_,rfl⟩;have J0:=Za w0;obtain⟨z,hz⟩:∃z,z=y+2:=⟨_,rfl⟩;rw[<-hz]at v;have HZ:=Za hz
 have R1:z+3<=3000:=by omega
 have b0:Z (U2 w (S0.setCell ⟨X,3,I⟩ (J V v3)) p q X z d i0):=by rw[w0];exact v.o.set (by omega) _
 have d0:Z (U2 w ((S0.setCell ⟨X,3,I⟩ (J V v3)).setCell ⟨p,1,I⟩ (J V ((z:Int)+2))) p q X (z+2) d i0):=by have e:=b0.o.move (z+2);rw[D]at e;exact e
 have x3:=v.o.xb.cell 3 (by omega);have xf:=v.o.xb.fz;have c1:=b0.o.wp.c1;have fz:=b0.o.wp.fz;clear T0 w0 hz;go_wp2_with fail
 have y0:Z (body[z+2]?=Y r.bin.2):=by have e:=HA.o.b2;rw[HZ.o,HY.o,m0.o];exact e
 refine(XC _ p q g (z+2) d body T r.bin.2 d0.o.wp (k.o _ d0.o.fr) y0.o).mono ?_;rintro e V0 ⟨rfl,hf⟩;have e0:=Za (d0.o.look hf);clear hf c1 fz x3 xf d0 b0 v;go_wp2_with fail;refine(UX r.bin.2.text V0 HA.o.dg.2.2.1).mono ?_;rintro e z2 ⟨rfl,he⟩;replace he:=he.symm;subst he;obtain⟨M,W0⟩:∃M,M=Zd r.bin.2:=⟨_,rfl⟩;rw[show Yu r.bin.2.text.data.toList=M from W0.symm];have S1:=Za W0;obtain⟨N,z0⟩:∃N,N=Vp i0 4 (J V M):=⟨_,rfl⟩;have K0:=Za z0
 have l:Z (U2 w (V0.setCell ⟨X,4,I⟩ (J V M)) p q X (z+2) d N):=by rw[z0];exact e0.o.set (by omega) _
 have x4:=e0.o.xb.cell 4 (by omega);have xf:=e0.o.xb.fz;clear W0 z0 e0;go_wp2_with fail;generalize V0.setCell ⟨X,4,I⟩ (J V M)=j0 at*;clear x4 xf
 have q1:Z (∀W i' f',U2 w W p q X i' f' N->W.cell? ⟨X,2,I⟩=Y (J V t)/\W.cell? ⟨X,3,I⟩=Y (J V v3)/\W.cell? ⟨X,4,I⟩=Y (J V M)):=fun W i' f' s=>by
  have e2:=s.xb.cell 2 (by omega);have e3:=s.xb.cell 3 (by omega);have e4:=s.xb.cell 4 (by omega);rw[K0.o,J0.o,s0.o]at e2 e3 e4;exact⟨e2,e3,e4⟩
 have HC:Z (∀W,F0 j0 W->W.cell? ⟨X,2,I⟩=Y (J V t)/\W.cell? ⟨X,3,I⟩=Y (J V v3)/\W.cell? ⟨X,4,I⟩=Y (J V M)):=fun W s=>by
  exact q1.o W _ _ (l.o.look s)
 have r1:Z (∀W,F0 j0 W->C E 80 #[O (Y ⟨p,0,I⟩)] W fun e w'=>e=H (R r.bin.2.text)/\F0 W w'):=fun W s=>XC W p q g (z+2) d body T r.bin.2 (l.o.look s).wp (k.o _ (l.o.look s).fr) y0.o
 have T1:Z (∀b W,F0 j0 W->C E 131 #[O (Y ⟨p,0,I⟩),z1 b,J V 5] W fun e w'=>e=H (.tuple #[])/\U2 w w' p q X (z+2) (ZW d b 5 r.bin.2.line) N/\w'.cell? ⟨X,2,I⟩=Y (J V t)/\w'.cell? ⟨X,3,I⟩=Y (J V v3)/\w'.cell? ⟨X,4,I⟩=Y (J V M)):=fun b W s=>(XM W p q g (z+2) d body T r.bin.2 b 5 5 (l.o.look s).wp (k.o _ (l.o.look s).fr) HQ.o.1 HQ.o.2 y0.o (by decide) rfl).mono fun e w' h=>⟨h.1,(l.o.look s).call h.2.1 h.2.2,q1.o _ _ _ ((l.o.look s).call h.2.1 h.2.2)⟩
 obtain⟨G,V1⟩:∃G,r.bin.2.text.size=G:=⟨_,rfl⟩;have W1:=Za V1.symm
 have f2:G<=9:=by have:=HA.o.dg.2.2.1.1;omega
 obtain⟨k2,k3,k4⟩:=HC.o j0 Zt
 go_cut [] (fun wx=>Z (U2 w wx p q X (z+2) (ZW d (decide (6<G)||decide (G≠t)||decide (M<v3)) 5 r.bin.2.line) N))
 case first=>
  clear k2 k3 k4;obtain⟨b,HW⟩:∃b,Z ((decide (6<G)||decide (G≠t)||decide (M<v3))=b):=⟨_,rfl⟩
  have X1:(decide ((6:Int)<(G:Int))=true/\b=true)\/decide ((6:Int)<(G:Int))=false/\(((G:Int) !=(t:Int))=true/\((G:Int)==(t:Int))=false/\b=true\/((G:Int) !=(t:Int))=false/\((G:Int)==(t:Int))=true/\decide ((M:Int)<(v3:Int))=b):=by
   rw[<-HW.o];by_cases g1:6<G
   ·exact Or.inl ⟨by simp;omega,by simp[g1]⟩
   refine Or.inr ⟨by simp;omega,?_⟩
   by_cases g2:G=t
   ·exact Or.inr ⟨by simp[g2],by simp[g2],by rw[Bool.eq_iff_iff];simp[g2];omega⟩
   exact Or.inl ⟨by simp;omega,by simp;omega,by simp[g2]⟩
  rcases X1 with⟨d1,rfl⟩|⟨d1,⟨d2,Y1,rfl⟩|⟨d2,Y1,d3⟩⟩
  all_goals
   refine wp_region_held_drew (S:=fun W=>W.cell? ⟨X,2,I⟩=Y (J V t)/\W.cell? ⟨X,3,I⟩=Y (J V v3)/\W.cell? ⟨X,4,I⟩=Y (J V M)) (by kernel_rfl) (HC.o _ Zt.drew) (fun hH=>?_);have P:Z (F0 j0 j0.drew):=Zt.drew
   iterate 2 (refine YO 0 hH ?_;try go_frame)
   refine Vv 2 (fun K hK=>?_);go_simp;refine Df r1.o P.o ?_;intro i2 Q;refine hK.out _ _ (HC.o _ Q) (fun hH=>?_);clear hK K P;have P:=Za Q;clear Q
   try go_frame
  case' inl=>iterate 17 ((first|refine wJ 0 hH ?_|refine YO 0 hH ?_);try go_frame)
  case' inr.inl|inr.inr=>
   iterate 4 (refine YO 0 hH ?_;try go_frame)
   iterate 2 (refine YO 2 hH ?_;try go_frame)
   refine Vv 7 (fun K hK=>?_);go_simp;refine Df r1.o P.o ?_;intro j2 Q;refine hK.out _ _ (HC.o _ Q) (fun hH=>?_);clear hK K P;have P:=Za Q;clear Q
   try go_frame
   iterate 10 ((first|refine wJ 0 hH ?_|refine YO 0 hH ?_);try go_frame)
  all_goals
   refine Vv 20 (fun K hK=>?_);go_simp;refine(T1.o _ _ P.o).mono ?_;rintro e A2 ⟨rfl,hL,m2,m3,m4⟩;refine hK.out _ _ ⟨m2,m3,m4⟩ (fun hH=>?_);have HL:=Za hL;clear hK K hL m2 m3 m4
   try go_frame
   refine wpAnyH_done (by kernel_rfl) ?_ _;go_wp2_with fail;go_meet;rw[HW.o]
   first|exact HL|(rw[show b=decide (M<v3)from by rw[<-d3];simp];exact HL)
 clear k2 k3 k4
 apply_assumption
 exact JD w B B2 p q g i f body T vr vl rts a xs r j5 hb h7 X0 HA HQ k la lc Y0 n HN b8 w1 y1 e1 X fn K1 x m0 f6 y M1 HY v1 N1 h0 n1 p0 t s0 O1 b6 P1 d p1 v3 Q1 i0 J0 z HZ R1 M S1 N K0 G W1 wc hcut _ _ _ _ _ _ _ _ _ _ _ _ _ _ _ _ _ _ _ _ _ _ _ _ _ _ _ _ _ _ _ _ _ _ _ _ _ _ _ _ _ _ _ _ _ _ _ _ _ _ _ _ _ _ _ _ _ _ _ _ _ _ _ _ _ _ _ _ _ _ _ _ _ _ _ _ _ _ _ _ _ _ _ _ _ _ _ _ _ _ _ _ _ _ _ _ _ _ _ _ _ _ _ _ _ _ _ _ _ _ _ _ _ _ _ _ _ _ _ _ _ _ _ _ _ _ _ _ _ _ _ _ _ _ _ _ _ _ _ _ _ _ _ _ _ _ _ _ _ _ _ _ _ _ _ _ _ _ _ _ _ _ _ _ _ _ _ _ _ _ _ _ _ _ _ _ _ _ _ _ _ _ _ _ _ _ _ _ _ _ _ _
structure X9 (w:World)(B q:Nat)(body:List Tk)(rts:List Zf)(rls:List Ze):Prop where
 tk:∃a c,w.cell? ⟨q,0,I⟩=Y (U a body.length c)/\(0<body.length->∃g,a=Y ⟨g,0,I⟩/\B<=g/\g<w.heap.size/\xV w g body)
 qb:B<=q/\q<w.heap.size
 few:body.length<=3000/\∀t,t∈body->t.text.size<=3000
 sI:VF rts rls=VQ body body.length
 row:∃B2 vr vl xs,B<=B2/\w.cell? ⟨q,1,I⟩=Y vr/\w.cell? ⟨q,2,I⟩=Y vl/\w.ownsRow B2 189 3 vr rts.length (Yh rts)/\w.ownsRow B2 170 13 vl rls.length xs/\TB B2 w (rls.map Ze.ref) xs
theorem X9.fr {w w' B q body rts d}(h:X9 w B q body rts d)(b:F0 w w'):X9 w' B q body rts d:=by
 obtain⟨⟨a,c,j,k⟩,f,l,m,o,r,s,t,u,x,y,z,A,C⟩:=h;refine⟨⟨a,c,(b.cell (p:=⟨q,0,I⟩) f.2).trans j,fun D=>?_⟩,⟨f.1,nL f.2 b.size⟩,l,m,o,r,s,t,u,(b.cell (p:=⟨q,1,I⟩) f.2).trans x,(b.cell (p:=⟨q,2,I⟩) f.2).trans y,oF z b,oF A b,TB.keep (fun v n H E=>oF E b) C⟩;obtain⟨g,e,F,i,G⟩:=k D;exact⟨g,e,F,nL i b.size,G.fr b i⟩
def V3 (x:Except (Nat×Nat) (List Zf×List Ze))(w:World)(e:Ending)(w':World):Prop:=
 match x with
 | .ok p=>(∃q body,e=H (.tuple #[O (Y ⟨q,0,I⟩),J V 0,J V 0])/\X9 w' w.heap.size q body p.1 p.2)/\F0 w w'
 | .error f=>e=H (.tuple #[O I,J V f.1,J V f.2])/\F0 w w'
theorem V3.ok {x w w' e p}(h:x=.ok p):V3 x w e w'↔(∃q body,e=H (.tuple #[O (Y ⟨q,0,I⟩),J V 0,J V 0])/\X9 w' w.heap.size q body p.1 p.2)/\F0 w w':=by subst h;exact Iff.rfl
theorem V3.err {x w w' e f}(h:x=.error f):V3 x w e w'↔e=H (.tuple #[O I,J V f.1,J V f.2])/\F0 w w':=by subst h;exact Iff.rfl
def uo (b:List Vr)(body:List Tk)(i:Nat)(f:Fa)(rts:List Zf)(a:List Xa):Prop:=
 (f=I->∃c,PH body i c/\YW [] [] b=YW rts a c/\rts.length<=6/\a.length<=8)/\(∀x,f=Y x->YW [] [] b=.error x)
theorem C2 {d c body j rts a r}(b:YW [] [] d=YW rts a (.route r::c))(f:PH body (j+1) c)(g:a.length<=8):
  uo d body (j+1) (Wm rts I r) (rts++[⟨r.name.text,Zd r.base,Zd r.rate⟩]) a:=by
 simp only[YW]at b;refine⟨fun e=>⟨c,f,?_,?_,g⟩,fun x h=>?_⟩
 ·rw[e]at b;exact b
 ·have:=NX e;simp;omega
 rw[h]at b;exact b
theorem zr {d c body j rts a r}(b:YW [] [] d=YW rts a (.rule r::c))(f:PH body (j+1) c)(g:rts.length<=6):
  uo d body (j+1) (Xr rts (a.map Xa.name) I r) rts (a++[Vl rts r]):=by
 simp only[YW]at b;refine⟨fun e=>⟨c,f,?_,g,?_⟩,fun x h=>?_⟩
 ·rw[e]at b;exact b
 ·have:=Ly e;rw[F]at this;simp;omega
 rw[h]at b;exact b
theorem Hk {XS}(a:∀x,x∈XS->VA x):YW [] [] XS=(match ZR [] [] XS with| .error f=>.error f| .ok p=>.ok (p.1,p.2.map Ze.ref)):=
 SP XS [] [] (by simp) (by simp) trivial a
theorem xr {c body rts b}(l:∀x,x∈c->VA x)(h:uo c body body.length I rts b):∃p,ZR [] [] c=.ok p/\rts=p.1/\b=p.2.map Ze.ref:=by
 obtain⟨d,m,a,_⟩:=h.1 rfl
 cases d with
 |cons e d=>
  obtain⟨j,⟨g,i,_⟩,_⟩:=m;omega
 |nil=>
  simp only[YW]at a;rw[Hk l]at a
  cases k:ZR [] [] c with
  |error f=>rw[k]at a;cases a
  |ok p=>
   rw[k]at a;injection a with a;injection a with g i;exact⟨p,rfl,g.symm,i.symm⟩
theorem C3 {b body i x rts c}(e:∀x,x∈b->VA x)(h:uo b body i (Y x) rts c):ZR [] [] b=.error x:=by
 have a:=h.2 x rfl;rw[Hk e]at a
 cases d:ZR [] [] b with
 |error f=>rw[d]at a;injection a with a;rw[a]
 |ok p=>rw[d]at a;cases a
theorem O5.rulesAt {w b B c p q g i f body m d e rts a j}(h:O5 w B c p q g i f body m d e rts (a.map Ze.ref) j)(n:b<=g)(k:b<=B)(o:body.length<=3000)(r:∀t,t∈body->t.text.size<=3000)(s:VF rts a=VQ body body.length):X9 w b q body rts a:=by
 have l:=h.lo;rw[F]at l;exact⟨⟨_,_,h.wt.c0,fun _=>⟨g,rfl,n,h.wt.lt,h.wt.row⟩⟩,⟨M k h.qB.1,nL h.qB.2 h.b2⟩,⟨o,r⟩,s,c,d,e,j,M k (M h.pB.1 (Nat.le_of_lt h.pB.2)),h.q1,h.q2,h.ro,l,h.ru⟩
theorem xt (s w):C E 43 #[R s] w (V3 (XE s) w):=by
 by_cases hs:3000<s.size
 ·have HQ:Z (XE s=.error (1,0)):=by show _=_;unfold XE;rw[if_pos hs]
  go_enter Tryz.func43,Tryz.ntmps43;go_wp2_with fail
  go_ret3
  exact(V3.err HQ.o).2 ⟨rfl,Zt⟩
 have HS:=Za hs;go_enter Tryz.func43,Tryz.ntmps43;go_wp2_with fail;clear hs;refine(FP s w (by have:=HS.o;omega)).mono ?_;intro e w1 hT
 cases hL:ZK s 0 1 []with
 |error l=>
  obtain⟨rfl,y⟩:=(VV.err hL).1 hT;have HF:=Za y;have hl:=(QZ _ 0 1 [] rfl (by omega) (by simp)).1 l hL
  have HQ:Z (XE s=.error (2,l)):=by show _=_;unfold XE;rw[if_neg HS.o,hL]
  have d0:decide ((0:Int)<(l:Int))=true:=by simp;omega
  clear hT y hL;go_wp2_with fail
  go_ret3
  exact(V3.err HQ.o).2 ⟨rfl,HF.o⟩
 |ok ts=>
  obtain⟨⟨v,rfl,d⟩,y⟩:=(VV.ok hL).1 hT;obtain⟨body,s0,hB,T⟩:=IT hL;have X:=Oj _ 0 1 [] ts rfl (A _) hL;have q:=(QZ (s:=s) _ 0 1 [] rfl (by omega) (by simp)).2 ts hL;rw[s0]at d X q;rw[List.dropLast_concat]at d
  have hb:body.length<=3000:=by have:=HS.o;simp at X;omega
  have C0:=Za y;have o0:=Za d;have D0:=Za hB;have r0:=Za T
  have E0:Z (XE s=match Zr (body++[⟨3,G,1+Pq s.data.toList⟩]) 0 []with| .error l=>.error (3,l)| .ok (xs,_)=>ZR [] [] xs):=by
   show _=_
   unfold XE;rw[if_neg HS.o,hL]
   dsimp only
   rw[s0];rfl
  obtain⟨G0,H0⟩:=xe (body:=body) (en:=⟨3,G,1+Pq s.data.toList⟩) rfl hB.ns q;have I0:=Za G0;have J0:=Za H0
  have t0:Z (∀r N,YI (body++[⟨3,G,1+Pq s.data.toList⟩]) N [.rules] 0=Y r->C E 79 #[v] w1 fun e w'=>e=H (J V (Vm (body++[⟨3,G,1+Pq s.data.toList⟩]) r))/\F0 w1 w'):=fun r N hN=>Av w1 w.heap.size v body _ ⟨rfl,rfl⟩ d (fun t ht=>(T t ht).1) hb N r hN
  obtain⟨va,Q,hv⟩:=oL d;clear hT y hL d hB T X q G0 H0 s0;subst hv;obtain⟨n,hn⟩:∃n,body.length=n:=⟨_,rfl⟩;rw[hn]at o0 t0 hb ⊢;have K:=Za hn;clear hn
  cases hP:Zr (body++[⟨3,G,1+Pq s.data.toList⟩]) 0 []with
  |error l=>
   obtain⟨N,j,hN,K0⟩:=J0.o l hP
   have HQ:Z (XE s=.error (3,l)):=by show _=_;rw[E0.o,hP]
   have HC:=Za (t0.o _ _ hN);have X0:=Za K0;clear hP hN K0;go_wp2_with fail;refine HC.o.mono ?_;rintro e w2 ⟨rfl,y⟩;have F:=Za (C0.o.trans y);clear y;rcases X0.o with⟨h1,h2⟩|⟨h1,h2⟩
   ·rw[h1]
    have Y0:=Za h2;clear h1 h2;go_wp2_with fail
    go_loopg [7,8] s.size (fun m ln ix wr=>∃k lo,k<=s.size/\m=s.size-k/\ln=J V (lo:Nat)/\ix=J V (k:Nat)/\lo<=k+1/\Z (lo+Pq (s.data.toList.drop k)=1+Pq s.data.toList)/\Z (F0 w wr))
    case atStart=>exact⟨0,1,A _,rfl,rfl,rfl,by omega,by show _=_;rw[List.drop_zero],F⟩
    obtain⟨k,lo,hk,rfl,rfl,rfl,n1,u,z⟩:=hrel
    have o1:s.size<=3000:=by have:=HS.o;omega
    by_cases S:k<s.size
    ·have a0:(k:Int)<(s.size:Int):=by omega
     have Z0:=fun w=>VH (P:=E) Tryz.underlying9 s k (k:Int) rfl S w
     by_cases k0:ZC s k=10
     ·have HT:Z (Pq (s.data.toList.drop k)=Pq (s.data.toList.drop (k+1))+1):=by show _=_;rw[NH s k S,if_pos k0]
      rw[k0]at Z0;clear k0;go_wp2;go_roundg (s.size-(k+1))
      case measure=>omega
      exact⟨k+1,lo+1,by omega,rfl,by go_num,by go_num,by omega,by(have:=u.o;have:=HT.o;show _=_;omega),z⟩
     have HT:=Za (TK s k S k0)
     go_wp2;go_roundg (s.size-(k+1))
     case measure=>omega
     exact⟨k+1,lo,by omega,rfl,rfl,by go_num,by omega,by(have:=u.o;have:=HT.o;show _=_;omega),z⟩
    have a0:¬(k:Int)<(s.size:Int):=by omega
    have a1:Z (lo=l):=by
     have e:=u.o;rw[dL (by simp;omega)]at e;have:=Y0.o
     show _=_
     simp[Pq]at e this;omega
    go_wp2_with fail
    go_ret3
    exact(V3.err HQ.o).2 ⟨by rw[a1.o];rfl,z.o⟩
   rw[h1]
   have d1:((l:Int) !=0)=true:=by simp;omega
   have d2:decide ((l:Int)<0)=false:=by simp
   clear h1;go_wp2_with fail
   go_ret3
   exact(V3.err HQ.o).2 ⟨rfl,F.o⟩
  |ok r=>
   obtain⟨xs,kk⟩:=r;obtain⟨N,hN⟩:=I0.o xs kk hP;have HC:=Za (t0.o _ _ hN)
   have l0:Z (∀x,x∈xs->VA x):=ND (ts:=body++[⟨3,G,1+Pq s.data.toList⟩]) (n:=s.size) (fun t ht=>by
    rcases List.mem_append.1 ht with h|h
    ·exact(r0.o t h).2
    simp at h;subst h;exact⟨fun e=>by simp at e,by simp,by simp⟩) (by have:=HS.o;omega) (by have:=K.o;simp;omega) _ 0 [] xs kk rfl (by simp) hP
   have L0:Z (PH body 0 xs):=by
    obtain⟨ys,e,h⟩:=FE rfl D0.o _ 0 [] xs kk rfl (A _) l0.o hP;rw[e];exact h
   have HU:Z (XE s=ZR [] [] xs):=by show _=_;rw[E0.o,hP]
   have M0:Z (∀p,ZR [] [] xs=.ok p->VF p.1 p.2=VQ body body.length):=fun p hp=>AL D0.o hP l0.o hp
   have N0:Z (∀t,t∈body->t.text.size<=3000):=fun t ht=>by have:=(r0.o t ht).2.2.1;have:=HS.o;omega
   clear hP hN;go_wp2_with fail;refine HC.o.mono ?_;rintro e w2 ⟨rfl,y⟩;have F:=Za (C0.o.trans y);have v0:=Za (oF o0.o y);clear y;rcases Nat.eq_zero_or_pos n with h0|h0
   ·subst h0
    have O0:Z (xs=[]):=by
     have e:=L0.o;have hn:=K.o
     cases xs with
     |nil=>rfl
     |cons x r=>obtain⟨j,⟨h1,h2,_⟩,_⟩:=e;omega
    have b1:Z (XE s=.ok ([],[])):=by show _=_;rw[HU.o,O0.o];rfl
    have P0:=Za (M0.o ([],[]) (by rw[O0.o];rfl));go_wp2_with fail;obtain⟨_,q0,p0⟩:=Ic w2 (L #[U va 0 Q,U I 0 0,U I 0 0] 71) (L #[O (Y ⟨w2.heap.size,0,I⟩),J V 0,J V 0,J V 0] 164);have b0:=(SA w2 (L #[U va 0 Q,U I 0 0,U I 0 0] 71) (L #[O (Y ⟨w2.heap.size,0,I⟩),J V 0,J V 0,J V 0] 164)).1;generalize(w2.alloc _).alloc _=W at*;have e1:=Za ((iA.1 q0).1);have w0:=Za q0;have m0:=Za p0;clear q0 p0
    go_loopg [] 0 (fun _ wr=>Z (wr=W))
    case atStart=>exact rfl
    have e:=hrel.o;subst e;have c0:=Zc m0.o 0;have c1:=Zc m0.o 1;have c2:=Zc m0.o 2;have c3:=Zc m0.o 3;go_wp2_with fail
    go_ret3
    refine(V3.ok b1.o).2 ⟨⟨w2.heap.size,body,rfl,⟨⟨va,Q,?_,fun h=>by have:=K.o;omega⟩,⟨F.o.size,e1.o⟩,⟨by have:=K.o;omega,N0.o⟩,P0.o,w.heap.size,U I 0 0,U I 0 0,[],z2 _,Zc w0.o 1,Zc w0.o 2,oZ _ _ _ _,oZ _ _ _ _,rfl⟩⟩,F.o.trans b0.o⟩;rw[K.o];exact Zc w0.o 0
   obtain⟨g,f1,HG⟩:∃g,va=Y ⟨g,0,I⟩/\Z (w.heap.size<=g/\g<w2.heap.size/\xV w2 g body):=by
    have e:=v0.o;rw[<-K.o]at e;obtain⟨a',c',e2,hr⟩:=QR e;injection e2 with e3 _ _;subst e3;obtain⟨g,e5,g1,i1,j1⟩:=hr (by have:=K.o;omega);exact⟨g,e5,g1,i1,j1⟩
   subst f1;go_wp2_with fail;obtain⟨_,q0,p0⟩:=Ic w2 (L #[U (Y ⟨g,0,I⟩) n Q,U I 0 0,U I 0 0] 71) (L #[O (Y ⟨w2.heap.size,0,I⟩),J V 0,J V 0,J V 0] 164);have b0:=(SA w2 (L #[U (Y ⟨g,0,I⟩) n Q,U I 0 0,U I 0 0] 71) (L #[O (Y ⟨w2.heap.size,0,I⟩),J V 0,J V 0,J V 0] 164)).1;generalize(w2.alloc _).alloc _=W at*
   have Q0:Z (O5 W w2.heap.size (w2.heap.size+2) (w2.heap.size+1) w2.heap.size g 0 I body Q (U I 0 0) (U I 0 0) [] [] []):=by
    refine⟨⟨Zc p0 0,Zc p0 1,Zc p0 2,Zc p0 3,fun o=>bF p0 o,fun x e=>by cases e⟩,⟨?_,nL HG.o.2.1 b0.o.size,HG.o.2.2.fr b0.o HG.o.2.1⟩,Zc q0 1,Zc q0 2,fun o=>bF q0 o,oZ _ _ _ _,oZ _ _ _ _,rfl,HG.o.2.1,⟨by omega,by omega⟩,⟨z2 _,by omega⟩,by omega,?_⟩
    ·rw[K.o];exact Zc q0 0
    have:=(iA.1 p0).1;omega
   obtain⟨B,hB⟩:∃B,w2.heap.size=B:=⟨_,rfl⟩
   have e0:Z (w.heap.size<=B):=by rw[<-hB];exact F.o.size
   have k1:=Za HG.o.1;have l1:=Za (F.o.trans b0.o);rw[hB]at Q0;rw[hB];clear q0 p0 hB HG
   go_loopg [] n (fun m wr=>∃i f vr vl rts b ys,i<=n/\m=n-i/\Z (O5 wr B (B+2) (B+1) B g i f body Q vr vl rts b ys)/\Z (uo xs body i f rts b)/\Z (F0 w wr))
   case atStart=>exact⟨0,I,_,_,[],[],[],A _,rfl,Q0,⟨fun _=>⟨xs,L0.o,rfl,by simp,by simp⟩,fun x e=>by cases e⟩,l1⟩
   obtain⟨i,f,vr,vl,rts,b,ys,hi,rfl,u,x0,z⟩:=hrel;have c0:=u.o.wp.c0;have c1:=u.o.wp.c1;have c2:=u.o.wp.c2;have c3:=u.o.wp.c3
   cases f with
   |some x=>
    have p1:((x.1:Int)==0)=false:=by have:=u.o.wp.ok x rfl;simp;omega
    have q1:((x.1:Int) !=0)=true:=by have:=u.o.wp.ok x rfl;simp;omega
    have HE:Z (XE s=.error x):=by show _=_;rw[HU.o];exact C3 l0.o x0.o
    simp only[vZ,uJ]at c2 c3;by_cases S:i<n
    all_goals
     have a0:decide ((i:Int)<(n:Int))=decide (i<n):=by simp
     simp only[S]at a0;go_wp2_with fail
     go_quiet (fail)
     go_wp2_with fail
     go_ret3
     exact(V3.err HE.o).2 ⟨rfl,z.o.trans ⟨rfl,rfl,rfl,z2 _,fun _ _ _=>rfl⟩⟩
   |none=>
    simp only[vZ,uJ]at c2 c3;by_cases S:i<n
    ·have a0:(i:Int)<(n:Int):=by omega
     obtain⟨zs,R0,hu,h6,h8⟩:=x0.o.1 rfl
     cases zs with
     |nil=>exact absurd R0 (by have:=K.o;show¬i=body.length;omega)
     |cons e zs=>
      obtain⟨j,n0,f0⟩:=R0;have r1:=Za f0;have s1:i<j/\j<n:=⟨n0.2.1,by have:=n0.1;have:=K.o;omega⟩
      cases e with
      |route r=>
       obtain⟨_,_,⟨t,ht,y0⟩,t1,t2,t3,d2,d3,hj⟩:=n0;have z0:=Za (XC wr (B+1) B g i I body Q t u.o.wp u.o.wt ht)
       have HW:Z (∀W,F0 wr W->C E 81 #[O (Y ⟨B+1,0,I⟩)] W fun e w'=>e=H (.tuple #[])/\(∃S0,O5 w' B (B+2) (B+1) B g j (Wm rts I r) body Q S0 vl (rts++[⟨r.name.text,Zd r.base,Zd r.rate⟩]) b ys)/\Fr (fun j=>B<=j) W w'):=fun W hW=>by
        rw[hj];exact FK W B (B+2) (B+1) B g i I body Q vr vl rts b ys r.name r.base r.rate (u.o.step (u.o.wp.fr hW) hW.no) (by have:=K.o;omega) h6 t1 t2 t3 d2 d3
       have A0:=Za (C2 hu f0 h8);clear ht t1 t2 t3 d2 d3 hj hu f0 h6 h8;go_wp2_with fail;refine z0.o.mono ?_;rintro e w3 ⟨rfl,y⟩;have g0:=Za y;clear y c0 c1 c2 c3;go_wp2_with fail;refine(HW.o w3 g0.o).mono ?_;rintro e w4 ⟨rfl,⟨S0,i0⟩,j0⟩;have a:=Za i0;have B0:=Za ((z.o.trans g0.o).monoNew j0 (fun k hk=>Or.inr (by have:=e0.o;omega)));clear i0 j0 y0;have c0:=a.o.wp.c0;have c1:=a.o.wp.c1;have fz:=a.o.wp.fz
       have m1:j<=3000:=by omega
       have HM:Z (Sw (w4.setCell ⟨B+1,1,I⟩ (J V ((j:Int)+1))) (B+1) B (j+1) (Wm rts I r)/\Fr (fun k=>k=B+1) w4 (w4.setCell ⟨B+1,1,I⟩ (J V ((j:Int)+1)))):=by have e:=a.o.wp.move (j+1);rw[D]at e;exact e
       go_wp2;go_roundg (n-(j+1))
       case measure=>omega
       exact⟨j+1,_,_,_,_,_,_,by omega,rfl,a.o.step HM.o.1 HM.o.2,A0,B0.o.monoNew HM.o.2 (fun k hk=>Or.inr (by have:=e0.o;omega))⟩
      |rule r=>
       obtain⟨_,_,⟨t,ht,y0⟩,T0⟩:=n0;have z0:=Za (XC wr (B+1) B g i I body Q t u.o.wp u.o.wt ht)
       have HW:Z (∀W,F0 wr W->C E 82 #[O (Y ⟨B+1,0,I⟩)] W fun e w'=>e=H (.tuple #[])/\(∃V0 c,O5 w' B (B+2) (B+1) B g j (Xr rts (b.map Xa.name) I r) body Q vr V0 rts (b++[Vl rts r]) (ys++c))/\Fr (fun j=>B<=j) W w'):=fun W hW=>
        C1 W B (B+2) (B+1) B g i I body Q vr vl rts b ys r j (u.o.step (u.o.wp.fr hW) hW.no) (by have:=K.o;omega) (by omega) h8 T0
       have A0:=Za (zr hu f0 h6);clear ht T0 hu f0 h6 h8;go_wp2_with fail;refine z0.o.mono ?_;rintro e w3 ⟨rfl,y⟩;have g0:=Za y;clear y c0 c1 c2 c3;go_wp2_with fail;refine(HW.o w3 g0.o).mono ?_;rintro e w4 ⟨rfl,⟨V0,cc,i0⟩,j0⟩;have a:=Za i0;have B0:=Za ((z.o.trans g0.o).monoNew j0 (fun k hk=>Or.inr (by have:=e0.o;omega)));clear i0 j0 y0;have c0:=a.o.wp.c0;have c1:=a.o.wp.c1;have fz:=a.o.wp.fz
       have m1:j<=3000:=by omega
       have HM:Z (Sw (w4.setCell ⟨B+1,1,I⟩ (J V ((j:Int)+1))) (B+1) B (j+1) (Xr rts (b.map Xa.name) I r)/\Fr (fun k=>k=B+1) w4 (w4.setCell ⟨B+1,1,I⟩ (J V ((j:Int)+1)))):=by have e:=a.o.wp.move (j+1);rw[D]at e;exact e
       go_wp2;go_roundg (n-(j+1))
       case measure=>omega
       exact⟨j+1,_,_,_,_,_,_,by omega,rfl,a.o.step HM.o.1 HM.o.2,A0,B0.o.monoNew HM.o.2 (fun k hk=>Or.inr (by have:=e0.o;omega))⟩
    have a0:¬(i:Int)<(n:Int):=by omega
    have W0:i=body.length:=by have:=K.o;omega
    have HE:Z (∃p,XE s=.ok p/\rts=p.1/\b=p.2.map Ze.ref/\VF p.1 p.2=VQ body body.length):=by
     have e:=x0.o;rw[W0]at e;obtain⟨p,h1,h2,h3⟩:=xr l0.o e;exact⟨p,by rw[HU.o];exact h1,h2,h3,M0.o p h1⟩
    clear W0;go_wp2_with fail
    go_ret3
    obtain⟨p,h1,h2,h3,h4⟩:=HE.o;have e:=u.o;rw[h3,h2]at e;exact(V3.ok h1).2 ⟨⟨B,body,rfl,e.rulesAt k1.o e0.o (by have:=K.o;omega) N0.o h4⟩,z.o⟩
def RS (c:Int)(n:Nat):Nat:=((if c<0 then-(c+1)else c)% (n:Int)).toNat
theorem zt (c n)(h:0<n):RS c n<n:=by
 unfold RS;have a:=Q (if c<0 then-(c+1)else c) (b:=(n:Int)) (by omega);have d:=Int.emod_lt_of_pos (if c<0 then-(c+1)else c) (b:=(n:Int)) (by omega);omega
theorem zu (c:Int)(n:Nat)(w)(i: -9223372036854775808<=c)(j:c<=9223372036854775807)(k:0<n)(l:n<=1000000):
  C E 44 #[J V c,J V n] w fun e w'=>e=H (J V (RS c n))/\w'=w:=by
 have d:(0:Int)<(n:Int):=by omega
 have f:(n:Int)<=1000000:=by omega
 have g:((n:Int)==0)=false:=by simp;omega
 by_cases b:c<0
 ·have a:Z ((RS c n:Int)=(-(c+1))% (n:Int)):=by
   show _=_
   unfold RS;rw[if_pos b,z0 (Q _ (by omega))]
  go_enter Tryz.func44,Tryz.ntmps44;go_wp2;go_ret;exact⟨ZO (by rw[a.o,<-Int.neg_tmod,Int.tmod_eq_emod_of_nonneg (by omega)]),rfl⟩
 have a:Z ((RS c n:Int)=c % (n:Int)):=by
  show _=_
  unfold RS;rw[if_neg b,z0 (Q _ (by omega))]
 have h:0<=c:=by omega
 go_enter Tryz.func44,Tryz.ntmps44;go_wp2;go_ret;exact⟨ZO (by rw[a.o]),rfl⟩
theorem C4 (w T b c d rts a f)(k:w.cell? ⟨T,0,I⟩=Y (O (Y ⟨b,0,I⟩)))(g:Bk w b c d rts a f)(h:Yx rts a)(i:QW w):
  C E 17 #[O (Y ⟨T,0,I⟩)] w fun e w'=>e=H (R (ZQ (VF rts a)))/\F0 w w':=by
 have l:=Za (CC w b c d rts a f g h i);clear g h i;go_enter Tryz.func17,Tryz.ntmps17;go_wp2_with fail;refine l.o.mono ?_;rintro e n ⟨rfl,j⟩;have m:=Za j;clear j k;go_wp2;go_ret;exact⟨rfl,m.o⟩
theorem X9.frS {w w' B q body rts i S}(h:X9 w B q body rts i)(b:Fr S w w')(l:∀k,S k->k<B):X9 w' B q body rts i:=by
 obtain⟨⟨a,c,u,x⟩,d,y,z,m,A,C,D,o,E,F,G,H,J⟩:=h
 have j:∀k,B<=k->¬S k:=fun k r K=>by have:=l k K;omega
 have f:∀k,S k->k<m:=fun k r=>nL (l k r) o
 refine⟨⟨a,c,(b.cell (p:=⟨q,0,I⟩) d.2 (j q d.1)).trans u,fun L=>?_⟩,⟨d.1,nL d.2 b.size⟩,y,z,m,A,C,D,o,(b.cell (p:=⟨q,1,I⟩) d.2 (j q d.1)).trans E,(b.cell (p:=⟨q,2,I⟩) d.2 (j q d.1)).trans F,oF G b f,oF H b f,TB.keep (fun v n O M=>oF M b f) J⟩;obtain⟨g,e,s,t,N⟩:=x L;exact⟨g,e,s,nL t b.size,N.fr b t (j g s)⟩
theorem X9.less {w B f q body rts b}(h:X9 w B q body rts b)(d:f<=B):X9 w f q body rts b:=by
 obtain⟨⟨a,c,j,k⟩,i,l,m,n,o,p,r,s,t,u,v,x,y⟩:=h;refine⟨⟨a,c,j,fun z=>?_⟩,⟨M d i.1,i.2⟩,l,m,n,o,p,r,M d s,t,u,v,x,y⟩;obtain⟨g,e,A,C,D⟩:=k z;exact⟨g,e,M d A,C,D⟩
theorem TS:(E.info? 93).map (fun i=>(i.zero,i.size,i.bytes))=Y (Y (O I),1,8):=by kernel_rfl
def Dq (k d:Int)(s a:ByteArray)(b e c:Int)(f:Option Addr)(g h:Nat)(i:Bool):Value:=
 .agg #[J V k,J V d,R s,R a,J V b,J V e,J V c,U f g h,z1 i]
def Sl (k d:Int)(s a:ByteArray)(b e c:Int)(f:Option Addr)(g h:Nat)(i:Bool):Obj:=
 L #[J V k,J V d,R s,R a,J V b,J V e,J V c,U f g h,z1 i] 62
