import Derived.Test.YtccikgogjfbpeaaGreatDoorZb
open Go.Value renaming int->I,slice->P,bool->Z,string->U,pointer->D
open Go.IntKind renaming i64->J
open Option renaming none->V,some->Y
open Go.RowKit renaming Hid->K
open Go.Obj renaming cells->O
open Go.Proofs.Tryz renaming prog->E
open Go.Ending renaming returned->H
open List renaming length_append->G,length_cons->M,length_map->N,mem_map->L,length_nil->A,length_eq_zero_iff->F,append_nil->Q,mem_of_mem_take->z6,mem_of_mem_drop->z7,length_drop->y5,length_take->y6
open Go renaming Calls->R,World->C,Value->y7
open Nat renaming le_refl->z0,mul_le_mul->z5,le_trans->z8,zero_add->z9,zero_le->y8
namespace Go.Proofs.YtccikgogjfbpeaaGreatDoor
set_option maxRecDepth 30000
set_option maxHeartbeats 8000000
open Go.RowKit
def Bj (a:ByteArray)(rk:Nat):Bs:=[114,117,108,101,32]++(a.data.toList++(32::(Z6 rk++[58])))
def Bl (a lo b:Nat):Bs:=[32,98,105,110,32]++(Tf lo a++(46::46::Tf b a))
def Fu (a:Bool)(b c:Nat):Bs:=if a then[32,97,109,111,117,110,116,32]++(Z6 b++(46::46::Z6 c))else[]
def Bm (a b:Bool)(l:List Bs):Bs:=[32,45,62,32]++(OS a b l++[59,10])
theorem OT (a:List Zd)(r:Zc):Qq a r=Bj r.name r.rank++(Bl r.digits r.lo r.hi++(gJ [109,99,99] r.mcc++(Fu r.am.isSome (r.am.getD (0,0)).1 (r.am.getD (0,0)).2++(gJ [99,117,114] r.cur++Bm r.decline r.cheapest (r.routes.map (Z1 a)))))):=by
 have e:Fu r.am.isSome (r.am.getD (0,0)).1 (r.am.getD (0,0)).2=aJ r.am:=by cases r.am<;>rfl
 rw[e];unfold Qq Bj Bl Bm;rw[<-Ci];simp
theorem RY (n d:Nat)(h:(Z6 n).length<=d):(Tf n d).length=d:=by unfold Tf;rw[lA,List.length_replicate];omega
theorem NI (w0 W:C)(b Bb:Nat)(l0:List UInt8)(vr:y7)(T:List Zd)(nm:ByteArray)(rk k lo r:Nat)(g i ps:List Nat)(f:Bool)(u v:Nat)(dc ch:Bool)(ah:Nat)(ma ca pa:Option Addr)(mc cc pc:Nat)
  (O0:Bd W w0.heap.size b l0)(P0:Below w0.heap.size w0 W)(I0:∀w',Below w0.heap.size w0 w'->QA w')
  (J0:w0.cell? ⟨Bb,0,V⟩=Y vr)(Q0:w0.ownsRow (Bb+1) 148 3 vr T.length (YU T))(h6:T.length<=6)(K0:∀t,t∈T->t.name.size<=3000)
  (hm:w0.ownsRow (Bb+1) 3 1 (P ma g.length mc) g.length (Zg g))(hc:w0.ownsRow (Bb+1) 3 1 (P ca i.length cc) i.length (Zg i))(hp:w0.ownsRow (Bb+1) 3 1 (P pa ps.length pc) ps.length (Zg ps))
  (f1:nm.size<=3000)(L0:rk<1000000000)(k0:k<=9)(x0:lo<1000000000/\(Z6 lo).length<=k)(y0:r<1000000000/\(Z6 r).length<=k)(z0:g.length<=4000/\∀x,x∈g->x<1000000000)(A0:i.length<=4000/\∀x,x∈i->x<1000000000)(m0:u<1000000000/\v<1000000000)(B0:ps.length<=4000/\∀x,x∈ps->x<T.length)(J1:l0.length<=1000000000):
  R E 60 #[D (Y ⟨Bb,0,V⟩),D (Y ⟨b,0,V⟩),Mm nm rk k lo r ma g.length mc f u v ca i.length cc dc ch pa ps.length pc ah] W fun e w'=>e=H (.tuple #[])/\Bd w' w0.heap.size b (l0++(Bj nm rk++(Bl k lo r++(gJ [109,99,99] g++(Fu f u v++(gJ [99,117,114] i++Bm dc ch (ps.map (Z1 T))))))))/\Below w0.heap.size w0 w':=by
 unfold Mm;have R0:=Za I0
 have H0:K (∀(l:List Nat)(a:Option Addr)(c:Nat)(W:C),Below w0.heap.size w0 W->w0.ownsRow (Bb+1) 3 1 (P a l.length c) l.length (Zg l)->0<l.length->l.length<=4000->(∀x,x∈l->x<1000000000)->R E 108 #[P a l.length c] W fun e w'=>e=H (U (ZV (Y6 (l.map Z6))))/\F0 W w'):=
  fun l a c W hW ho h0 hl hx=>QB W (Bb+1) _ l (oF (S:=fun _=>False) ho (Fr.of_below hW) (by simp)) h0 hl hx (I0 W hW)
 have j0:K (∀W,Below w0.heap.size w0 W->R E 109 #[D (Y ⟨Bb,0,V⟩),Mm nm rk k lo r ma g.length mc f u v ca i.length cc dc ch pa ps.length pc ah] W fun e w'=>e=H (U (ZV (OS dc ch (ps.map (Z1 T)))))/\F0 W w'):=fun W hW=>by
  have hF:F0 w0 W:=Fr.of_below hW;exact Pr W Bb vr T (Bb+1) ps nm rk k lo r ma g.length mc f u v ca i.length cc dc ch pa pc ah ((hF.cell (p:=⟨Bb,0,V⟩) (bL w0 _ J0) (by simp)).trans J0) (oF Q0 hF (by simp)) (oF hp hF (by simp)) B0.1 B0.2 K0 h6
 have HM:=Za hm;have HC:=Za hc;have S0:=Za z0;have T0:=Za A0
 have V0:K (∀x,x∈ps.map (Z1 T)->x.length<=3000):=fun x hx=>by
  obtain⟨p,hp,rfl⟩:=L.1 hx;unfold Z1
  cases hq:T[p]? with
  |none=>simp
  |some t=>have:=K0 t (mG hq);simpa using this
 have W0:(ZV (OS dc ch (ps.map (Z1 T)))).size<=13000000:=by
  have h1:=V1 (ps.map (Z1 T)) 3000 V0.o;rw[N]at h1;have h2:ps.length*(3000+2)<=4000*3002:=z5 B0.1 (by omega);rw[XE];unfold OS
  cases dc<;>cases ch<;>simp<;>omega
 have X0:(ZV (Y6 (g.map Z6))).size<=100000:=by
  have h1:=V1 (g.map Z6) 21 (fun x hx=>by obtain⟨y,hy,rfl⟩:=L.1 hx;exact Xn y (z0.2 y hy));rw[N]at h1;rw[XE];omega
 have Y0:(ZV (Y6 (i.map Z6))).size<=100000:=by
  have h1:=V1 (i.map Z6) 21 (fun x hx=>by obtain⟨y,hy,rfl⟩:=L.1 hx;exact Xn y (A0.2 y hy));rw[N]at h1;rw[XE];omega
 have g1:(ZV (Z6 rk)).size<=21:=Xn _ L0;have Z0:(ZV (Z6 u)).size<=21:=Xn _ m0.1;have a1:(ZV (Z6 v)).size<=21:=Xn _ m0.2
 have i1:(ZV (Tf lo k)).size<=9:=by rw[XE,RY _ _ x0.2];exact k0
 have j1:(ZV (Tf r k)).size<=9:=by rw[XE,RY _ _ y0.2];exact k0
 have b1:=Za O0;have n0:=Za P0;have K1:=Za L0;have L1:=Za m0.1;have M1:=Za m0.2;have N1:K (lo<1000000000/\k<=9/\(Z6 lo).length<=k):=⟨x0.1,k0,x0.2⟩;have O1:K (r<1000000000/\k<=9/\(Z6 r).length<=k):=⟨y0.1,k0,y0.2⟩;have m1:=z0.1;have n1:=A0.1;obtain⟨w,C0⟩:∃w,g.length=w:=⟨_,rfl⟩;obtain⟨z,D0⟩:∃z,i.length=z:=⟨_,rfl⟩;obtain⟨pn,M0⟩:∃pn,ps.length=pn:=⟨_,rfl⟩;have o0:=Za C0;have p0:=Za D0;rw[C0]at HM j0 m1;rw[D0]at HC j0 n1;rw[M0]at j0;rw[C0,D0,M0];clear O0 P0 I0 J0 Q0 h6 K0 hm hc hp z0 A0 m0 B0 x0 y0 k0 L0 C0 D0 M0;go_enter Tryz.func60,Tryz.ntmps60;go_upto_region 1 with fail
 have B:K (Wr w0 w0.heap.size b l0 W.heap.size (O #[U nm,I J (rk:Nat),I J (k:Nat),I J (lo:Nat),I J (r:Nat),P ma w mc,Z f,I J (u:Nat),I J (v:Nat),P ca z cc,Z dc,Z ch,P pa pn pc,I J (ah:Nat)] 120) (W.alloc (O #[U nm,I J (rk:Nat),I J (k:Nat),I J (lo:Nat),I J (r:Nat),P ma w mc,Z f,I J (u:Nat),I J (v:Nat),P ca z cc,Z dc,Z ch,P pa pn pc,I J (ah:Nat)] 120))):=
  ⟨b1.o.fr ((Fr.refl _ _).alloc _),n0.o.trans (((Fr.refl (fun _=>False) W).alloc _).below n0.o.size (by simp)),z8 n0.o.size (by simp),aN W _,KB (n0.o.trans (((Fr.refl (fun _=>False) W).alloc _).below n0.o.size (by simp)))⟩
 have o1:K (W.heap.size≠b):=by have:=b1.o.lt.2;show _≠_;omega
 generalize W.alloc (O #[U nm,I J (rk:Nat),I J (k:Nat),I J (lo:Nat),I J (r:Nat),P ma w mc,Z f,I J (u:Nat),I J (v:Nat),P ca z cc,Z dc,Z ch,P pa pn pc,I J (ah:Nat)] 120)=W1 at*;generalize W.heap.size=X at*
 have e0:K (∀l W,Wr w0 w0.heap.size b l X (O #[U nm,I J (rk:Nat),I J (k:Nat),I J (lo:Nat),I J (r:Nat),P ma w mc,Z f,I J (u:Nat),I J (v:Nat),P ca z cc,Z dc,Z ch,P pa pn pc,I J (ah:Nat)] 120) W->W.cell? ⟨X,0,V⟩=Y (U nm)/\W.cell? ⟨X,1,V⟩=Y (I J (rk:Nat))/\W.cell? ⟨X,2,V⟩=Y (I J (k:Nat))/\W.cell? ⟨X,3,V⟩=Y (I J (lo:Nat))/\W.cell? ⟨X,4,V⟩=Y (I J (r:Nat))/\W.cell? ⟨X,5,V⟩=Y (P ma w mc)/\W.cell? ⟨X,6,V⟩=Y (Z f)/\W.cell? ⟨X,7,V⟩=Y (I J (u:Nat))/\W.cell? ⟨X,8,V⟩=Y (I J (v:Nat))/\W.cell? ⟨X,9,V⟩=Y (P ca z cc)/\W.cell? ⟨X,10,V⟩=Y (Z dc)/\W.cell? ⟨X,11,V⟩=Y (Z ch)/\W.cell? ⟨X,12,V⟩=Y (P pa pn pc)/\W.cell? ⟨X,13,V⟩=Y (I J (ah:Nat))):=fun l W h=>⟨bC h.ob 0 _ rfl,bC h.ob 1 _ rfl,bC h.ob 2 _ rfl,bC h.ob 3 _ rfl,bC h.ob 4 _ rfl,bC h.ob 5 _ rfl,bC h.ob 6 _ rfl,bC h.ob 7 _ rfl,bC h.ob 8 _ rfl,bC h.ob 9 _ rfl,bC h.ob 10 _ rfl,bC h.ob 11 _ rfl,bC h.ob 12 _ rfl,bC h.ob 13 _ rfl⟩
 have HI:K (∀(l:List UInt8)(m:Nat)(W:C),K (m<1000000000)->K (Wr w0 w0.heap.size b l X (O #[U nm,I J (rk:Nat),I J (k:Nat),I J (lo:Nat),I J (r:Nat),P ma w mc,Z f,I J (u:Nat),I J (v:Nat),P ca z cc,Z dc,Z ch,P pa pn pc,I J (ah:Nat)] 120) W)->R E 106 #[I J (m:Int)] W fun e w'=>e=H (U (ZV (Z6 m)))/\K (Wr w0 w0.heap.size b l X (O #[U nm,I J (rk:Nat),I J (k:Nat),I J (lo:Nat),I J (r:Nat),P ma w mc,Z f,I J (u:Nat),I J (v:Nat),P ca z cc,Z dc,Z ch,P pa pn pc,I J (ah:Nat)] 120) w')/\w'.cell? ⟨X,0,V⟩=Y (U nm)/\w'.cell? ⟨X,1,V⟩=Y (I J (rk:Nat))/\w'.cell? ⟨X,2,V⟩=Y (I J (k:Nat))/\w'.cell? ⟨X,3,V⟩=Y (I J (lo:Nat))/\w'.cell? ⟨X,4,V⟩=Y (I J (r:Nat))/\w'.cell? ⟨X,5,V⟩=Y (P ma w mc)/\w'.cell? ⟨X,6,V⟩=Y (Z f)/\w'.cell? ⟨X,7,V⟩=Y (I J (u:Nat))/\w'.cell? ⟨X,8,V⟩=Y (I J (v:Nat))/\w'.cell? ⟨X,9,V⟩=Y (P ca z cc)/\w'.cell? ⟨X,10,V⟩=Y (Z dc)/\w'.cell? ⟨X,11,V⟩=Y (Z ch)/\w'.cell? ⟨X,12,V⟩=Y (P pa pn pc)/\w'.cell? ⟨X,13,V⟩=Y (I J (ah:Nat))):=
  fun l m W hm hZ=>(hZ.o.itoa R0.o m hm.o).mono fun e w' ⟨he,hz⟩=>⟨he,hz,e0.o _ _ hz⟩
 have p1:K (∀(l:List UInt8)(m d:Nat)(W:C),K (m<1000000000/\d<=9/\(Z6 m).length<=d)->K (Wr w0 w0.heap.size b l X (O #[U nm,I J (rk:Nat),I J (k:Nat),I J (lo:Nat),I J (r:Nat),P ma w mc,Z f,I J (u:Nat),I J (v:Nat),P ca z cc,Z dc,Z ch,P pa pn pc,I J (ah:Nat)] 120) W)->R E 107 #[I J (m:Int),I J (d:Int)] W fun e w'=>e=H (U (ZV (Tf m d)))/\K (Wr w0 w0.heap.size b l X (O #[U nm,I J (rk:Nat),I J (k:Nat),I J (lo:Nat),I J (r:Nat),P ma w mc,Z f,I J (u:Nat),I J (v:Nat),P ca z cc,Z dc,Z ch,P pa pn pc,I J (ah:Nat)] 120) w')/\w'.cell? ⟨X,0,V⟩=Y (U nm)/\w'.cell? ⟨X,1,V⟩=Y (I J (rk:Nat))/\w'.cell? ⟨X,2,V⟩=Y (I J (k:Nat))/\w'.cell? ⟨X,3,V⟩=Y (I J (lo:Nat))/\w'.cell? ⟨X,4,V⟩=Y (I J (r:Nat))/\w'.cell? ⟨X,5,V⟩=Y (P ma w mc)/\w'.cell? ⟨X,6,V⟩=Y (Z f)/\w'.cell? ⟨X,7,V⟩=Y (I J (u:Nat))/\w'.cell? ⟨X,8,V⟩=Y (I J (v:Nat))/\w'.cell? ⟨X,9,V⟩=Y (P ca z cc)/\w'.cell? ⟨X,10,V⟩=Y (Z dc)/\w'.cell? ⟨X,11,V⟩=Y (Z ch)/\w'.cell? ⟨X,12,V⟩=Y (P pa pn pc)/\w'.cell? ⟨X,13,V⟩=Y (I J (ah:Nat))):=
  fun l m d W hm hZ=>(Ir m d W (R0.o W hZ.o.be) hm.o.1 hm.o.2.1 hm.o.2.2).mono fun e w' ⟨he,hf⟩=>⟨he,hZ.o.fr hf,e0.o _ _ (hZ.o.fr hf)⟩
 have HW:K (∀(l:List UInt8)(s:ByteArray)(W:C),K (Wr w0 w0.heap.size b l X (O #[U nm,I J (rk:Nat),I J (k:Nat),I J (lo:Nat),I J (r:Nat),P ma w mc,Z f,I J (u:Nat),I J (v:Nat),P ca z cc,Z dc,Z ch,P pa pn pc,I J (ah:Nat)] 120) W)->l.length<=1100000000->s.size<=20000000->R E 105 #[D (Y ⟨b,0,V⟩),U s] W fun e w'=>e=H (.tuple #[I J s.size,.nilIface])/\K (Wr w0 w0.heap.size b (l++s.data.toList) X (O #[U nm,I J (rk:Nat),I J (k:Nat),I J (lo:Nat),I J (r:Nat),P ma w mc,Z f,I J (u:Nat),I J (v:Nat),P ca z cc,Z dc,Z ch,P pa pn pc,I J (ah:Nat)] 120) w')/\w'.cell? ⟨X,0,V⟩=Y (U nm)/\w'.cell? ⟨X,1,V⟩=Y (I J (rk:Nat))/\w'.cell? ⟨X,2,V⟩=Y (I J (k:Nat))/\w'.cell? ⟨X,3,V⟩=Y (I J (lo:Nat))/\w'.cell? ⟨X,4,V⟩=Y (I J (r:Nat))/\w'.cell? ⟨X,5,V⟩=Y (P ma w mc)/\w'.cell? ⟨X,6,V⟩=Y (Z f)/\w'.cell? ⟨X,7,V⟩=Y (I J (u:Nat))/\w'.cell? ⟨X,8,V⟩=Y (I J (v:Nat))/\w'.cell? ⟨X,9,V⟩=Y (P ca z cc)/\w'.cell? ⟨X,10,V⟩=Y (Z dc)/\w'.cell? ⟨X,11,V⟩=Y (Z ch)/\w'.cell? ⟨X,12,V⟩=Y (P pa pn pc)/\w'.cell? ⟨X,13,V⟩=Y (I J (ah:Nat))):=
  fun l s W hZ hl hs=>(hZ.o.write s (by omega) o1.o (by decide)).mono fun e w' ⟨he,hz⟩=>⟨he,hz,e0.o _ _ hz⟩
 have c1:=Za (B.o.fr (Fr.refl _ _).drew);have hS:=e0.o _ _ B.o;clear B;obtain⟨y1,b0,z1,k1⟩:=XF ⟨#[114,117,108,101,32]⟩ nm 5 3000 (by decide) f1 (by omega);obtain⟨y2,d0,z2,k2⟩:=XF y1 ⟨#[32]⟩ _ 1 z1 (by decide) (by omega);obtain⟨y3,f0,z3,k3⟩:=XF y2 (ZV (Z6 rk)) _ 21 z2 g1 (by omega);obtain⟨y4,d1,z4,k4⟩:=XF y3 ⟨#[58]⟩ _ 1 z3 (by decide) (by omega)
 go_region_held3 (fun W=>W.cell? ⟨X,0,V⟩=Y (U nm)/\W.cell? ⟨X,1,V⟩=Y (I J (rk:Nat))/\W.cell? ⟨X,2,V⟩=Y (I J (k:Nat))/\W.cell? ⟨X,3,V⟩=Y (I J (lo:Nat))/\W.cell? ⟨X,4,V⟩=Y (I J (r:Nat))/\W.cell? ⟨X,5,V⟩=Y (P ma w mc)/\W.cell? ⟨X,6,V⟩=Y (Z f)/\W.cell? ⟨X,7,V⟩=Y (I J (u:Nat))/\W.cell? ⟨X,8,V⟩=Y (I J (v:Nat))/\W.cell? ⟨X,9,V⟩=Y (P ca z cc)/\W.cell? ⟨X,10,V⟩=Y (Z dc)/\W.cell? ⟨X,11,V⟩=Y (Z ch)/\W.cell? ⟨X,12,V⟩=Y (P pa pn pc)/\W.cell? ⟨X,13,V⟩=Y (I J (ah:Nat))) (first|assumption|go_keep) (first
  |(go_at_call 106;refine(HI.o _ _ _ (by assumption) (by assumption)).mono ?_;rintro e w7 ⟨rfl,E0,a0⟩)
  |(go_at_call 105;refine(HW.o _ _ _ (by assumption) (by omega) (by omega)).mono ?_;rintro e w7 ⟨rfl,q,a0⟩))
 have n:K (y4.data.toList=Bj nm rk):=by
  show _=_
  rw[d1.o,f0.o,d0.o,b0.o];simp[Bj,ZV]
 obtain⟨l1,G0⟩:∃l1,l1=l0++y4.data.toList:=⟨_,rfl⟩
 have E1:l1.length<=1000010000:=by
  rw[G0,lA];have:y4.data.toList.length=y4.size:=(by simp);omega
 rw[<-G0]at q
 have q1:K (l1=l0++Bj nm rk):=by show _=_;rw[G0,n.o]
 have B:=q;clear G0 a0 hS k1 k2 k3 k4 z1 z2 z3 z4 b0 d0 f0 d1 n q
 try clear E0
 generalize w7=W2 at*;go_upto_region 2 with fail;have c1:=Za (B.o.fr (Fr.refl _ _).drew);have hS:=e0.o _ _ B.o;clear B;obtain⟨y1,b0,z1,k1⟩:=XF ⟨#[32,98,105,110,32]⟩ (ZV (Tf lo k)) 5 9 (by decide) i1 (by omega);obtain⟨y2,d0,z2,k2⟩:=XF y1 ⟨#[46,46]⟩ _ 2 z1 (by decide) (by omega);obtain⟨y3,f0,z3,k3⟩:=XF y2 (ZV (Tf r k)) _ 9 z2 j1 (by omega)
 go_region_held3 (fun W=>W.cell? ⟨X,0,V⟩=Y (U nm)/\W.cell? ⟨X,1,V⟩=Y (I J (rk:Nat))/\W.cell? ⟨X,2,V⟩=Y (I J (k:Nat))/\W.cell? ⟨X,3,V⟩=Y (I J (lo:Nat))/\W.cell? ⟨X,4,V⟩=Y (I J (r:Nat))/\W.cell? ⟨X,5,V⟩=Y (P ma w mc)/\W.cell? ⟨X,6,V⟩=Y (Z f)/\W.cell? ⟨X,7,V⟩=Y (I J (u:Nat))/\W.cell? ⟨X,8,V⟩=Y (I J (v:Nat))/\W.cell? ⟨X,9,V⟩=Y (P ca z cc)/\W.cell? ⟨X,10,V⟩=Y (Z dc)/\W.cell? ⟨X,11,V⟩=Y (Z ch)/\W.cell? ⟨X,12,V⟩=Y (P pa pn pc)/\W.cell? ⟨X,13,V⟩=Y (I J (ah:Nat))) (first|assumption|go_keep) (first
  |(go_at_call 107;refine(p1.o _ _ _ _ (by assumption) (by assumption)).mono ?_;rintro e w7 ⟨rfl,E0,a0⟩)
  |(go_at_call 105;refine(HW.o _ _ _ (by assumption) (by omega) (by omega)).mono ?_;rintro e w7 ⟨rfl,q,a0⟩))
 have n:K (y3.data.toList=Bl k lo r):=by
  show _=_
  rw[f0.o,d0.o,b0.o];simp[Bl,ZV]
 obtain⟨l2,j⟩:∃ln,ln=l1++y3.data.toList:=⟨_,rfl⟩
 have F1:l2.length<=1000020000:=by
  rw[j,lA];have:y3.data.toList.length=y3.size:=(by simp);omega
 rw[<-j]at q
 have r1:K (l2=l1++Bl k lo r):=by show _=_;rw[j,n.o]
 have B:=q;clear j a0 hS n q k1 z1 b0 k2 z2 d0 k3 z3 f0
 try clear E0
 generalize w7=W3 at*
 have q0:K (∀W,Below w0.heap.size w0 W->0<w->R E 108 #[P ma w mc] W fun e w'=>e=H (U (ZV (Y6 (g.map Z6))))/\F0 W w'):=fun W hW h0=>by
  have e:=H0.o g ma mc W hW (by rw[o0.o];exact HM.o) (by rw[o0.o];exact h0) S0.o.1 S0.o.2;rw[o0.o]at e;exact e
 obtain⟨bm,g0⟩:∃bm,decide (0<w)=bm:=⟨_,rfl⟩
 have r0:decide ((0:Int)<(w:Int))=bm:=by rw[<-g0];by_cases hq:0<w<;>simp[hq]<;>omega
 have i0:=Za g0;have t0:W3.cell? ⟨X,5,V⟩=Y (P ma w mc):=bC B.o.ob 5 _ rfl
 go_upto_if 37 with fail
 clear g0 r0
 go_cut [] (fun wx=>K (Wr w0 w0.heap.size b (l2++gJ [109,99,99] g) X (O #[U nm,I J (rk:Nat),I J (k:Nat),I J (lo:Nat),I J (r:Nat),P ma w mc,Z f,I J (u:Nat),I J (v:Nat),P ca z cc,Z dc,Z ch,P pa pn pc,I J (ah:Nat)] 120) wx))
 case first=>
  cases bm with
  |true=>
   have h0:0<w:=by have:=i0.o;simpa using this
   obtain⟨y1,b0,z1,k1⟩:=XF ⟨#[32,109,99,99,32]⟩ (ZV (Y6 (g.map Z6))) 5 100000 (by decide) X0 (by omega);go_wp2_with fail;refine(q0.o _ B.o.be h0).mono ?_;rintro e w4 ⟨rfl,hf⟩;have v0:=Za (B.o.fr hf);clear hf t0;go_wp2_with fail;refine(HW.o _ _ _ v0 (by omega) (by omega)).mono ?_;rintro e w5 ⟨rfl,q,a0⟩
   have n:K (y1.data.toList=gJ [109,99,99] g):=by
    show _=_
    have N0:¬g=[]:=fun e=>by have:=o0.o;rw[e]at this;simp at this;omega
    rw[b0.o];simp[gJ,ZV,N0]
   clear a0;go_wp2_with fail;go_meet
   case rel=>
    show Wr _ _ _ _ _ _ _
    have e:=q.o;rw[n.o]at e;exact e
  |false=>
   have h0:¬0<w:=by have:=i0.o;simpa using this
   have n:K (gJ [109,99,99] g=[]):=by
    show _=_
    have he:g=[]:=F.1 (by have:=o0.o;omega);rw[he];rfl
   go_wp2_with fail;go_meet
   case rel=>
    show Wr _ _ _ _ _ _ _
    rw[n.o,Q];exact B.o
 case rest=>
  have c0:=hcut;clear hcut B q0 i0 t0;obtain⟨l3,j⟩:∃ln,ln=l2++gJ [109,99,99] g:=⟨_,rfl⟩
  have G1:l3.length<=1000300000:=by
   rw[j,lA]
   have hg:(gJ [109,99,99] g).length<=200000:=by
    unfold gJ
    split
    ·simp
    ·rw[XE]at X0;simp only[M,G,A];omega
   omega
  rw[<-j]at c0;have B:=c0;have t1:=Za j;clear j c0;have e1:wc.cell? ⟨X,6,V⟩=Y (Z f):=bC B.o.ob 6 _ rfl;generalize wc=W4 at*
  go_upto_if 45 with fail
  go_cut [] (fun wx=>K (Wr w0 w0.heap.size b (l3++Fu f u v) X (O #[U nm,I J (rk:Nat),I J (k:Nat),I J (lo:Nat),I J (r:Nat),P ma w mc,Z f,I J (u:Nat),I J (v:Nat),P ca z cc,Z dc,Z ch,P pa pn pc,I J (ah:Nat)] 120) wx))
  case first=>
   cases f with
   |true=>
    clear e1;go_upto_region 6 with fail;have c1:=Za (B.o.fr (Fr.refl _ _).drew);have hS:=e0.o _ _ B.o;clear B;obtain⟨y1,b0,z1,k1⟩:=XF ⟨#[32,97,109,111,117,110,116,32]⟩ (ZV (Z6 u)) 8 21 (by decide) Z0 (by omega);obtain⟨y2,d0,z2,k2⟩:=XF y1 ⟨#[46,46]⟩ _ 2 z1 (by decide) (by omega);obtain⟨y3,f0,z3,k3⟩:=XF y2 (ZV (Z6 v)) _ 21 z2 a1 (by omega)
    go_region_held3 (fun W=>W.cell? ⟨X,0,V⟩=Y (U nm)/\W.cell? ⟨X,1,V⟩=Y (I J (rk:Nat))/\W.cell? ⟨X,2,V⟩=Y (I J (k:Nat))/\W.cell? ⟨X,3,V⟩=Y (I J (lo:Nat))/\W.cell? ⟨X,4,V⟩=Y (I J (r:Nat))/\W.cell? ⟨X,5,V⟩=Y (P ma w mc)/\W.cell? ⟨X,6,V⟩=Y (Z true)/\W.cell? ⟨X,7,V⟩=Y (I J (u:Nat))/\W.cell? ⟨X,8,V⟩=Y (I J (v:Nat))/\W.cell? ⟨X,9,V⟩=Y (P ca z cc)/\W.cell? ⟨X,10,V⟩=Y (Z dc)/\W.cell? ⟨X,11,V⟩=Y (Z ch)/\W.cell? ⟨X,12,V⟩=Y (P pa pn pc)/\W.cell? ⟨X,13,V⟩=Y (I J (ah:Nat))) (first|assumption|go_keep) (first
     |(go_at_call 106;refine(HI.o _ _ _ (by assumption) (by assumption)).mono ?_;rintro e w7 ⟨rfl,E0,a0⟩)
     |(go_at_call 105;refine(HW.o _ _ _ (by assumption) (by omega) (by omega)).mono ?_;rintro e w7 ⟨rfl,q,a0⟩))
    have n:K (y3.data.toList=Fu true u v):=by
     show _=_
     rw[f0.o,d0.o,b0.o];simp[Fu,ZV]
    clear a0;go_wp2_with fail;go_meet
    case rel=>
     show Wr _ _ _ _ _ _ _
     have e:=q.o;rw[n.o]at e;exact e
   |false=>
    go_wp2_with fail;go_meet
    case rel=>
     show Wr _ _ _ _ _ _ _
     rw[show Fu false u v=[]from rfl,Q];exact B.o
  case rest=>
   have c0:=hcut;clear hcut B e1;obtain⟨l4,j⟩:∃ln,ln=l3++Fu f u v:=⟨_,rfl⟩
   have H1:l4.length<=1000400000:=by
    rw[j,lA]
    have hg:(Fu f u v).length<=100:=by
     unfold Fu;rw[XE]at Z0 a1
     split
     ·simp only[M,G,A];omega
     ·simp
    omega
   rw[<-j]at c0;have B:=c0;have v1:=Za j;clear j c0;generalize wc=W5 at*
   have q0:K (∀W,Below w0.heap.size w0 W->0<z->R E 108 #[P ca z cc] W fun e w'=>e=H (U (ZV (Y6 (i.map Z6))))/\F0 W w'):=fun W hW h0=>by
    have e:=H0.o i ca cc W hW (by rw[p0.o];exact HC.o) (by rw[p0.o];exact h0) T0.o.1 T0.o.2;rw[p0.o]at e;exact e
   obtain⟨bm,g0⟩:∃bm,decide (0<z)=bm:=⟨_,rfl⟩
   have r0:decide ((0:Int)<(z:Int))=bm:=by rw[<-g0];by_cases hq:0<z<;>simp[hq]<;>omega
   have i0:=Za g0;have t0:W5.cell? ⟨X,9,V⟩=Y (P ca z cc):=bC B.o.ob 9 _ rfl
   go_upto_if 62 with fail
   clear g0 r0
   go_cut [] (fun wx=>K (Wr w0 w0.heap.size b (l4++gJ [99,117,114] i) X (O #[U nm,I J (rk:Nat),I J (k:Nat),I J (lo:Nat),I J (r:Nat),P ma w mc,Z f,I J (u:Nat),I J (v:Nat),P ca z cc,Z dc,Z ch,P pa pn pc,I J (ah:Nat)] 120) wx))
   case first=>
    cases bm with
    |true=>
     have h0:0<z:=by have:=i0.o;simpa using this
     obtain⟨y1,b0,z1,k1⟩:=XF ⟨#[32,99,117,114,32]⟩ (ZV (Y6 (i.map Z6))) 5 100000 (by decide) Y0 (by omega);go_wp2_with fail;refine(q0.o _ B.o.be h0).mono ?_;rintro e w4 ⟨rfl,hf⟩;have v0:=Za (B.o.fr hf);clear hf t0;go_wp2_with fail;refine(HW.o _ _ _ v0 (by omega) (by omega)).mono ?_;rintro e w5 ⟨rfl,q,a0⟩
     have n:K (y1.data.toList=gJ [99,117,114] i):=by
      show _=_
      have N0:¬i=[]:=fun e=>by have:=p0.o;rw[e]at this;simp at this;omega
      rw[b0.o];simp[gJ,ZV,N0]
     clear a0;go_wp2_with fail;go_meet
     case rel=>
      show Wr _ _ _ _ _ _ _
      have e:=q.o;rw[n.o]at e;exact e
    |false=>
     have h0:¬0<z:=by have:=i0.o;simpa using this
     have n:K (gJ [99,117,114] i=[]):=by
      show _=_
      have he:i=[]:=F.1 (by have:=p0.o;omega);rw[he];rfl
     go_wp2_with fail;go_meet
     case rel=>
      show Wr _ _ _ _ _ _ _
      rw[n.o,Q];exact B.o
   case rest=>
    have c0:=hcut;clear hcut B q0 i0 t0;obtain⟨l5,j⟩:∃ln,ln=l4++gJ [99,117,114] i:=⟨_,rfl⟩
    have I1:l5.length<=1000700000:=by
     rw[j,lA]
     have hg:(gJ [99,117,114] i).length<=200000:=by
      unfold gJ
      split
      ·simp
      ·rw[XE]at Y0;simp only[M,G,A];omega
     omega
    rw[<-j]at c0;have B:=c0;have w1:=Za j;clear j c0;generalize wc=W6 at*;obtain⟨y1,b0,z1,k1⟩:=XF ⟨#[32,45,62,32]⟩ (ZV (OS dc ch (ps.map (Z1 T)))) 4 13000000 (by decide) W0 (by omega);obtain⟨y2,d0,z2,k2⟩:=XF y1 ⟨#[59,10]⟩ _ 2 z1 (by decide) (by omega);obtain⟨s0,s1,s2,s3,s4,s5,s6,s7,s8,s9,x1,A1,B1,C1⟩:=e0.o _ _ B.o;have D1:=Za (j0.o W6 B.o.be);go_wp2_with fail;refine D1.o.mono ?_;rintro e w4 ⟨rfl,hf⟩;have v0:=Za (B.o.fr hf);clear hf s0 s1 s2 s3 s4 s5 s6 s7 s8 s9 x1 A1 B1 C1;go_wp2_with fail;refine(HW.o _ _ _ v0 (by omega) (by omega)).mono ?_;rintro e w5 ⟨rfl,q,a0⟩
    have n:K (y2.data.toList=Bm dc ch (ps.map (Z1 T))):=by
     show _=_
     rw[d0.o,b0.o];simp[Bm,ZV]
    clear a0;go_wp2_with fail
    go_end0
    refine⟨rfl,?_,q.o.be⟩;have e:=q.o.bd;rw[n.o,w1.o,v1.o,t1.o,r1.o,q1.o]at e
    simpa using e
theorem U1.get {base:Nat}{w:C}:∀{rs:List Zc}{a:List y7}{j:Nat}{r:Zc},U1 base w rs a->rs[j]?=Y r->∃c,FY base w r c/\c.length=14/\∀o v,c[o]?=Y v->a[j*14+o]?=Y v
 |[],_,j,_,_,hj=>by simp at hj
 |r::rs,a,0,r',⟨c,rest,e,h1,h2⟩,hj=>by
  simp at hj;subst hj
  have l:c.length=14:=by obtain⟨f,g,h,d,_⟩:=h1;rw[d];rfl
  refine⟨c,h1,l,fun o v b=>?_⟩;have:=(iG.1 b).1;rw[e,Nat.zero_mul,z9,List.getElem?_append_left this];exact b
 |r::rs,a,j+1,r',⟨c,rest,e,h1,h2⟩,hj=>by
  obtain⟨i,k,m,n⟩:=U1.get h2 (j:=j) (r:=r') (by simpa using hj)
  have l:c.length=14:=by obtain⟨f,g,h,d,_⟩:=h1;rw[d];rfl
  refine⟨i,k,m,fun o v b=>?_⟩;rw[e,aR (by omega),l,show(j+1)*14+o-14=j*14+o from by omega];exact n o v b
theorem Rj {w:C}{base:Nat}{e:TypeId}{b:Nat}{a:Option Addr}{n m c:Nat}{f:List y7}(h:w.ownsRow base e b (P a n c) m f):m<=c:=by
 rcases h.2 with⟨d,j⟩|⟨g,cap,i,d,_,_,k,_⟩
 ·omega
 ·injection d with _ _ l;omega
theorem E5 (kw:Bs)(l:List Nat)(e:kw.length<=10)(f:l.length<=4000)(b:∀x,x∈l->x<1000000000):(gJ kw l).length<=93000:=by
 have c:=V1 (l.map Z6) 21 (fun x a=>by obtain⟨y,d,rfl⟩:=L.1 a;exact Xn y (b y d));rw[N]at c;unfold gJ
 split
 ·simp
 ·simp only[M,G];omega
theorem E6 {a:List Zd}{r:Zc}(h:UL a.length r)(b:∀t,t∈a->t.name.size<=3000):(Qq a r).length<=12300000:=by
 rw[OT];have i:=E5 [109,99,99] r.mcc (by simp) h.mc.1 h.mc.2;have j:=E5 [99,117,114] r.cur (by simp) h.cu.1 h.cu.2
 have k:r.name.data.toList.length=r.name.size:=by simp
 have n2:=h.nm;have l:=Xn _ h.rk;have m:=RY _ _ h.lo.2;have n:=RY _ _ h.hi.2;have o:=h.dg
 have q:(Fu r.am.isSome (r.am.getD (0,0)).1 (r.am.getD (0,0)).2).length<=60:=by
  cases c:r.am with
  |none=>simp[Fu]
  |some d=>
   have s:=Xn _ (h.am d c).1;have u:=Xn _ (h.am d c).2;simp[Fu];omega
 have v:(Bm r.decline r.cheapest (r.routes.map (Z1 a))).length<=12010000:=by
  have e:=V1 (r.routes.map (Z1 a)) 3000 (fun x f=>by
   obtain⟨p,w,rfl⟩:=L.1 f;unfold Z1
   cases g:a[p]? with
   |none=>simp
   |some t=>have:=b t (mG g);simpa using this)
  rw[N]at e;have y:r.routes.length*(3000+2)<=4000*3002:=z5 h.pl.1 (by omega);unfold Bm OS
  cases r.decline<;>cases r.cheapest<;>simp<;>omega
 unfold Bj Bl;simp only[M,G,A];omega
theorem Hn {w W:C}{r b m n:Nat}{i:Option Addr}{a:List Zd}(c:w.ownsRow (r+1) 148 3 (P i a.length n) a.length (YU a))(s:Below w.heap.size w W)(h:m<=a.length):
  Ft W w.heap.size (if n=b then i else Option.map (fun x=>x.add (b*3)) i) ((a.take m).drop b):=by
 intro j t d;rw[List.getElem?_drop,List.getElem?_take]at d
 split at d
 ·rename_i u
  have v:=Rj c;obtain⟨g,cap,e,D,f,_⟩:=Ub c (by omega);injection e with y _ E;subst y;obtain⟨z,A,B⟩:=U9 a (b+j) t d;have c1:=c.cells (g:=g) rfl _ _ z;have o:=c.cells (g:=g) rfl _ _ A;have q:=c.cells (g:=g) rfl _ _ B;rw[Ml,z9]at c1 o q;have k:F0 w W:=Fr.of_below s
  have l:b*3+j*3=(b+j)*3:=by omega
  refine⟨g,b*3,?_,f,?_,?_,?_⟩
  ·rw[if_neg (by omega)]
   simp[Ml]
  ·rw[l];exact(k.cell (p:=⟨g,(b+j)*3,V⟩) f (by simp)).trans c1
  ·rw[l];exact(k.cell (p:=⟨g,(b+j)*3+1,V⟩) f (by simp)).trans o
  ·rw[l];exact(k.cell (p:=⟨g,(b+j)*3+2,V⟩) f (by simp)).trans q
 ·cases d
theorem Wr.routes {w0:C}{B b:Nat}{l:List UInt8}{X:Nat}{j:Array y7}{T:TypeId}{W:C}(h:Wr w0 B b l X (O j T) W)(o:∀w',Below B w0 w'->QA w')(a:Option Addr)(n c:Nat)(d:List Zd)(p:n=d.length)(q:Ft W B a d)(f:∀t,t∈d->Nz t)(g:d.length<=6)(i:l.length<=100000000)(r:X≠b)(s:T≠5):
  R E 59 #[D (Y ⟨b,0,V⟩),P a n c] W fun e w'=>e=H (.tuple #[])/\Wr w0 B b (l++d.flatMap Uh) X (O j T) w':=by
 subst p
 exact(TI W B b l a c d h.le h.bd (fun w' u=>o w' (h.be.trans u)) q f g i).mono fun e w' ⟨v,w,k,m⟩=>⟨v,w,h.be.trans k,z8 h.le k.size,m X _ h.ob (by simpa using r) (fun c y e=>by injection e with _ x;exact s x),h.ok.trans m⟩
theorem Fv (w:C)(M:Nat)(vr vl:y7)(c:List Zd)(i:List Zc)(xs:List y7)(N:Bk w M vr vl c i xs)(ho:YE c i)(Q:QA w):
    R E 33 #[D (Y ⟨M,0,V⟩)] w fun e w'=>e=H (U (ZV (V8 c i)))/\F0 w w':=by
  have f0:K (∀w',Below w.heap.size w w'->QA w'):=fun w' h=>Q.below (z0 _) h
  have T:=Za N;have HO:=Za ho;obtain⟨la,lc,I0⟩:=oL N.lo;obtain⟨ra,A,J0⟩:=oL N.ro;subst I0 J0;have o0:=Za (bL w _ N.c0);obtain⟨n,hn⟩:∃n,i.length=n:=⟨_,rfl⟩;have HN:=Za hn;obtain⟨s,g0⟩:∃s,c.length=s:=⟨_,rfl⟩;have y:=Za g0;have c0:=N.c0;have c1:=N.c1;rw[g0]at c0;rw[hn]at c1
  have l1:n<=8:=by have:=N.l8;omega
  have m1:s<=6:=by have:=N.r6;omega
  clear N ho Q hn g0;go_enter Tryz.func33,Tryz.ntmps33;go_upto_region 2 with fail;have p0:K (F0 w (w.alloc (O #[D V,P V 0 0] 116))):=(Fr.refl _ _).alloc _;have q0:K (Bd (w.alloc (O #[D V,P V 0 0] 116)) w.heap.size w.heap.size []):=.inl ⟨z0 _,P V 0 0,heap_alloc_new w _,World.ownsRowF_nil _ _ _ _,by simp[Value.ownBlock]⟩;generalize w.alloc (O #[D V,P V 0 0] 116)=W0 at*;have r0:=Za (p0.o.below (z0 _) (by simp));obtain⟨b,hb⟩:∃b,w.heap.size=b:=⟨_,rfl⟩
  have K0:K (Bd W0 w.heap.size b []):=by rw[<-hb];exact q0.o
  rw[hb];clear q0 hb
  have h0:K (∀W,Below w.heap.size w W->W.cell? ⟨M,0,V⟩=Y (P ra s A)):=fun W hW=>(Fr.cell (S:=fun _=>False) (Fr.of_below hW) (p:=⟨M,0,V⟩) o0.o (by simp)).trans c0
  have d1:W0.cell? ⟨M,1,V⟩=Y (P la n lc):=(p0.o.cell (p:=⟨M,1,V⟩) o0.o (by simp)).trans c1;clear c0 c1;go_wp2_with fail
  go_loopg [4,6,12] n (fun m td _ ix wr=>∃k d l,k<=n/\m=n-k/\ix=I J (k:Nat)/\td=I J (d:Nat)/\d<=s/\l.length<=k*12400000/\K (Bd wr w.heap.size b l)/\K (Below w.heap.size w wr)/\K (V8 c i=l++XZ c d (i.drop k))/\K (GV d (i.drop k)))
  case atStart=>exact⟨0,0,[],y8 _,rfl,rfl,rfl,y8 _,by simp,K0,r0,rfl,HO.o.ah⟩
  case round=>
    obtain⟨k,d,l,N,rfl,rfl,rfl,n1,hl,i0,u,s0,t0⟩:=hrel;have c0:=h0.o wr u.o;by_cases o1:k<n
    · obtain⟨r,a0⟩:∃r,i[k]?=Y r:=⟨_,gE (by have:=HN.o;omega)⟩
      have q:=Za (HO.o.rl r (mG a0))
      have j0:K (i.drop k=r::i.drop (k+1)):=by
        show _=_
        have w0:=(iG.1 a0);rw[dC w0.1,w0.2]
      obtain⟨cs,⟨vm,vc,vp,A0,hm,hc,hp⟩,L0,B0⟩:=T.o.ru.get a0;obtain⟨gl,k1,el,p1,M0,_⟩:=Ub T.o.lo (by have:=HN.o;omega);injection el with N0 q1 O0;subst N0 O0;obtain⟨ma,mc,e1⟩:=oL hm;obtain⟨ca,cc,e2⟩:=oL hc;obtain⟨pa,pc,e3⟩:=oL hp;subst e1 e2 e3
      have a:∀o v,cs[o]?=Y v->wr.cell? ⟨gl,k*14+o,V⟩=Y v:=fun o v ho=>by
        have:=T.o.lo.cells (g:=gl) rfl _ _ (B0 o v ho);rw[Ml,z9]at this;exact(Fr.cell (S:=fun _=>False) (Fr.of_below u.o) (p:=⟨gl,k*14+o,V⟩) M0 (by simp)).trans this
      rw[A0]at a;have v0:=a 0 _ rfl;have v1:=a 1 _ rfl;have v2:=a 2 _ rfl;have v3:=a 3 _ rfl;have v4:=a 4 _ rfl;have v5:=a 5 _ rfl;have v6:=a 6 _ rfl;have v7:=a 7 _ rfl;have v8:=a 8 _ rfl;have v9:=a 9 _ rfl;have P0:=a 10 _ rfl;have Q0:=a 11 _ rfl;have R0:=a 12 _ rfl;have S0:=a 13 _ rfl;rw[Nat.add_zero]at v0
      have T0:(k:Int)<(n:Int):=by omega
      clear a B0 L0 A0 a0;go_upto_region 6 with fail;have C0:=Za u.o.size
      have HZ:K (Wr w w.heap.size b l wr.heap.size (O #[U r.name,I J r.rank,I J r.digits,I J r.lo,I J r.hi,P ma r.mcc.length mc,Z r.am.isSome,I J (r.am.getD (0,0)).1,I J (r.am.getD (0,0)).2,P ca r.cur.length cc,Z r.decline,Z r.cheapest,P pa r.routes.length pc,I J r.ahead] 120) (wr.alloc (O #[U r.name,I J r.rank,I J r.digits,I J r.lo,I J r.hi,P ma r.mcc.length mc,Z r.am.isSome,I J (r.am.getD (0,0)).1,I J (r.am.getD (0,0)).2,P ca r.cur.length cc,Z r.decline,Z r.cheapest,P pa r.routes.length pc,I J r.ahead] 120))):=
        ⟨i0.o.fr ((Fr.refl _ _).alloc _),u.o.trans (((Fr.refl (fun _=>False) wr).alloc _).below C0.o (by simp)),z8 C0.o (by simp),aN wr _,E3 (KB u.o) ((Fr.refl _ _).alloc _)⟩
      have V0:K (wr.heap.size≠b):=by have:=i0.o.lt.2;show _≠_;omega
      have r1:K (Mm r.name r.rank r.digits r.lo r.hi ma r.mcc.length mc r.am.isSome (r.am.getD (0,0)).1 (r.am.getD (0,0)).2 ca r.cur.length cc r.decline r.cheapest pa r.routes.length pc r.ahead=.agg #[U r.name,I J r.rank,I J r.digits,I J r.lo,I J r.hi,P ma r.mcc.length mc,Z r.am.isSome,I J (r.am.getD (0,0)).1,I J (r.am.getD (0,0)).2,P ca r.cur.length cc,Z r.decline,Z r.cheapest,P pa r.routes.length pc,I J r.ahead]):=rfl;obtain⟨j,b0⟩:∃j,j=r.ahead:=⟨_,rfl⟩;have k0:=Za b0
      have s1:d<=j:=by have:=t0.o;rw[j0.o]at this;rw[b0];exact this.1
      have t1:j<=s:=by have:=q.o.ah;have:=y.o;omega
      have X0:s<=A:=by have:=Rj T.o.ro;have:=y.o;omega
      have i1:(0:Int)<=(d:Int):=by omega
      have i2:(d:Int)<=(j:Int):=by omega
      have i3:(j:Int)<=(A:Int):=by omega
      generalize wr.alloc (O #[U r.name,I J r.rank,I J r.digits,I J r.lo,I J r.hi,P ma r.mcc.length mc,Z r.am.isSome,I J (r.am.getD (0,0)).1,I J (r.am.getD (0,0)).2,P ca r.cur.length cc,Z r.decline,Z r.cheapest,P pa r.routes.length pc,I J r.ahead] 120)=W1 at*;generalize wr.heap.size=X at*
      have Y0:W1.cell? ⟨X,13,V⟩=Y (I J (j:Nat)):=by rw[b0];exact bC HZ.o.ob 13 _ rfl
      have y0:=h0.o W1 HZ.o.be;clear v0 v1 v2 v3 v4 v5 v6 v7 v8 v9 P0 Q0 R0 S0 c0 b0
      have B:K (((c.take j).drop d).length=j-d):=by have:=y.o;show _=_;rw[y5,y6];omega
      have z:K (∀t,t∈(c.take j).drop d->Nz t):=fun t Q=>HO.o.rt t (z6 (z7 Q))
      obtain⟨aa,G⟩:∃aa,(if A=d then ra else Option.map (fun x=>x.add (d*3)) ra)=aa:=⟨_,rfl⟩
      have l0:K (∀W,Below w.heap.size w W->Ft W w.heap.size aa ((c.take j).drop d)):=fun W hW=>by rw[<-G];exact Hn T.o.ro hW (by have:=y.o;omega)
      have m0:K (∀W,K (Wr w w.heap.size b l X (O #[U r.name,I J r.rank,I J r.digits,I J r.lo,I J r.hi,P ma r.mcc.length mc,Z r.am.isSome,I J (r.am.getD (0,0)).1,I J (r.am.getD (0,0)).2,P ca r.cur.length cc,Z r.decline,Z r.cheapest,P pa r.routes.length pc,I J r.ahead] 120) W)->
          R E 59 #[D (Y ⟨b,0,V⟩),P aa (j-d) (A-d)] W fun e w'=>e=H (.tuple #[])/\K (Wr w w.heap.size b (l++((c.take j).drop d).flatMap Uh) X (O #[U r.name,I J r.rank,I J r.digits,I J r.lo,I J r.hi,P ma r.mcc.length mc,Z r.am.isSome,I J (r.am.getD (0,0)).1,I J (r.am.getD (0,0)).2,P ca r.cur.length cc,Z r.decline,Z r.cheapest,P pa r.routes.length pc,I J r.ahead] 120) w')/\(w'.cell? ⟨M,0,V⟩=Y (P ra s A)/\w'.cell? ⟨X,13,V⟩=Y (I J (j:Nat)))):=fun W hZ=>
        (hZ.o.routes f0.o _ _ _ _ B.o.symm (l0.o W hZ.o.be) z.o (by have:=B.o;omega) (by omega) V0.o (by decide)).mono fun e w' ⟨he,hz⟩=>⟨he,hz,h0.o _ hz.be,by rw[k0.o];exact bC hz.ob 13 _ rfl⟩
      have w1:=Za (HZ.o.fr (Fr.refl _ _).drew);clear HZ
      go_region_held3 (fun W=>W.cell? ⟨M,0,V⟩=Y (P ra s A)/\W.cell? ⟨X,13,V⟩=Y (I J (j:Nat))) (first|assumption|go_keep) (first
        |(go_at_call 59;refine(m0.o _ (by assumption)).mono ?_;rintro e w7 ⟨rfl,f,Z0⟩))
      have x0:=bC f.o.ob 0 _ rfl;have x1:=bC f.o.ob 1 _ rfl;have x2:=bC f.o.ob 2 _ rfl;have x3:=bC f.o.ob 3 _ rfl;have x4:=bC f.o.ob 4 _ rfl;have x5:=bC f.o.ob 5 _ rfl;have x6:=bC f.o.ob 6 _ rfl;have x7:=bC f.o.ob 7 _ rfl;have x8:=bC f.o.ob 8 _ rfl;have x9:=bC f.o.ob 9 _ rfl;have a1:=bC f.o.ob 10 _ rfl;have b1:=bC f.o.ob 11 _ rfl;have f1:=bC f.o.ob 12 _ rfl;obtain⟨_,D0⟩:=Z0
      have E0:K (l.length+(((c.take j).drop d).flatMap Uh).length+(Qq c r).length<=(k+1)*12400000):=by
        have h1:=Hm ((c.take j).drop d) z.o;have h2:=B.o;have h3:=E6 q.o (fun t Q=>(HO.o.rt t Q).1);have h4:((c.take j).drop d).length*3060<=6*3060:=z5 (by omega) (z0 _)
        show _<=_
        omega
      have g1:K (R E 60 #[D (Y ⟨M,0,V⟩),D (Y ⟨b,0,V⟩),.agg #[U r.name,I J r.rank,I J r.digits,I J r.lo,I J r.hi,P ma r.mcc.length mc,Z r.am.isSome,I J (r.am.getD (0,0)).1,I J (r.am.getD (0,0)).2,P ca r.cur.length cc,Z r.decline,Z r.cheapest,P pa r.routes.length pc,I J (j:Nat)]] w7 fun e w'=>e=H (.tuple #[])/\Bd w' w.heap.size b ((l++((c.take j).drop d).flatMap Uh)++Qq c r)/\Below w.heap.size w w'):=by
        have h:=NI w w7 b M (l++((c.take j).drop d).flatMap Uh) (P ra c.length A) c r.name r.rank r.digits r.lo r.hi r.mcc r.cur r.routes r.am.isSome (r.am.getD (0,0)).1 (r.am.getD (0,0)).2 r.decline r.cheapest j ma ca pa mc cc pc f.o.bd f.o.be f0.o T.o.c0 T.o.ro T.o.r6 (fun t Q=>(HO.o.rt t Q).1) hm hc hp q.o.nm q.o.rk q.o.dg q.o.lo q.o.hi q.o.mc q.o.cu
          (by cases ha:r.am with
            |none=>simp
            |some ab=>simpa using q.o.am ab ha) q.o.pl (by rw[lA];have:=E0.o;omega)
        rw[<-OT]at h;exact h
      clear G i1 i2 i3 hm hc hp Y0 y0;go_wp2_with fail;refine g1.o.mono ?_;rintro e w9 ⟨rfl,F,L⟩;have n0:=Za F;have d0:=Za L;clear F L x0 x1 x2 x3 x4 x5 x6 x7 x8 x9 a1 b1 f1 D0;go_wp2;go_roundg (n-(k+1))
      case measure=>omega
      case rel=>
        refine⟨k+1,j,(l++((c.take j).drop d).flatMap Uh)++Qq c r,by omega,rfl,by go_num,rfl,by omega,by(have:=E0.o;rw[lA,lA];omega),n0,d0,?_,?_⟩
        · show _=_
          rw[s0.o,j0.o,XZ,<-k0.o];simp only[List.append_assoc]
        · have e:=t0.o
          rw[j0.o]at e
          show GV _ _
          rw[k0.o];exact e.2
    · have T0:¬(k:Int)<(n:Int):=by omega
      have ek:k=n:=by omega
      obtain⟨aa,G⟩:∃aa,(if A=d then ra else Option.map (fun x=>x.add (d*3)) ra)=aa:=⟨_,rfl⟩
      have B:K (((c.take s).drop d).length=s-d):=by have:=y.o;show _=_;rw[y5,y6];omega
      have z:K (∀t,t∈(c.take s).drop d->Nz t):=fun t Q=>HO.o.rt t (z6 (z7 Q))
      have l0:K (Ft wr w.heap.size aa ((c.take s).drop d)):=by show Ft _ _ _ _;rw[<-G];exact Hn T.o.ro u.o (by have:=y.o;omega)
      have m0:K (R E 59 #[D (Y ⟨b,0,V⟩),P aa (s-d) (A-d)] wr fun e w'=>e=H (.tuple #[])/\Bd w' w.heap.size b (l++((c.take s).drop d).flatMap Uh)/\Below w.heap.size wr w'/\Lib.OthersKept 5 (Y b) wr w'):=by
        have h:=TI wr w.heap.size b l aa (A-d) ((c.take s).drop d) u.o.size i0.o (fun w' hw=>f0.o w' (u.o.trans hw)) l0.o z.o (by have:=B.o;omega) (by omega);rw[B.o]at h;exact h
      have G0:K (V8 c i=l++((c.take s).drop d).flatMap Uh):=by
        have e:=s0.o;rw[dL (by have:=HN.o;omega)]at e
        show _=_
        rw[e,List.take_of_length_le (by have:=y.o;omega)];rfl
      have X0:s<=A:=by have:=Rj T.o.ro;have:=y.o;omega
      have i1:(0:Int)<=(d:Int):=by omega
      have i2:(d:Int)<=(s:Int):=by omega
      have i3:(s:Int)<=(A:Int):=by omega
      clear ek;go_wp2_with fail;refine m0.o.mono ?_;rintro e w9 ⟨rfl,F,L,_⟩
      have n0:K (Bd w9 w.heap.size b (V8 c i)):=by rw[<-G0.o]at F;exact F
      have d0:=Za (u.o.trans L);clear F L G c0;go_wp2_with fail;refine(Ky w.heap.size b (V8 c i) w9 n0.o d0.o.size).mono ?_;rintro e j1 ⟨rfl,e0⟩;have H0:K (F0 w j1):=Fr.of_below (d0.o.trans e0);clear e0;go_wp2;go_ret;exact⟨rfl,H0.o⟩
