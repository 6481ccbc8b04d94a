import Derived.Test.YtccikgogjfbpeaaGreatDoorAe
import Derived.Maps.AppendAt
open Option renaming none->I,some->J
open Go.Value renaming int->Y,slice->U,string->G,bool->M,pointer->N,oneCell'->j2
open Go.IntKind renaming i64->Z,i64->j3
open Go.RowKit renaming Hid->K
open Go.Ending renaming returned->E
open Go.Proofs.Tryz renaming prog->D
open Go renaming World->R,Calls->L,Value->F
open List renaming length_cons->A,length_map->C,length_append->Q,take_of_length_le->z0,mem_map->z8,length_nil->z9,getD_eq_getElem?_getD->y8,take_add_one->y9,length_take->q0,length_eq_zero_iff->q4,append_nil->q5,mem_of_mem_take->q7,mem_of_mem_drop->q8,append_assoc->q9,length_drop->j0,cons_append->j1
open Int renaming natCast_add->z5
open Nat renaming le_trans->z6,zero_add->z7,le_refl->y6,zero_le->y7,mul_le_mul->q6
open Go.Obj renaming cells->y5
open Or renaming inl->q3
namespace Go.Proofs.YtccikgogjfbpeaaGreatDoor
set_option maxRecDepth 30000
set_option maxHeartbeats 8000000
open Go.RowKit
def vd (a:ByteArray)(rk:Nat):Bs:=[114,117,108,101,32]++(a.data.toList++(32::(Yb rk++[58])))
def vf (dg lo hi:Nat):Bs:=[32,98,105,110,32]++(TQ lo dg++(46::46::TQ hi dg))
def Cw (a:Bool)(b c:Nat):Bs:=if a then[32,97,109,111,117,110,116,32]++(Yb b++(46::46::Yb c))else[]
def vg (a b:Bool)(l:List Bs):Bs:=[32,45,62,32]++(NU a b l++[59,10])
theorem NV (rts r):PJ rts r=vd r.name r.rank++(vf r.digits r.lo r.hi++(gJ [109,99,99] r.mcc++(Cw r.am.isSome (r.am.getD (0,0)).1 (r.am.getD (0,0)).2++(gJ [99,117,114] r.cur++vg r.decline r.cheapest (r.routes.map (Z0 rts)))))):=by
 have e:Cw r.am.isSome (r.am.getD (0,0)).1 (r.am.getD (0,0)).2=aJ r.am:=by cases r.am<;>rfl
 rw[e];unfold PJ vd vf vg;rw[<-yT];simp
theorem QU (n d)(h:(Yb n).length<=d):(TQ n d).length=d:=by unfold TQ;rw[lA,List.length_replicate];omega
theorem LC (w0 W b Bb l0 vr rts nm)(rk dg lo hi:Nat)(f g B u)(P T:Nat)(dc ch)(ah:Nat)(ma ca pa mc cc pc)(V0:Bd W w0.heap.size b l0)(W0:Below w0.heap.size w0 W)(C0:∀w',Below w0.heap.size w0 w'->QS w')(D0:w0.cell? ⟨Bb,0,I⟩=J vr)(X0:w0.ownsRow (Bb+1) 148 3 vr rts.length (Yi rts))(h6:rts.length<=6)(E0:∀t,t∈rts->t.name.size<=3000)(hm:w0.ownsRow (Bb+1) 3 1 (U ma f.length mc) f.length (Zg f))(hc:w0.ownsRow (Bb+1) 3 1 (U ca g.length cc) g.length (Zg g))(hp:w0.ownsRow (Bb+1) 3 1 (U pa B.length pc) B.length (Zg B))(Y0:nm.size<=3000)(G0:rk<1000000000)(m0:dg<=9)(p0:lo<1000000000/\(Yb lo).length<=dg)(q0:hi<1000000000/\(Yb hi).length<=dg)(r0:f.length<=4000/\∀x,x∈f->x<1000000000)(t0:g.length<=4000/\∀x,x∈g->x<1000000000)(n0:P<1000000000/\T<1000000000)(v0:B.length<=4000/\∀x,x∈B->x<rts.length)(B1:l0.length<=1000000000):
  L D 60 #[N (J ⟨Bb,0,I⟩),N (J ⟨b,0,I⟩),Kj nm rk dg lo hi ma f.length mc u P T ca g.length cc dc ch pa B.length pc ah] W fun e w'=>e=E (.tuple #[])/\Bd w' w0.heap.size b (l0++(vd nm rk++(vf dg lo hi++(gJ [109,99,99] f++(Cw u P T++(gJ [99,117,114] g++vg dc ch (B.map (Z0 rts))))))))/\Below w0.heap.size w0 w':=by
 unfold Kj;have H0:=Za C0
 have o0:K (∀(l:List Nat)(a:Option Addr)(c:Nat)(W:R),Below w0.heap.size w0 W->w0.ownsRow (Bb+1) 3 1 (U a l.length c) l.length (Zg l)->0<l.length->l.length<=4000->(∀x,x∈l->x<1000000000)->L D 108 #[U a l.length c] W fun e w'=>e=E (G (ZR (Xd (l.map Yb))))/\F0 W w'):=
  fun l a c W hW ho h0 hl hx=>PM W (Bb+1) _ l (oF (S:=fun _=>False) ho (Fr.of_below hW)) h0 hl hx (C0 W hW)
 have a0:K (∀W,Below w0.heap.size w0 W->L D 109 #[N (J ⟨Bb,0,I⟩),Kj nm rk dg lo hi ma f.length mc u P T ca g.length cc dc ch pa B.length pc ah] W fun e w'=>e=E (G (ZR (NU dc ch (B.map (Z0 rts)))))/\F0 W w'):=fun W hW=>by
  have hF:F0 w0 W:=Fr.of_below hW;exact OL W Bb vr rts (Bb+1) B nm rk dg lo hi ma f.length mc u P T ca g.length cc dc ch pa pc ah ((hF.cell (p:=⟨Bb,0,I⟩) (bL w0 _ D0)).trans D0) (oF X0 hF) (oF hp hF) v0.1 v0.2 E0 h6
 have HM:=Za hm;have HC:=Za hc;have I0:=Za r0;have J0:=Za t0
 have K0:K (∀x,x∈B.map (Z0 rts)->x.length<=3000):=fun x hx=>by
  obtain⟨p,hp,rfl⟩:=z8.1 hx;unfold Z0
  cases hq:rts[p]? with
  |none=>simp
  |some t=>have:=E0 t (mG hq);simpa using this
 have L0:(ZR (NU dc ch (B.map (Z0 rts)))).size<=13000000:=by
  have h1:=Uk (B.map (Z0 rts)) 3000 K0.o;rw[C]at h1;have h2:B.length*(3000+2)<=4000*3002:=q6 v0.1 (by omega);rw[XN];unfold NU
  cases dc<;>cases ch<;>simp<;>omega
 have M0:(ZR (Xd (f.map Yb))).size<=100000:=by
  have h1:=Uk (f.map Yb) 21 (fun x hx=>by obtain⟨y,hy,rfl⟩:=z8.1 hx;exact Xu y (r0.2 y hy));rw[C]at h1;rw[XN];omega
 have N0:(ZR (Xd (g.map Yb))).size<=100000:=by
  have h1:=Uk (g.map Yb) 21 (fun x hx=>by obtain⟨y,hy,rfl⟩:=z8.1 hx;exact Xu y (t0.2 y hy));rw[C]at h1;rw[XN];omega
 have a1:=Xu _ G0;have O0:(ZR (Yb P)).size<=21:=Xu _ n0.1;have P0:(ZR (Yb T)).size<=21:=Xu _ n0.2
 have b1:(ZR (TQ lo dg)).size<=9:=by rw[XN,QU _ _ p0.2];exact m0
 have c1:(ZR (TQ hi dg)).size<=9:=by rw[XN,QU _ _ q0.2];exact m0
 have Q0:=Za V0;have b0:=Za W0;have C1:=Za G0;have D1:=Za n0.1;have E1:=Za n0.2;have F1:K (lo<1000000000/\dg<=9/\(Yb lo).length<=dg):=⟨p0.1,m0,p0.2⟩;have G1:K (hi<1000000000/\dg<=9/\(Yb hi).length<=dg):=⟨q0.1,m0,q0.2⟩;have d1:=r0.1;have e1:=t0.1;obtain⟨mn,x0⟩:∃mn,f.length=mn:=⟨_,rfl⟩;obtain⟨cn,y0⟩:∃cn,g.length=cn:=⟨_,rfl⟩;obtain⟨pn,R0⟩:∃pn,B.length=pn:=⟨_,rfl⟩;have c0:=Za x0;have d0:=Za y0;rw[x0]at HM a0 d1;rw[y0]at HC a0 e1;rw[R0]at a0;rw[x0,y0,R0];go_enter Tryz.func60,Tryz.ntmps60;go_upto_region 1 with fail;obtain⟨O,hO⟩:∃O,O=Obj.cells #[G nm,Y Z (rk:Nat),Y Z (dg:Nat),Y Z (lo:Nat),Y Z (hi:Nat),U ma mn mc,M u,Y Z (P:Nat),Y Z (T:Nat),U ca cn cc,M dc,M ch,U pa pn pc,Y Z (ah:Nat)] 120:=⟨_,rfl⟩;rw[<-hO]
 have r:K (Wr w0 w0.heap.size b l0 W.heap.size O (W.alloc O)):=
  ⟨Q0.o.fr (Zt.alloc _),b0.o.trans (((Fr.refl (fun _=>False) W).alloc _).below b0.o.size),z6 b0.o.size (by simp),aN W _,IM (b0.o.trans (((Fr.refl (fun _=>False) W).alloc _).below b0.o.size))⟩
 have f1:K (W.heap.size≠b):=by have:=Q0.o.lt.2;show _≠_;omega
 generalize W.alloc _=W1 at*;generalize W.heap.size=X at*
 have w:K (∀l W,Wr w0 w0.heap.size b l X O W->∀i v,(#[G nm,Y Z (rk:Nat),Y Z (dg:Nat),Y Z (lo:Nat),Y Z (hi:Nat),U ma mn mc,M u,Y Z (P:Nat),Y Z (T:Nat),U ca cn cc,M dc,M ch,U pa pn pc,Y Z (ah:Nat)]:Array F)[i]?=J v->W.cell? ⟨X,i,I⟩=J v):=fun l W h i v hv=>bC (hO▸h.ob) i v hv
 have HO:=Za hO
 have HI:K (∀(l:List UInt8)(m:Nat)(W:R),K (m<1000000000)->K (Wr w0 w0.heap.size b l X O W)->L D 106 #[Y Z (m:Int)] W fun e w'=>e=E (G (ZR (Yb m)))/\K (Wr w0 w0.heap.size b l X O w')):=
  fun l m W hm hZ=>(hZ.o.itoa H0.o m hm.o).mono fun e w' ⟨he,hz⟩=>⟨he,hz⟩
 have g1:K (∀(l:List UInt8)(m d:Nat)(W:R),K (m<1000000000/\d<=9/\(Yb m).length<=d)->K (Wr w0 w0.heap.size b l X O W)->L D 107 #[Y Z (m:Int),Y Z (d:Int)] W fun e w'=>e=E (G (ZR (TQ m d)))/\K (Wr w0 w0.heap.size b l X O w')):=
  fun l m d W hm hZ=>(Fy m d W (H0.o W hZ.o.be) hm.o.1 hm.o.2.1 hm.o.2.2).mono fun e w' ⟨he,hf⟩=>⟨he,hZ.o.fr hf⟩
 have HW:K (∀(l:List UInt8)(s:ByteArray)(W:R),K (Wr w0 w0.heap.size b l X O W)->l.length<=1100000000->s.size<=20000000->L D 105 #[N (J ⟨b,0,I⟩),G s] W fun e w'=>e=E (.tuple #[Y Z s.size,.nilIface])/\K (Wr w0 w0.heap.size b (l++s.data.toList) X O w')):=
  fun l s W hZ hl hs=>by obtain rfl:=HO.o;exact(hZ.o.write s (by omega) f1.o (by decide)).mono fun e w' ⟨he,hz⟩=>⟨he,hz⟩
 have S0:=Za (r.o.fr Zt.drew);have HS:=Za (fun l W (h:Wr w0 w0.heap.size b l X O W)=>And.intro (w.o l W h 0 _ rfl) (w.o l W h 1 _ rfl));have hS:=HS.o _ _ r.o;obtain⟨y1,z,z1,k1⟩:=XO ⟨#[114,117,108,101,32]⟩ nm 5 3000 (by decide) Y0 (by omega);obtain⟨y2,V,z2,k2⟩:=XO y1 ⟨#[32]⟩ _ 1 z1 (by decide) (by omega);obtain⟨y3,e0,z3,k3⟩:=XO y2 (ZR (Yb rk)) _ 21 z2 a1 (by omega);obtain⟨y4,i1,z4,k4⟩:=XO y3 ⟨#[58]⟩ _ 1 z3 (by decide) (by omega)
 go_region_held3 (fun W=>W.cell? ⟨X,0,I⟩=J (G nm)/\W.cell? ⟨X,1,I⟩=J (Y Z (rk:Nat))) (first|assumption|go_keep) (first
  |(go_at_call 106;refine(HI.o _ _ _ (by assumption) (by assumption)).mono ?_;rintro e w7 ⟨rfl,f0⟩;have g0:=HS.o _ _ f0.o)
  |(go_at_call 105;refine(HW.o _ _ _ (by assumption) (by omega) (by omega)).mono ?_;rintro e w7 ⟨rfl,j⟩;have g0:=HS.o _ _ j.o))
 have k:K (y4.data.toList=vd nm rk):=by
  show _=_
  rw[i1.o,e0.o,V.o,z.o];simp[vd,ZR]
 obtain⟨l1,z0⟩:∃l1,l1=l0++y4.data.toList:=⟨_,rfl⟩
 have t1:l1.length<=1000010000:=by
  rw[z0,lA];have:y4.data.toList.length=y4.size:=(by simp);omega
 rw[<-z0]at j
 have j1:K (l1=l0++vd nm rk):=by show _=_;rw[z0,k.o]
 have r:=j;generalize w7=W2 at*;go_upto_region 2 with fail;have S0:=Za (r.o.fr Zt.drew);have HS:=Za (fun l W (h:Wr w0 w0.heap.size b l X O W)=>And.intro (w.o l W h 2 _ rfl) (And.intro (w.o l W h 3 _ rfl) (w.o l W h 4 _ rfl)));have hS:=HS.o _ _ r.o;obtain⟨y1,z,z1,k1⟩:=XO ⟨#[32,98,105,110,32]⟩ (ZR (TQ lo dg)) 5 9 (by decide) b1 (by omega);obtain⟨y2,V,z2,k2⟩:=XO y1 ⟨#[46,46]⟩ _ 2 z1 (by decide) (by omega);obtain⟨y3,e0,z3,k3⟩:=XO y2 (ZR (TQ hi dg)) _ 9 z2 c1 (by omega)
 go_region_held3 (fun W=>W.cell? ⟨X,2,I⟩=J (Y Z (dg:Nat))/\W.cell? ⟨X,3,I⟩=J (Y Z (lo:Nat))/\W.cell? ⟨X,4,I⟩=J (Y Z (hi:Nat))) (first|assumption|go_keep) (first
  |(go_at_call 107;refine(g1.o _ _ _ _ (by assumption) (by assumption)).mono ?_;rintro e w7 ⟨rfl,f0⟩;have g0:=HS.o _ _ f0.o)
  |(go_at_call 105;refine(HW.o _ _ _ (by assumption) (by omega) (by omega)).mono ?_;rintro e w7 ⟨rfl,j⟩;have g0:=HS.o _ _ j.o))
 have k:K (y3.data.toList=vf dg lo hi):=by
  show _=_
  rw[e0.o,V.o,z.o];simp[vf,ZR]
 obtain⟨l2,n⟩:∃ln,ln=l1++y3.data.toList:=⟨_,rfl⟩
 have v1:l2.length<=1000020000:=by
  rw[n,lA];have:y3.data.toList.length=y3.size:=(by simp);omega
 rw[<-n]at j
 have m1:K (l2=l1++vf dg lo hi):=by show _=_;rw[n,k.o]
 have r:=j;generalize w7=W3 at*
 have A0:K (∀W,Below w0.heap.size w0 W->0<mn->L D 108 #[U ma mn mc] W fun e w'=>e=E (G (ZR (Xd (f.map Yb))))/\F0 W w'):=fun W hW h0=>by
  have e:=o0.o f ma mc W hW (by rw[c0.o];exact HM.o) (by rw[c0.o];exact h0) I0.o.1 I0.o.2;rw[c0.o]at e;exact e
 obtain⟨bm,i0⟩:∃bm,decide (0<mn)=bm:=⟨_,rfl⟩
 have T0:decide ((0:Int)<(mn:Int))=bm:=by rw[<-i0];by_cases hq:0<mn<;>simp[hq]<;>omega
 have j0:=Za i0;have n1:W3.cell? ⟨X,5,I⟩=J (U ma mn mc):=w.o _ _ r.o 5 _ rfl
 go_upto_if 37 with fail
 go_cut [] (fun wx=>K (Wr w0 w0.heap.size b (l2++gJ [109,99,99] f) X O wx))
 case first=>
  cases bm with
  |true=>
   have h0:0<mn:=by have:=j0.o;simpa using this
   obtain⟨y1,z,z1,k1⟩:=XO ⟨#[32,109,99,99,32]⟩ (ZR (Xd (f.map Yb))) 5 100000 (by decide) M0 (by omega);go_wp2_with fail;refine(A0.o _ r.o.be h0).mono ?_;rintro e w4 ⟨rfl,hf⟩;have k0:=Za (r.o.fr hf);go_wp2_with fail;refine(HW.o _ _ _ k0 (by omega) (by omega)).mono ?_;rintro e w5 ⟨rfl,j⟩
   have k:K (y1.data.toList=gJ [109,99,99] f):=by
    show _=_
    have B0:¬f=[]:=fun e=>by have:=c0.o;rw[e]at this;simp at this;omega
    rw[z.o];simp[gJ,ZR,B0]
   go_wp2_with fail;go_meet
   show Wr _ _ _ _ _ _ _
   have e:=j.o;rw[k.o]at e;exact e
  |false=>
   have h0:¬0<mn:=by have:=j0.o;simpa using this
   have k:K (gJ [109,99,99] f=[]):=by
    show _=_
    have he:f=[]:=q4.1 (by have:=c0.o;omega);rw[he];rfl
   go_wp2_with fail;go_meet
   show Wr _ _ _ _ _ _ _
   rw[k.o,q5];exact r.o
 have H:=hcut;obtain⟨l3,n⟩:∃ln,ln=l2++gJ [109,99,99] f:=⟨_,rfl⟩
 have w1:l3.length<=1000300000:=by
  rw[n,lA]
  have hg:(gJ [109,99,99] f).length<=200000:=by
   unfold gJ
   split
   ·simp
   rw[XN]at M0;simp only[A,Q,z9];omega
  omega
 rw[<-n]at H;have r:=H;have o1:=Za n;have H1:wc.cell? ⟨X,6,I⟩=J (M u):=w.o _ _ r.o 6 _ rfl;generalize wc=W4 at*
 go_upto_if 45 with fail
 go_cut [] (fun wx=>K (Wr w0 w0.heap.size b (l3++Cw u P T) X O wx))
 case first=>
  cases u with
  |true=>
   go_upto_region 6 with fail;have S0:=Za (r.o.fr Zt.drew);have HS:=Za (fun l W (h:Wr w0 w0.heap.size b l X O W)=>And.intro (w.o l W h 7 _ rfl) (w.o l W h 8 _ rfl));have hS:=HS.o _ _ r.o;obtain⟨y1,z,z1,k1⟩:=XO ⟨#[32,97,109,111,117,110,116,32]⟩ (ZR (Yb P)) 8 21 (by decide) O0 (by omega);obtain⟨y2,V,z2,k2⟩:=XO y1 ⟨#[46,46]⟩ _ 2 z1 (by decide) (by omega);obtain⟨y3,e0,z3,k3⟩:=XO y2 (ZR (Yb T)) _ 21 z2 P0 (by omega)
   go_region_held3 (fun W=>W.cell? ⟨X,7,I⟩=J (Y Z (P:Nat))/\W.cell? ⟨X,8,I⟩=J (Y Z (T:Nat))) (first|assumption|go_keep) (first
    |(go_at_call 106;refine(HI.o _ _ _ (by assumption) (by assumption)).mono ?_;rintro e w7 ⟨rfl,f0⟩;have g0:=HS.o _ _ f0.o)
    |(go_at_call 105;refine(HW.o _ _ _ (by assumption) (by omega) (by omega)).mono ?_;rintro e w7 ⟨rfl,j⟩;have g0:=HS.o _ _ j.o))
   have k:K (y3.data.toList=Cw true P T):=by
    show _=_
    rw[e0.o,V.o,z.o];simp[Cw,ZR]
   go_wp2_with fail;go_meet
   show Wr _ _ _ _ _ _ _
   have e:=j.o;rw[k.o]at e;exact e
  |false=>
   go_wp2_with fail;go_meet
   show Wr _ _ _ _ _ _ _
   rw[show Cw false P T=[]from rfl,q5];exact r.o
 have H:=hcut;obtain⟨l4,n⟩:∃ln,ln=l3++Cw u P T:=⟨_,rfl⟩
 have x1:l4.length<=1000400000:=by
  rw[n,lA]
  have hg:(Cw u P T).length<=100:=by
   unfold Cw;rw[XN]at O0 P0
   split
   ·simp only[A,Q,z9];omega
   simp
  omega
 rw[<-n]at H;have r:=H;have p1:=Za n;generalize wc=W5 at*
 have A0:K (∀W,Below w0.heap.size w0 W->0<cn->L D 108 #[U ca cn cc] W fun e w'=>e=E (G (ZR (Xd (g.map Yb))))/\F0 W w'):=fun W hW h0=>by
  have e:=o0.o g ca cc W hW (by rw[d0.o];exact HC.o) (by rw[d0.o];exact h0) J0.o.1 J0.o.2;rw[d0.o]at e;exact e
 obtain⟨bm,i0⟩:∃bm,decide (0<cn)=bm:=⟨_,rfl⟩
 have T0:decide ((0:Int)<(cn:Int))=bm:=by rw[<-i0];by_cases hq:0<cn<;>simp[hq]<;>omega
 have j0:=Za i0;have n1:W5.cell? ⟨X,9,I⟩=J (U ca cn cc):=w.o _ _ r.o 9 _ rfl
 go_upto_if 62 with fail
 go_cut [] (fun wx=>K (Wr w0 w0.heap.size b (l4++gJ [99,117,114] g) X O wx))
 case first=>
  cases bm with
  |true=>
   have h0:0<cn:=by have:=j0.o;simpa using this
   obtain⟨y1,z,z1,k1⟩:=XO ⟨#[32,99,117,114,32]⟩ (ZR (Xd (g.map Yb))) 5 100000 (by decide) N0 (by omega);go_wp2_with fail;refine(A0.o _ r.o.be h0).mono ?_;rintro e w4 ⟨rfl,hf⟩;have k0:=Za (r.o.fr hf);go_wp2_with fail;refine(HW.o _ _ _ k0 (by omega) (by omega)).mono ?_;rintro e w5 ⟨rfl,j⟩
   have k:K (y1.data.toList=gJ [99,117,114] g):=by
    show _=_
    have B0:¬g=[]:=fun e=>by have:=d0.o;rw[e]at this;simp at this;omega
    rw[z.o];simp[gJ,ZR,B0]
   go_wp2_with fail;go_meet
   show Wr _ _ _ _ _ _ _
   have e:=j.o;rw[k.o]at e;exact e
  |false=>
   have h0:¬0<cn:=by have:=j0.o;simpa using this
   have k:K (gJ [99,117,114] g=[]):=by
    show _=_
    have he:g=[]:=q4.1 (by have:=d0.o;omega);rw[he];rfl
   go_wp2_with fail;go_meet
   show Wr _ _ _ _ _ _ _
   rw[k.o,q5];exact r.o
 have H:=hcut;obtain⟨l5,n⟩:∃ln,ln=l4++gJ [99,117,114] g:=⟨_,rfl⟩
 have A1:l5.length<=1000700000:=by
  rw[n,lA]
  have hg:(gJ [99,117,114] g).length<=200000:=by
   unfold gJ
   split
   ·simp
   rw[XN]at N0;simp only[A,Q,z9];omega
  omega
 rw[<-n]at H;have r:=H;have q1:=Za n;generalize wc=W6 at*;obtain⟨y1,z,z1,k1⟩:=XO ⟨#[32,45,62,32]⟩ (ZR (NU dc ch (B.map (Z0 rts)))) 4 13000000 (by decide) L0 (by omega);obtain⟨y2,V,z2,k2⟩:=XO y1 ⟨#[59,10]⟩ _ 2 z1 (by decide) (by omega);have q:=w.o _ _ r.o;have s0:=q 0 _ rfl;have s1:=q 1 _ rfl;have s2:=q 2 _ rfl;have s3:=q 3 _ rfl;have s4:=q 4 _ rfl;have s5:=q 5 _ rfl;have s6:=q 6 _ rfl;have s7:=q 7 _ rfl;have s8:=q 8 _ rfl;have s9:=q 9 _ rfl;have I1:=q 10 _ rfl;have J1:=q 11 _ rfl;have K1:=q 12 _ rfl;have L1:=q 13 _ rfl;have r1:=Za (a0.o W6 r.o.be);go_wp2_with fail;refine r1.o.mono ?_;rintro e w4 ⟨rfl,hf⟩;have k0:=Za (r.o.fr hf);go_wp2_with fail;refine(HW.o _ _ _ k0 (by omega) (by omega)).mono ?_;rintro e w5 ⟨rfl,j⟩
 have k:K (y2.data.toList=vg dc ch (B.map (Z0 rts))):=by
  show _=_
  rw[V.o,z.o];simp[vg,ZR]
 go_wp2_with fail
 go_end0
 refine⟨rfl,?_,j.o.be⟩;have e:=j.o.bd;rw[k.o,q1.o,p1.o,o1.o,m1.o,j1.o]at e
 simpa using e
theorem Tz.get {base:Nat}{w:R}:∀{rs:List Ze}{a:List F}{j:Nat}{r:Ze},Tz base w rs a->rs[j]?=J r->∃c,BX base w r c/\c.length=14/\∀o v,c[o]?=J v->a[j*14+o]?=J v
 |[],_,j,_,_,hj=>by simp at hj
 |r::rs,a,0,r',⟨c,rest,e,h1,h2⟩,hj=>by
  simp at hj;subst hj
  have l:c.length=14:=by obtain⟨f,g,h,d,_⟩:=h1;rw[d];rfl
  refine⟨c,h1,l,fun o v b=>?_⟩;have:=(iG.1 b).1;rw[e,Nat.zero_mul,z7,List.getElem?_append_left this];exact b
 |r::rs,a,j+1,r',⟨c,rest,e,h1,h2⟩,hj=>by
  obtain⟨i,k,m,n⟩:=Tz.get h2 (j:=j) (r:=r') (by simpa using hj)
  have l:c.length=14:=by obtain⟨f,g,h,d,_⟩:=h1;rw[d];rfl
  refine⟨i,k,m,fun o v b=>?_⟩;rw[e,aR (by omega),l,show(j+1)*14+o-14=j*14+o from by omega];exact n o v b
theorem Qi {w:R}{base e b a n m c f}(h:w.ownsRow base e b (U a n c) m f):m<=c:=by
 rcases h.2 with⟨d,j⟩|⟨g,cap,i,d,_,_,k,_⟩
 ·omega
 injection d with _ _ l;omega
theorem AI (kw l)(e:kw.length<=10)(f:l.length<=4000)(b:∀x,x∈l->x<1000000000):(gJ kw l).length<=93000:=by
 have c:=Uk (l.map Yb) 21 (fun x a=>by obtain⟨y,d,rfl⟩:=z8.1 a;exact Xu y (b y d));rw[C]at c;unfold gJ
 split
 ·simp
 simp only[A,Q];omega
theorem AJ {rts r}(h:Tf rts.length r)(a:∀t,t∈rts->t.name.size<=3000):(PJ rts r).length<=12300000:=by
 rw[NV];have g1:=AI [109,99,99] r.mcc (by simp) h.mc.1 h.mc.2;have g2:=AI [99,117,114] r.cur (by simp) h.cu.1 h.cu.2
 have g:r.name.data.toList.length=r.name.size:=by simp
 have n2:=h.nm;have i:=Xu _ h.rk;have j:=QU _ _ h.lo.2;have k:=QU _ _ h.hi.2;have dg:=h.dg
 have l:(Cw r.am.isSome (r.am.getD (0,0)).1 (r.am.getD (0,0)).2).length<=60:=by
  cases b:r.am with
  |none=>simp[Cw]
  |some c=>
   have m:=Xu _ (h.am c b).1;have n:=Xu _ (h.am c b).2;simp[Cw];omega
 have o:(vg r.decline r.cheapest (r.routes.map (Z0 rts))).length<=12010000:=by
  have d:=Uk (r.routes.map (Z0 rts)) 3000 (fun x e=>by
   obtain⟨p,q,rfl⟩:=z8.1 e;unfold Z0
   cases f:rts[p]? with
   |none=>simp
   |some t=>have:=a t (mG f);simpa using this)
  rw[C]at d;have s:r.routes.length*(3000+2)<=4000*3002:=q6 h.pl.1 (by omega);unfold vg NU
  cases r.decline<;>cases r.cheapest<;>simp<;>omega
 unfold vd vf;simp only[A,Q,z9];omega
theorem E7 {w W q a l m f rts}(b:w.ownsRow (q+1) 148 3 (U f rts.length m) rts.length (Yi rts))(r:Below w.heap.size w W)(h:l<=rts.length):
  Cv W w.heap.size (if m=a then f else Option.map (fun x=>x.add (a*3)) f) ((rts.take l).drop a):=by
 intro j t c;rw[List.getElem?_drop,List.getElem?_take]at c
 split at c
 ·rename_i s
  have u:=Qi b;obtain⟨g,cap,e,B,d,_⟩:=Ur b (by omega);injection e with v _ C;subst v;obtain⟨y,z,A⟩:=TM rts (a+j) t c;have c1:=b.cells (g:=g) rfl _ _ y;have n:=b.cells (g:=g) rfl _ _ z;have o:=b.cells (g:=g) rfl _ _ A;rw[Ki,z7]at c1 n o;have i:F0 w W:=Fr.of_below r
  have k:a*3+j*3=(a+j)*3:=by omega
  refine⟨g,a*3,?_,d,?_,?_,?_⟩
  ·rw[if_neg (by omega)]
   simp[Ki]
  ·rw[k];exact(i.cell (p:=⟨g,(a+j)*3,I⟩) d).trans c1
  ·rw[k];exact(i.cell (p:=⟨g,(a+j)*3+1,I⟩) d).trans n
  rw[k];exact(i.cell (p:=⟨g,(a+j)*3+2,I⟩) d).trans o
 cases c
theorem Wr.routes {w0 B b l X i T W}(h:Wr w0 B b l X (y5 i T) W)(m:∀w',Below B w0 w'->QS w')(a n c rts)(o:n=rts.length)(p:Cv W B a rts)(d:∀t,t∈rts->LB t)(f:rts.length<=6)(g:l.length<=100000000)(q:X≠b)(r:T≠5):
  L D 59 #[N (J ⟨b,0,I⟩),U a n c] W fun e w'=>e=E (.tuple #[])/\Wr w0 B b (l++rts.flatMap Uz) X (y5 i T) w':=by
 subst o
 exact(Sw W B b l a c rts h.le h.bd (fun w' s=>m w' (h.be.trans s)) p d f g).mono fun e w' ⟨u,v,j,k⟩=>⟨u,v,h.be.trans j,z6 h.le j.size,k X _ h.ob (by simpa using q) (fun c x e=>by injection e with _ w;exact r w),h.ok.trans k⟩
theorem Cx (w R vr vl rts f xs)(H:Bk w R vr vl rts f xs)(ho:Yy rts f)(O:QS w):
    L D 33 #[N (J ⟨R,0,I⟩)] w fun e w'=>e=E (G (ZR (VI rts f)))/\F0 w w':=by
  have d0:K (∀w',Below w.heap.size w w'->QS w'):=fun w' h=>O.below (y6 _) h
  have P:=Za H;have HO:=Za ho;obtain⟨la,lc,I0⟩:=oL H.lo;obtain⟨ra,z,J0⟩:=oL H.ro;subst I0 J0;have n0:=Za (bL w _ H.c0);obtain⟨n,hn⟩:∃n,f.length=n:=⟨_,rfl⟩;have HN:=Za hn;obtain⟨q,e0⟩:∃q,rts.length=q:=⟨_,rfl⟩;have u:=Za e0;have c0:=H.c0;have c1:=H.c1;rw[e0]at c0;rw[hn]at c1
  have l1:n<=8:=by have:=H.l8;omega
  have m1:q<=6:=by have:=H.r6;omega
  clear H ho O hn e0;go_enter Tryz.func33,Tryz.ntmps33;go_upto_region 2 with fail;have o0:=(VA w (y5 #[N I,U I 0 0] 116)).1;have p0:K (Bd (w.alloc (y5 #[N I,U I 0 0] 116)) w.heap.size w.heap.size []):=.inl ⟨y6 _,U I 0 0,heap_alloc_new w _,World.ownsRowF_nil _ _ _ _,by simp[Value.ownBlock]⟩;generalize w.alloc _=W0 at*;have r0:=Za (o0.o.below (y6 _));obtain⟨b,hb⟩:∃b,w.heap.size=b:=⟨_,rfl⟩
  have K0:K (Bd W0 w.heap.size b []):=by rw[<-hb];exact p0.o
  rw[hb];clear p0 hb
  have f0:K (∀W,Below w.heap.size w W->W.cell? ⟨R,0,I⟩=J (U ra q z)):=fun W hW=>(Fr.cell (S:=fun _=>False) (Fr.of_below hW) (p:=⟨R,0,I⟩) n0.o).trans c0
  have d1:=(o0.o.cell (p:=⟨R,1,I⟩) n0.o).trans c1;clear c0 c1;go_wp2_with fail
  go_loopg [4,6,12] n (fun m td _ ix wr=>∃k c l,k<=n/\m=n-k/\ix=Y Z (k:Nat)/\td=Y Z (c:Nat)/\c<=q/\l.length<=k*12400000/\K (Bd wr w.heap.size b l)/\K (Below w.heap.size w wr)/\K (VI rts f=l++Wm rts c (f.drop k))/\K (Cr c (f.drop k)))
  case atStart=>exact⟨0,0,[],y7 _,rfl,rfl,rfl,y7 _,by simp,K0,r0,rfl,HO.o.ah⟩
  obtain⟨k,c,l,H,rfl,rfl,rfl,n1,hl,g0,s,s0,t0⟩:=hrel;have c0:=f0.o wr s.o;by_cases o1:k<n
  · obtain⟨r,T⟩:∃r,f[k]?=J r:=⟨_,gE (by have:=HN.o;omega)⟩
    have j:=Za (HO.o.rl r (mG T))
    have h0:K (f.drop k=r::f.drop (k+1)):=by
      show _=_
      have w0:=(iG.1 T);rw[dC w0.1,w0.2]
    obtain⟨cs,⟨vm,vc,vp,A0,hm,hc,hp⟩,L0,B0⟩:=P.o.ru.get T;obtain⟨gl,k1,el,p1,M0,_⟩:=Ur P.o.lo (by have:=HN.o;omega);injection el with N0 q1 O0;subst N0 O0;obtain⟨ma,mc,e1⟩:=oL hm;obtain⟨ca,cc,e2⟩:=oL hc;obtain⟨pa,pc,e3⟩:=oL hp;subst e1 e2 e3
    have a:∀o v,cs[o]?=J v->wr.cell? ⟨gl,k*14+o,I⟩=J v:=fun o v ho=>by
      have:=P.o.lo.cells (g:=gl) rfl _ _ (B0 o v ho);rw[Ki,z7]at this;exact(Fr.cell (S:=fun _=>False) (Fr.of_below s.o) (p:=⟨gl,k*14+o,I⟩) M0).trans this
    rw[A0]at a;have v0:=a 0 _ rfl;have v1:=a 1 _ rfl;have v2:=a 2 _ rfl;have v3:=a 3 _ rfl;have v4:=a 4 _ rfl;have v5:=a 5 _ rfl;have v6:=a 6 _ rfl;have v7:=a 7 _ rfl;have v8:=a 8 _ rfl;have v9:=a 9 _ rfl;have P0:=a 10 _ rfl;have Q0:=a 11 _ rfl;have R0:=a 12 _ rfl;have S0:=a 13 _ rfl;rw[Nat.add_zero]at v0
    have T0:(k:Int)<(n:Int):=by omega
    clear a B0 L0 A0 T;go_upto_region 6 with fail;have C0:=Za s.o.size
    have HZ:K (Wr w w.heap.size b l wr.heap.size (y5 #[G r.name,Y Z r.rank,Y Z r.digits,Y Z r.lo,Y Z r.hi,U ma r.mcc.length mc,M r.am.isSome,Y Z (r.am.getD (0,0)).1,Y Z (r.am.getD (0,0)).2,U ca r.cur.length cc,M r.decline,M r.cheapest,U pa r.routes.length pc,Y Z r.ahead] 120) (wr.alloc (y5 #[G r.name,Y Z r.rank,Y Z r.digits,Y Z r.lo,Y Z r.hi,U ma r.mcc.length mc,M r.am.isSome,Y Z (r.am.getD (0,0)).1,Y Z (r.am.getD (0,0)).2,U ca r.cur.length cc,M r.decline,M r.cheapest,U pa r.routes.length pc,Y Z r.ahead] 120))):=
      ⟨g0.o.fr (Zt.alloc _),s.o.trans (((Fr.refl (fun _=>False) wr).alloc _).below C0.o),z6 C0.o (by simp),aN wr _,AG (IM s.o) (Zt.alloc _)⟩
    have V0:K (wr.heap.size≠b):=by have:=g0.o.lt.2;show _≠_;omega
    have r1:K (Kj r.name r.rank r.digits r.lo r.hi ma r.mcc.length mc r.am.isSome (r.am.getD (0,0)).1 (r.am.getD (0,0)).2 ca r.cur.length cc r.decline r.cheapest pa r.routes.length pc r.ahead=.agg #[G r.name,Y Z r.rank,Y Z r.digits,Y Z r.lo,Y Z r.hi,U ma r.mcc.length mc,M r.am.isSome,Y Z (r.am.getD (0,0)).1,Y Z (r.am.getD (0,0)).2,U ca r.cur.length cc,M r.decline,M r.cheapest,U pa r.routes.length pc,Y Z r.ahead]):=rfl;obtain⟨i,V⟩:∃i,i=r.ahead:=⟨_,rfl⟩;have i0:=Za V
    have s1:c<=i:=by have:=t0.o;rw[h0.o]at this;rw[V];exact this.1
    have t1:i<=q:=by have:=j.o.ah;have:=u.o;omega
    have X0:q<=z:=by have:=Qi P.o.ro;have:=u.o;omega
    have i1:(0:Int)<=(c:Int):=by omega
    have i2:(c:Int)<=(i:Int):=by omega
    have i3:(i:Int)<=(z:Int):=by omega
    generalize wr.alloc _=W1 at*;generalize wr.heap.size=X at*
    have Y0:W1.cell? ⟨X,13,I⟩=J (Y Z (i:Nat)):=by rw[V];exact Zc HZ.o.ob 13
    have y0:=f0.o W1 HZ.o.be;clear v0 v1 v2 v3 v4 v5 v6 v7 v8 v9 P0 Q0 R0 S0 c0 V
    have A:K (((rts.take i).drop c).length=i-c):=by have:=u.o;show _=_;rw[j0,q0];omega
    have y:K (∀t,t∈(rts.take i).drop c->LB t):=fun t O=>HO.o.rt t (q7 (q8 O))
    obtain⟨Q,C⟩:∃Q,(if z=c then ra else Option.map (fun x=>x.add (c*3)) ra)=Q:=⟨_,rfl⟩
    have k0:K (∀W,Below w.heap.size w W->Cv W w.heap.size Q ((rts.take i).drop c)):=fun W hW=>by rw[<-C];exact E7 P.o.ro hW (by have:=u.o;omega)
    have l0:K (∀W,K (Wr w w.heap.size b l X (y5 #[G r.name,Y Z r.rank,Y Z r.digits,Y Z r.lo,Y Z r.hi,U ma r.mcc.length mc,M r.am.isSome,Y Z (r.am.getD (0,0)).1,Y Z (r.am.getD (0,0)).2,U ca r.cur.length cc,M r.decline,M r.cheapest,U pa r.routes.length pc,Y Z r.ahead] 120) W)->
        L D 59 #[N (J ⟨b,0,I⟩),U Q (i-c) (z-c)] W fun e w'=>e=E (.tuple #[])/\K (Wr w w.heap.size b (l++((rts.take i).drop c).flatMap Uz) X (y5 #[G r.name,Y Z r.rank,Y Z r.digits,Y Z r.lo,Y Z r.hi,U ma r.mcc.length mc,M r.am.isSome,Y Z (r.am.getD (0,0)).1,Y Z (r.am.getD (0,0)).2,U ca r.cur.length cc,M r.decline,M r.cheapest,U pa r.routes.length pc,Y Z r.ahead] 120) w')/\(w'.cell? ⟨R,0,I⟩=J (U ra q z)/\w'.cell? ⟨X,13,I⟩=J (Y Z (i:Nat)))):=fun W hZ=>
      (hZ.o.routes d0.o _ _ _ _ A.o.symm (k0.o W hZ.o.be) y.o (by have:=A.o;omega) (by omega) V0.o (by decide)).mono fun e w' ⟨he,hz⟩=>⟨he,hz,f0.o _ hz.be,by rw[i0.o];exact Zc hz.ob 13⟩
    have w1:=Za (HZ.o.fr Zt.drew);clear HZ
    go_region_held3 (fun W=>W.cell? ⟨R,0,I⟩=J (U ra q z)/\W.cell? ⟨X,13,I⟩=J (Y Z (i:Nat))) (first|assumption|go_keep) (first
      |(go_at_call 59;refine(l0.o _ (by assumption)).mono ?_;rintro e w7 ⟨rfl,d,Z0⟩))
    have x0:=Zc d.o.ob 0;have x1:=Zc d.o.ob 1;have x2:=Zc d.o.ob 2;have x3:=Zc d.o.ob 3;have x4:=Zc d.o.ob 4;have x5:=Zc d.o.ob 5;have x6:=Zc d.o.ob 6;have x7:=Zc d.o.ob 7;have x8:=Zc d.o.ob 8;have x9:=Zc d.o.ob 9;have a1:=Zc d.o.ob 10;have b1:=Zc d.o.ob 11;have f1:=Zc d.o.ob 12;obtain⟨_,D0⟩:=Z0
    have E0:K (l.length+(((rts.take i).drop c).flatMap Uz).length+(PJ rts r).length<=(k+1)*12400000):=by
      have h1:=E6 ((rts.take i).drop c) y.o;have h2:=A.o;have h3:=AJ j.o (fun t O=>(HO.o.rt t O).1);have h4:((rts.take i).drop c).length*3060<=6*3060:=q6 (by omega) (y6 _)
      show _<=_
      omega
    have g1:K (L D 60 #[N (J ⟨R,0,I⟩),N (J ⟨b,0,I⟩),.agg #[G r.name,Y Z r.rank,Y Z r.digits,Y Z r.lo,Y Z r.hi,U ma r.mcc.length mc,M r.am.isSome,Y Z (r.am.getD (0,0)).1,Y Z (r.am.getD (0,0)).2,U ca r.cur.length cc,M r.decline,M r.cheapest,U pa r.routes.length pc,Y Z (i:Nat)]] w7 fun e w'=>e=E (.tuple #[])/\Bd w' w.heap.size b ((l++((rts.take i).drop c).flatMap Uz)++PJ rts r)/\Below w.heap.size w w'):=by
      have h:=LC w w7 b R (l++((rts.take i).drop c).flatMap Uz) (U ra rts.length z) rts r.name r.rank r.digits r.lo r.hi r.mcc r.cur r.routes r.am.isSome (r.am.getD (0,0)).1 (r.am.getD (0,0)).2 r.decline r.cheapest i ma ca pa mc cc pc d.o.bd d.o.be d0.o P.o.c0 P.o.ro P.o.r6 (fun t O=>(HO.o.rt t O).1) hm hc hp j.o.nm j.o.rk j.o.dg j.o.lo j.o.hi j.o.mc j.o.cu
        (by cases ha:r.am with
          |none=>simp
          |some ab=>simpa using j.o.am ab ha) j.o.pl (by rw[lA];have:=E0.o;omega)
      rw[<-NV]at h;exact h
    clear C i1 i2 i3 hm hc hp Y0 y0;go_wp2_with fail;refine g1.o.mono ?_;rintro e w9 ⟨rfl,B,F⟩;have m0:=Za B;have a0:=Za F;clear B F x0 x1 x2 x3 x4 x5 x6 x7 x8 x9 a1 b1 f1 D0;go_wp2;go_roundg (n-(k+1))
    case measure=>omega
    refine⟨k+1,i,(l++((rts.take i).drop c).flatMap Uz)++PJ rts r,by omega,rfl,by go_num,rfl,by omega,by(have:=E0.o;rw[lA,lA];omega),m0,a0,?_,?_⟩
    · show _=_
      rw[s0.o,h0.o,Wm,<-i0.o];simp only[q9]
    have e:=t0.o
    rw[h0.o]at e
    show Cr _ _
    rw[i0.o];exact e.2
  have T0:¬(k:Int)<(n:Int):=by omega
  have ek:k=n:=by omega
  obtain⟨Q,C⟩:∃Q,(if z=c then ra else Option.map (fun x=>x.add (c*3)) ra)=Q:=⟨_,rfl⟩
  have A:K (((rts.take q).drop c).length=q-c):=by have:=u.o;show _=_;rw[j0,q0];omega
  have y:K (∀t,t∈(rts.take q).drop c->LB t):=fun t O=>HO.o.rt t (q7 (q8 O))
  have k0:K (Cv wr w.heap.size Q ((rts.take q).drop c)):=by show Cv _ _ _ _;rw[<-C];exact E7 P.o.ro s.o (by have:=u.o;omega)
  have l0:K (L D 59 #[N (J ⟨b,0,I⟩),U Q (q-c) (z-c)] wr fun e w'=>e=E (.tuple #[])/\Bd w' w.heap.size b (l++((rts.take q).drop c).flatMap Uz)/\Below w.heap.size wr w'/\Lib.OthersKept 5 (J b) wr w'):=by
    have h:=Sw wr w.heap.size b l Q (z-c) ((rts.take q).drop c) s.o.size g0.o (fun w' hw=>d0.o w' (s.o.trans hw)) k0.o y.o (by have:=A.o;omega) (by omega);rw[A.o]at h;exact h
  have G0:K (VI rts f=l++((rts.take q).drop c).flatMap Uz):=by
    have e:=s0.o;rw[dL (by have:=HN.o;omega)]at e
    show _=_
    rw[e,z0 (by have:=u.o;omega)];rfl
  have X0:q<=z:=by have:=Qi P.o.ro;have:=u.o;omega
  have i1:(0:Int)<=(c:Int):=by omega
  have i2:(c:Int)<=(q:Int):=by omega
  have i3:(q:Int)<=(z:Int):=by omega
  clear ek;go_wp2_with fail;refine l0.o.mono ?_;rintro e w9 ⟨rfl,B,F,_⟩
  have m0:K (Bd w9 w.heap.size b (VI rts f)):=by rw[<-G0.o]at B;exact B
  have a0:=Za (s.o.trans F);clear B F C c0;go_wp2_with fail;refine(IJ w.heap.size b (VI rts f) w9 m0.o a0.o.size).mono ?_;rintro e j1 ⟨rfl,b0⟩;have H0:K (F0 w j1):=Fr.of_below (a0.o.trans b0);clear b0;go_wp2;go_ret;exact⟨rfl,H0.o⟩
theorem U2 (s w)(g:Dg s):
  L D 133 #[G s] w fun e w'=>e=E (Y Z (Yv s.data.toList))/\w'=w:=by
 have b:=Za g;have h:=g.1;go_enter Tryz.func133,Tryz.ntmps133;go_wp2
 go_loop [3,4] (fun n i=>∃k:Nat,k<=s.size/\i=Y Z k/\n=Y Z (Yv (s.data.toList.take k))) (fun _ i=>s.size-(intOf i).toNat)
 case atStart=>exact⟨0,y7 _,rfl,rfl⟩
 obtain⟨k,j,rfl,rfl⟩:=hrel;have p:=SP s b.o k j;by_cases a:k<s.size
 ·have l:=fun w=>VK (P:=D) Tryz.underlying9 s k (k:Int) rfl a w
  have d:=Za (Ns s b.o k a);have m:=b.o.2 k a
  have f:(k:Int)<(s.size:Int):=by omega
  generalize Yv (s.data.toList.take k)=n at*;generalize ZD s k=c at*;go_wp2;refine⟨⟨k+1,by omega,by go_num,?_⟩,by simp[intOf];omega⟩;rw[d.o,Int.mul_comm]
 have f:¬(k:Int)<(s.size:Int):=by omega
 go_wp2;go_ret;exact⟨ZP (by rw[z0 (by simp;omega)]),rfl⟩
def X0 (s:ByteArray)(k:Nat):Nat:=if P9 s k 46 46||P9 s k 45 62 then 2 else if ZD s k=59\/ZD s k=58\/ZD s k=44 then 1 else 0
theorem Ol (s k a b)(h:k+2<=s.size):((s.extract k (k+2)).toList==[a,b])=P9 s k (a.toNat:Int) (b.toNat:Int):=by
 rw[ByteArray.toList_eq,Lib.extract_data,show k+2-k=2 from by omega];unfold P9 ZD
 have c:(s.data.toList.drop k).length=s.size-k:=by simp
 have g0:s.data.toList.getD k 0=(s.data.toList.drop k).getD 0 0:=by simp[y8]
 have g1:s.data.toList.getD (k+1) 0=(s.data.toList.drop k).getD 1 0:=by simp[y8]
 rw[g0,g1];generalize s.data.toList.drop k=l at*
 match l,c with
 |[],c=>simp at c;omega
 |[_],c=>simp at c;omega
 |x::y::r,c=>
  have e:∀u v:UInt8,(u==v)=decide ((u.toNat:Int)=(v.toNat:Int)):=by
   intro u v;rw[Bool.eq_iff_iff];simp only[beq_iff_eq,decide_eq_true_eq];rw[<-UInt8.toNat_inj];omega
  simp[h,e]
theorem IN (s)(k:Nat)(w)(r:k<s.size)(z:s.size<=3000):
  L D 129 #[G s,Y Z k] w fun e w'=>e=E (Y Z (X0 s k))/\w'=w:=by
 have t:=fun w=>VK (P:=D) Tryz.underlying9 s k (k:Int) rfl r w
 by_cases i:k+2<=s.size
 ·have l:(k:Int)+1<(s.size:Int):=by omega
  have u:(k:Int)<=(k:Int)+2:=by omega
  have v:(k:Int)+2<=(s.size:Int):=by omega
  have A:((k:Int)+2).toNat=k+2:=by omega
  have t1:((s.extract k (k+2)).toList==[46,46])=P9 s k 46 46:=Ol s k 46 46 i;have q:((s.extract k (k+2)).toList==[45,62])=P9 s k 45 62:=Ol s k 45 62 i
  cases h:P9 s k 46 46 with
  |true=>
   have a:K (X0 s k=2):=by show _=_;simp[X0,h]
   rw[h]at t1;go_enter Tryz.func129,Tryz.ntmps129;go_wp2;go_ret;exact⟨ZP (by rw[a.o];rfl),rfl⟩
  |false=>
   cases j:P9 s k 45 62 with
   |true=>
    have a:K (X0 s k=2):=by show _=_;simp[X0,h,j]
    rw[h]at t1;rw[j]at q;go_enter Tryz.func129,Tryz.ntmps129;go_wp2;go_ret;exact⟨ZP (by rw[a.o];rfl),rfl⟩
   |false=>
    have a:K (X0 s k=if ZD s k=59\/ZD s k=58\/ZD s k=44 then 1 else 0):=by show _=_;simp[X0,h,j]
    rw[h]at t1;rw[j]at q;generalize ZD s k=c at*;by_cases c1:c=59
    ·have m:(c==59)=true:=by simp[c1]
     have b:=Za c1;go_enter Tryz.func129,Tryz.ntmps129;go_wp2;go_ret;exact⟨ZP (by rw[a.o,b.o];rfl),rfl⟩
    have m:(c==59)=false:=by simp[c1]
    by_cases d:c=58
    ·have n:(c==58)=true:=by simp[d]
     have b:=Za d;go_enter Tryz.func129,Tryz.ntmps129;go_wp2;go_ret;exact⟨ZP (by rw[a.o,b.o];rfl),rfl⟩
    have n:(c==58)=false:=by simp[d]
    by_cases f:c=44
    ·have p:(c==44)=true:=by simp[f]
     have b:=Za f;go_enter Tryz.func129,Tryz.ntmps129;go_wp2;go_ret;exact⟨ZP (by rw[a.o,b.o];rfl),rfl⟩
    have p:(c==44)=false:=by simp[f]
    have g:K (X0 s k=0):=by show _=_;rw[a.o,if_neg (by omega)]
    go_enter Tryz.func129,Tryz.ntmps129;go_wp2;go_ret;exact⟨ZP (by rw[g.o];rfl),rfl⟩
 have l:¬(k:Int)+1<(s.size:Int):=by omega
 have x:P9 s k 46 46=false:=by simp[P9,i]
 have y:P9 s k 45 62=false:=by simp[P9,i]
 have a:K (X0 s k=if ZD s k=59\/ZD s k=58\/ZD s k=44 then 1 else 0):=by show _=_;simp[X0,x,y]
 generalize ZD s k=c at*;by_cases c1:c=59
 ·have m:(c==59)=true:=by simp[c1]
  have b:=Za c1;go_enter Tryz.func129,Tryz.ntmps129;go_wp2;go_ret;exact⟨ZP (by rw[a.o,b.o];rfl),rfl⟩
 have m:(c==59)=false:=by simp[c1]
 by_cases d:c=58
 ·have n:(c==58)=true:=by simp[d]
  have b:=Za d;go_enter Tryz.func129,Tryz.ntmps129;go_wp2;go_ret;exact⟨ZP (by rw[a.o,b.o];rfl),rfl⟩
 have n:(c==58)=false:=by simp[d]
 by_cases f:c=44
 ·have p:(c==44)=true:=by simp[f]
  have b:=Za f;go_enter Tryz.func129,Tryz.ntmps129;go_wp2;go_ret;exact⟨ZP (by rw[a.o,b.o];rfl),rfl⟩
 have p:(c==44)=false:=by simp[f]
 have g:K (X0 s k=0):=by show _=_;rw[a.o,if_neg (by omega)]
 go_enter Tryz.func129,Tryz.ntmps129;go_wp2;go_ret;exact⟨ZP (by rw[g.o];rfl),rfl⟩
def UE (t:Tk):Int:=if t.sort=0 then 110 else if t.sort=1 then 105 else if Y8 t.text then 107 else 115
def VU (t:Tk):List F:=[G t.text,Y .u8 (UE t),Y Z t.line]
def Vw (ts:List Tk):List F:=ts.flatMap VU
theorem IOq (ts t):Vw (ts++[t])=Vw ts++VU t:=by simp[Vw]
theorem Jy:(D.info? 166).map (fun i=>(i.zero,i.size,i.bytes))=J (J (.agg #[G ByteArray.empty,Y .u8 0,Y Z 0]),3,32):=by kernel_rfl
def UA:Ik->ByteArray
 | .rules=>⟨#[114,117,108,101,115]⟩
 | .mccs=>⟨#[109,99,99,115]⟩
 | .amounts=>⟨#[97,109,111,117,110,116,115]⟩
 | .curs=>⟨#[99,117,114,115]⟩
 | .ints=>⟨#[105,110,116,115]⟩
 | .names=>⟨#[110,97,109,101,115]⟩
 | .action=>⟨#[97,99,116,105,111,110]⟩
 | .NAME=>⟨#[78,65,77,69]⟩
 | .INT=>⟨#[73,78,84]⟩
 | .lit m=>m
def Z1 (l:List Ik):List F:=l.map fun y=>Value.string (UA y)
def TR (x:Option (List Ik))(w:R)(e:Ending)(w':R):Prop:=
 match x with
 |some l=>(∃g c,e=E (.tuple #[U (J ⟨g,0,I⟩) l.length c,M true])/\w.heap.size<=g/\g<w'.heap.size/\∀j u,(Z1 l)[j]?=J u->w'.cell? ⟨g,j,I⟩=J u)/\F0 w w'
 |none=>e=E (.tuple #[U I 0 0,M false])/\F0 w w'
theorem TR.some {x w w' e l}(h:x=J l):TR x w e w'↔(∃g c,e=E (.tuple #[U (J ⟨g,0,I⟩) l.length c,M true])/\w.heap.size<=g/\g<w'.heap.size/\∀j u,(Z1 l)[j]?=J u->w'.cell? ⟨g,j,I⟩=J u)/\F0 w w':=by subst h;exact Iff.rfl
theorem TR.none {x w w' e}(h:x=I):TR x w e w'↔e=E (.tuple #[U I 0 0,M false])/\F0 w w':=by subst h;exact Iff.rfl
theorem Cy {w w2 l b c H T}(d:F0 w w2)(a:b.toList=Z1 l)(f:w2.heap.size=H):TR (J l) w (E (.tuple #[U (J ⟨H,0,I⟩) l.length c,M true])) (w2.alloc (y5 b T)):=by
 subst f;refine(TR.some rfl).2 ⟨⟨_,_,rfl,d.size,by simp,fun j u e=>?_⟩,d.alloc _⟩;rw[<-a]at e;exact bC (aN w2 _) j _ (by simpa using e)
theorem IP {w w' l c g}(a:l=[])(b:w.heap.size<=g)(d:g<w'.heap.size)(e:F0 w w'):TR (J l) w (E (.tuple #[U (J ⟨g,0,I⟩) 0 c,M true])) w':=by
 subst a;exact(TR.some rfl).2 ⟨⟨_,_,rfl,b,d,fun j u f=>by simp[Z1]at f⟩,e⟩
theorem Cz:∀m,m∈X7->(m.data.toList==[114,117,108,101,115])=false/\(m.data.toList==[109,99,99,115])=false/\(m.data.toList==[97,109,111,117,110,116,115])=false/\(m.data.toList==[99,117,114,115])=false/\(m.data.toList==[105,110,116,115])=false/\(m.data.toList==[110,97,109,101,115])=false/\(m.data.toList==[97,99,116,105,111,110])=false:=by decide
theorem E8 {a:ByteArray}{l}(h:(a.data.toList==l)=false):(a.toList==l)=false:=by rw[ByteArray.toList_eq];exact h
theorem wk {a:ByteArray}{l}(h:(a.data.toList==l)=true):(a.toList==l)=true:=by rw[ByteArray.toList_eq];exact h
theorem Us {t}(h:VC t){m}(a:m∈X7){l}(b:m.data.toList=l):(t.text.toList==l)=Zn t m:=by
 rw[h m a,ByteArray.toList_eq m,b]
theorem IQ (y t b c w)(d:∀m,y=.lit m->m∈X7)(a:VC t):
    L D 130 #[.string (UA y),.agg #[.string t.text,.int .u8 b,.int .i64 c]] w (TR (Yw y t) w):=by
  have e:Yw y t=(if((UA y).toList==[114,117,108,101,115])=true then(if Zn t WX=true then J Px else if Zn t Ue=true then J Nt else J [])
      else if((UA y).toList==[109,99,99,115])=true then(if Zn t Vc=true then J [.lit Vc,.INT,.ints]else J [])
      else if((UA y).toList==[97,109,111,117,110,116,115])=true then(if Zn t Z7=true then J [.lit Z7,.INT,.lit Ub,.INT]else J [])
      else if((UA y).toList==[99,117,114,115])=true then(if Zn t Vz=true then J [.lit Vz,.INT,.ints]else J [])
      else if((UA y).toList==[105,110,116,115])=true then(if Zn t Y2=true then J [.lit Y2,.INT,.ints]else J [])
      else if((UA y).toList==[110,97,109,101,115])=true then(if Zn t Y2=true then J [.lit Y2,.NAME,.names]else J [])
      else if((UA y).toList==[97,99,116,105,111,110])=true then(if Zn t YM=true then J [.lit YM]else if Zn t Yj=true then J [.lit Yj,.NAME,.names]else J [.NAME,.names])
      else I):=by
    rw[ByteArray.toList_eq]
    cases y with
    | lit m=>
      have h:=Cz m (d m rfl);simp[UA,Yw,h]
    |_=>simp[UA,Yw]<;>(repeat' split)<;>rfl
  rw[e];have f:=Us a (m:=WX) (by simp[X7]) rfl;have g:=Us a (m:=Ue) (by simp[X7]) rfl;have i:=Us a (m:=Vc) (by simp[X7]) rfl;have j:=Us a (m:=Z7) (by simp[X7]) rfl;have k:=Us a (m:=Vz) (by simp[X7]) rfl;have l:=Us a (m:=Y2) (by simp[X7]) rfl;have n:=Us a (m:=YM) (by simp[X7]) rfl;have o:=Us a (m:=Yj) (by simp[X7]) rfl;generalize UA y=x at*
  (repeat' split)<;>
    (simp only[Bool.not_eq_true,<-f,<-g,<-i,<-j,<-k,<-l,<-n,<-o]at*
     try simp only[WX,Ue,Vc,Z7,Vz,Y2,YM,Yj,List.toList_toArray]at*
     go_enter Tryz.func130,Tryz.ntmps130;go_wp2
     go_ret2
     first|exact Cy ((Zt.alloc _).alloc _) (by rfl) (by simp)|exact IP rfl (by simp) (by simp) ((Zt.alloc _).alloc _)|exact(TR.none rfl).2 ⟨rfl,(Zt.alloc _).alloc _⟩)
theorem TS (g o k):(⟨g,o,I⟩:Addr).add k=⟨g,o+k,I⟩:=by unfold Addr.add;split<;>simp_all
def vh:Ik->Nat
 | .rules=>15
 | .amounts=>4
 | .mccs| .curs| .ints| .names| .action=>3
 |_=>1
def vi:List Ik->Prop
 |[]=>True
 |y::r=>vh y+r.length<=15/\(∀m,y=.lit m->m∈X7)/\vi r
theorem AK {y r}(a:vh y+r.length<=15)(b:∀m,y=.lit m->m∈X7)(c:vi r):vi (y::r):=⟨a,b,c⟩
theorem Jz {y r l t}(h:vi (y::r))(a:Yw y t=J l):vi (l++r):=by
 obtain⟨b,d,c⟩:=h
 cases y<;>simp only[Yw]at a
 all_goals first|(injection a with a)|(cases a;done)
 all_goals subst a
 all_goals repeat' split
 all_goals simp only[Px,Nt,j1,List.nil_append]
 all_goals simp only[vh]at b
 all_goals repeat' (apply AK)
 all_goals first|exact c|(simp only[vh,A];omega)|(intro m e;cases e;done)|(intro m e;cases e;simp[X7])
theorem yU {st}(h:vi st):st.length<=15:=by
 cases st with
 |nil=>simp
 |cons y r=>
  have a:=h.1
  have:1<=vh y:=by cases y<;>simp[vh]
  simp;omega
theorem NW:∀(ts:List Tk)(j:Nat)(t:Tk),ts[j]?=J t->(Vw ts)[j*3]?=J (G t.text)/\(Vw ts)[j*3+1]?=J (Y .u8 (UE t))/\(Vw ts)[j*3+2]?=J (Y Z t.line)
 |[],j,t,h=>by simp at h
 |x::r,0,t,h=>by simp at h;subst h;exact⟨rfl,rfl,rfl⟩
 |x::r,j+1,t,h=>by
  have:=NW r j t (by simpa using h)
  have e:Vw (x::r)=VU x++Vw r:=by simp[Vw]
  have l:(VU x).length=3:=rfl;rw[e];refine⟨?_,?_,?_⟩
  ·rw[aR (by omega),l,show(j+1)*3-3=j*3 from by omega];exact this.1
  ·rw[aR (by omega),l,show(j+1)*3+1-3=j*3+1 from by omega];exact this.2.1
  rw[aR (by omega),l,show(j+1)*3+2-3=j*3+2 from by omega];exact this.2.2
def wl (w:R)(g:Nat)(ts:List Tk):Prop:=∀j t,ts[j]?=J t->w.cell? ⟨g,j*3,I⟩=J (G t.text)/\w.cell? ⟨g,j*3+1,I⟩=J (Y .u8 (UE t))/\w.cell? ⟨g,j*3+2,I⟩=J (Y Z t.line)
theorem wl.fr {w w' g ts S}(h:wl w g ts)(a:Fr S w w')(b:g<w.heap.size)(c:¬S g:=by simp):wl w' g ts:=fun j t d=>
 ⟨(a.cell (p:=⟨g,j*3,I⟩) b c).trans (h j t d).1,(a.cell (p:=⟨g,j*3+1,I⟩) b c).trans (h j t d).2.1,(a.cell (p:=⟨g,j*3+2,I⟩) b c).trans (h j t d).2.2⟩
theorem QV {w base v ts}(h:w.ownsRow base 166 3 v ts.length (Vw ts)):
  ∃a c,v=U a ts.length c/\(0<ts.length->∃g,a=J ⟨g,0,I⟩/\base<=g/\g<w.heap.size/\wl w g ts):=by
 obtain⟨a,c,e⟩:=oL h;refine⟨a,c,e,fun l=>?_⟩;obtain⟨g,cap,i,m,n⟩:=h.form l;rw[e]at i;injection i with o _ p;subst o p;subst e;refine⟨g,rfl,m,n,fun j t q=>?_⟩;obtain⟨a,b,c⟩:=NW ts j t q
 have d:∀k,(⟨g,0,I⟩:Addr).add k=⟨g,k,I⟩:=fun k=>by unfold Addr.add;split<;>simp_all
 have f:=h.cells (g:=g) rfl;exact⟨by have:=f _ _ a;rwa [d]at this,by have:=f _ _ b;rwa [d]at this,by have:=f _ _ c;rwa [d]at this⟩
def Wt (w:R)(base:Nat)(v:F)(b:List Ik):Prop:=
 ∃a c,v=U a b.length c/\b.length<=c/\(0<b.length->∃g o,a=J ⟨g,o,I⟩/\base<=g/\g<w.heap.size/\∀j u,(Z1 b)[j]?=J u->w.cell? ⟨g,o+j,I⟩=J u)
theorem Wt.fr {w w' base v d}(h:Wt w base v d)(f:F0 w w'):Wt w' base v d:=by
 obtain⟨a,c,e,k,h⟩:=h;refine⟨a,c,e,k,fun l=>?_⟩;obtain⟨g,o,m,n,i,b⟩:=h l;exact⟨g,o,m,n,nL i f.size,fun j u q=>(f.cell (p:=⟨g,o+j,I⟩) i).trans (b j u q)⟩
theorem Wt.of_row {w base v b}(h:w.ownsRow base 9 1 v b.length (Z1 b)):Wt w base v b:=by
 rcases h.2 with⟨rfl,i⟩|⟨g,cap,l,rfl,_⟩
 ·exact⟨I,0,by rw[i],by omega,fun d=>by omega⟩
 refine⟨_,_,rfl,?_,fun d=>?_⟩
 ·rename_i m
  exact m.2.2.1
 obtain⟨n,f,e,o,p⟩:=h.form d
 injection e with c s t
 have q:g=n:=by injection c with c;injection c
 subst q
 have a:∀k,(⟨g,0,I⟩:Addr).add k=⟨g,k,I⟩:=fun k=>by unfold Addr.add;split<;>simp_all
 refine⟨g,0,rfl,o,p,fun j u r=>?_⟩;have:=h.cells (g:=g) rfl j u r;rw[a]at this;rw[z7];exact this
theorem OM:(D.info? 9).map (fun i=>(i.zero,i.size,i.bytes))=J (J (G ByteArray.empty),1,16):=by kernel_rfl
def Vr (ts:List Tk)(r:Option Nat):Int:=
 match r with
 |none=>0
 |some j=>if(Zo ts j).sort=3 then-1 else((Zo ts j).line:Int)
theorem QW (y t T a b w)(c:∀m,y=.lit m->m∈X7)(d:VC t)(e:T=t.text):
  L D 130 #[.string (UA y),.agg #[.string T,.int .u8 a,.int .i64 b]] w (TR (Yw y t) w):=by
 subst e;exact IQ y t a b w c d
theorem uh (t):(UE t==110)=decide (t.sort=0):=by
 unfold UE;by_cases a:t.sort=0
 ·simp[a]
 by_cases b:t.sort=1
 ·simp[b]
 by_cases c:Y8 t.text=true<;>simp[a,b,c]
theorem wm (t):(UE t==105)=decide (t.sort=1):=by
 unfold UE;by_cases a:t.sort=0
 ·simp[a]
 by_cases b:t.sort=1
 ·simp[b]
 by_cases c:Y8 t.text=true<;>simp[a,b,c]
theorem ui (t):(UE t==101)=false:=by
 unfold UE;by_cases a:t.sort=0
 ·simp[a]
 by_cases b:t.sort=1
 ·simp[b]
 by_cases c:Y8 t.text=true<;>simp[a,b,c]
theorem O7 {t a l}(h:ZD t 0≠(a.toNat:Int)):((a::l)==t.toList)=false:=by
 rw[Bool.eq_false_iff];intro e
 have b:a::l=t.toList:=by simpa using e
 rw[ByteArray.toList_eq]at b;apply h;unfold ZD;rw[<-b];rfl
theorem NX:∀m,m∈X7->(m.data.toList==[78,65,77,69])=false/\(m.data.toList==[73,78,84])=false:=by decide
theorem AL {t}(h:VC t){m T}(a:m∈X7)(b:T=t.text):(m.toList==T.toList)=Zn t m:=by
 rw[h m a,b,Bool.eq_iff_iff];simp only[beq_iff_eq];exact eq_comm
theorem Wt.pop1 {w base g o n y c}(d:(y::c).length=n)(f:n<=1):Wt w base (U (J ⟨g,o,I⟩) (n-1) 0) c:=by
 have e:c=[]:=by
  cases c with
  |nil=>rfl
  |cons a b=>simp at d;omega
 subst e;exact⟨_,0,by simp at d;subst d;rfl,by simp,fun h=>by simp at h⟩
theorem Wt.pop {w base g o n c y a}(d:(y::a).length=n)(k:n<=c)(f:base<=g)(h:g<w.heap.size)(b:∀j u,(Z1 (y::a))[j]?=J u->w.cell? ⟨g,o+j,I⟩=J u):Wt w base (U (J ⟨g,o+1,I⟩) (n-1) (c-1)) a:=by
 have e:n-1=a.length:=by simp at d;omega
 exact⟨_,c-1,by rw[e],by omega,fun _=>⟨g,o+1,rfl,f,h,fun j u i=>by rw[show o+1+j=o+(j+1)from by omega];exact b (j+1) u (by simpa[Z1]using i)⟩⟩
def uc (f:Fa):Nat:=match f with|none=>0|some x=>x.1
def uN (f:Fa):Nat:=match f with|none=>0|some x=>x.2
def uV (f:Fa):Prop:=∀x,f=J x->x.1≠0
structure Sx (w:R)(p q i:Nat)(f:Fa):Prop where
 c0:w.cell? ⟨p,0,I⟩=J (N (J ⟨q,0,I⟩))
 c1:w.cell? ⟨p,1,I⟩=J (Y Z i)
 c2:w.cell? ⟨p,2,I⟩=J (Y Z (uc f))
 c3:w.cell? ⟨p,3,I⟩=J (Y Z (uN f))
 fz:∀o,w.frozen? ⟨p,o,I⟩=false
 ok:uV f
structure BY (w:R)(q g:Nat)(body:List Tk)(cv:Nat):Prop where
 c0:w.cell? ⟨q,0,I⟩=J (U (J ⟨g,0,I⟩) body.length cv)
 lt:g<w.heap.size
 row:wl w g body
theorem Sx.fr {w w' p q i f S}(h:Sx w p q i f)(a:Fr S w w')(b:¬S p:=by simp):Sx w' p q i f:=by
 have c:=bL w _ h.c0;exact⟨(a.cell (p:=⟨p,0,I⟩) c b).trans h.c0,(a.cell (p:=⟨p,1,I⟩) c b).trans h.c1,(a.cell (p:=⟨p,2,I⟩) c b).trans h.c2,(a.cell (p:=⟨p,3,I⟩) c b).trans h.c3,fun o=>(a.frozen (p:=⟨p,o,I⟩) c b).trans (h.fz o),h.ok⟩
theorem BY.fr {w w' q g body b S}(h:BY w q g body b)(a:Fr S w w')(c:¬S q:=by simp)(d:¬S g:=by simp):BY w' q g body b:=by
 have e:=bL w _ h.c0;exact⟨(a.cell (p:=⟨q,0,I⟩) e c).trans h.c0,nL h.lt a.size,h.row.fr a h.lt d⟩
theorem Sx.move {w p q i f}(h:Sx w p q i f)(k:Nat):Sx (w.setCell ⟨p,1,I⟩ (Y Z k)) p q k f/\Fr (fun j=>j=p) w (w.setCell ⟨p,1,I⟩ (Y Z k)):=by
 refine⟨⟨?_,?_,?_,?_,fun o=>by simp[h.fz o],h.ok⟩,(Fr.refl (fun j=>j=p) w).setCell (q3 rfl) _⟩
 ·rw[cO _ _ _ _ (by simp)];exact h.c0
 ·exact cS _ _ _ h.c1
 ·rw[cO _ _ _ _ (by simp)];exact h.c2
 rw[cO _ _ _ _ (by simp)];exact h.c3
theorem Sx.note {w p q i}(h:Sx w p q i I)(k l:Nat)(a:k≠0):
  Sx ((w.setCell ⟨p,2,I⟩ (Y Z k)).setCell ⟨p,3,I⟩ (Y Z l)) p q i (J (k,l))/\Fr (fun j=>j=p) w ((w.setCell ⟨p,2,I⟩ (Y Z k)).setCell ⟨p,3,I⟩ (Y Z l)):=by
 refine⟨⟨?_,?_,?_,?_,fun o=>by simp[h.fz o],fun x e=>by injection e with e;subst e;exact a⟩,((Fr.refl (fun j=>j=p) w).setCell (p:=⟨p,2,I⟩) (q3 rfl) _).setCell (p:=⟨p,3,I⟩) (q3 rfl) _⟩
 ·rw[cO _ _ _ _ (by simp),cO _ _ _ _ (by simp)];exact h.c0
 ·rw[cO _ _ _ _ (by simp),cO _ _ _ _ (by simp)];exact h.c1
 ·rw[cO _ _ _ _ (by simp)];exact cS _ _ _ h.c2
 exact cS _ _ _ (by rw[cO _ _ _ _ (by simp)];exact h.c3)
theorem XE (w p q g i f body b t)(c:Sx w p q i f)(d:BY w q g body b)(a:body[i]?=J t):
  L D 80 #[N (J ⟨p,0,I⟩)] w fun e w'=>e=E (G t.text)/\F0 w w':=by
 obtain⟨l,c1,m,n,o,r⟩:=c;obtain⟨s,u,h⟩:=d;obtain⟨v,x,y⟩:=h i t a;have j:i<body.length:=(iG.1 a).1
 have k:(i:Int)<(body.length:Int):=by omega
 go_enter Tryz.func80,Tryz.ntmps80;go_wp2_with fail
 go_big_quiet ((fail))
 go_wp2_with fail
 go_big_quiet ((fail))
 go_wp2;go_ret;exact⟨rfl,⟨rfl,rfl,rfl,y6 _,fun _ _ _=>rfl⟩⟩
def E9 (w:R)(p q i:Nat)(f:Fa)(e:Ending)(w':R):Prop:=e=E (.tuple #[])/\Sx w' p q i f/\Fr (fun j=>j=p) w w'
theorem XP (w p q g i f body m t a)(k:Nat)(r:Int)(b:Sx w p q i f)(B:BY w q g body m)(C:q≠p)(F:g≠p)(s:body[i]?=J t)(G:k≠0)(d:r=k):
  L D 131 #[N (J ⟨p,0,I⟩),M a,Y Z r] w (E9 w p q i (ZX f a k t.line)):=by
 subst d
 cases a with
 |false=>
  have e:K (E9 w p q i (ZX f false k t.line) (E (.tuple #[])) w):=by
   refine⟨rfl,?_,Zt⟩
   cases f<;>exact b
  go_enter Tryz.func131,Tryz.ntmps131;go_wp2
  go_end0
  exact e.o
 |true=>
  cases f with
  |some x=>
   have e:K (E9 w p q i (J x) (E (.tuple #[])) w):=⟨rfl,b,Zt⟩;obtain⟨u,c1,v,y,z,A⟩:=b
   have V:((uc (J x):Int)==0)=false:=by
    have:=A x rfl;simp[uc];omega
   generalize uc (J x)=n at*;go_enter Tryz.func131,Tryz.ntmps131;go_wp2
   go_end0
   exact e.o
  |none=>
   have H:=Za b;obtain⟨u,c1,v,y,z,A⟩:=b;obtain⟨O,W,P⟩:=B;obtain⟨X,r1,Q⟩:=P i t s;have R:i<body.length:=(iG.1 s).1
   have S:(i:Int)<(body.length:Int):=by omega
   have e0:(w.setCell ⟨p,2,I⟩ (Y Z k)).cell? ⟨p,0,I⟩=J (N (J ⟨q,0,I⟩)):=by rw[cO _ _ _ _ (by simp)];exact u
   have e1:(w.setCell ⟨p,2,I⟩ (Y Z k)).cell? ⟨p,1,I⟩=J (Y Z i):=by rw[cO _ _ _ _ (by simp)];exact c1
   have e3:(w.setCell ⟨p,2,I⟩ (Y Z k)).cell? ⟨p,3,I⟩=J (Y Z (uN I)):=by rw[cO _ _ _ _ (by simp)];exact y
   have eq:(w.setCell ⟨p,2,I⟩ (Y Z k)).cell? ⟨q,0,I⟩=J (U (J ⟨g,0,I⟩) body.length m):=by rw[cO _ _ _ _ (fun h=>C (by injection h with c;first|exact c|exact c.symm))];exact O
   have er:(w.setCell ⟨p,2,I⟩ (Y Z k)).cell? ⟨g,i*3+2,I⟩=J (Y Z t.line):=by rw[cO _ _ _ _ (fun h=>F (by injection h with c;first|exact c|exact c.symm))];exact Q
   have ef:∀o,(w.setCell ⟨p,2,I⟩ (Y Z k)).frozen? ⟨p,o,I⟩=false:=fun o=>by simp[z o]
   have T:=v;go_enter Tryz.func131,Tryz.ntmps131;go_wp2_with fail;generalize j:w.setCell ⟨p,2,I⟩ (Y Z k)=w1 at*
   go_region
   go_end0
   have l:=H.o.note k t.line G;rw[j]at l;exact⟨rfl,l.1.fr ((Fr.refl (fun _=>False) _).drew),l.2.drew⟩
def vo (w:R)(p q i v:Nat)(f:Fa)(e:Ending)(w':R):Prop:=e=E (Y Z v)/\Sx w' p q i f/\Fr (fun j=>j=p) w w'
theorem NY (w p q g i f body h t)(a:Nat)(u v:Int)(C:Sx w p q i f)(E:BY w q g body h)(F:q≠p)(G:g≠p)(H:body[i]?=J t)(M:Dg t.text)(hi:i<=4000)(O:u=0)(P:v=a):
  L D 132 #[N (J ⟨p,0,I⟩),Y Z u,Y Z v] w (vo w p q (i+1) (Zd t) (ZX f (decide (a<Zd t)) 5 t.line)):=by
 subst O P;have x:=Za C;have y:=Za E;have z:=Za H;have Q:=Za M;have A:K (q≠p/\g≠p):=⟨F,G⟩
 cases R:decide (a<Zd t)
 all_goals
  have S:¬((Zd t:Nat):Int)<0:=by omega
  go_enter Tryz.func132,Tryz.ntmps132;go_wp2_with fail;refine(XE w p q g i f body h t x.o y.o z.o).mono ?_;rintro e B ⟨rfl,T⟩;have b:=Za T;go_wp2_with fail;refine(U2 t.text B Q.o).mono ?_;rintro e w2 ⟨rfl,j⟩;replace j:=j.symm;subst j;have d:Yv t.text.data.toList=Zd t:=rfl;rw[d];simp only[decide_eq_true_eq,decide_eq_false_iff_not]at R
  have U:(a:Int)<(Zd t:Int)↔a<Zd t:=by omega
  generalize Zd t=n at*
  first
  |(have k:(a:Int)<(n:Int):=by omega)
  |(have k:¬(a:Int)<(n:Int):=by omega)
  go_wp2_with fail;refine(XP B p q g i f body h t _ 5 _ (x.o.fr b.o) (y.o.fr b.o (by simp)) A.o.1 A.o.2 z.o (by decide) (by rfl)).mono ?_;rintro e V ⟨rfl,c,l⟩;have m:=Za c;have r:=Za ((b.o.mono).trans l);have c1:=c.c1;have W:=c.fz;go_wp2;go_ret;have s:=m.o.move (i+1);rw[z5]at s;exact⟨rfl,s.1,r.o.trans s.2⟩
def uj (w:R)(p q i:Nat)(ns:List Nat)(f:Fa)(e:Ending)(w':R):Prop:=
 (∃v,e=E v/\w'.ownsRow w.heap.size 3 1 v ns.length (Zg ns))/\Sx w' p q i f/\Fr (fun j=>j=p) w w'
theorem wu {j a b}(h:a=((j+1:Nat):Int))(d:decide (4<j+1)=b):decide ((4:Int)<a)=b:=by
 rw[h,<-d];by_cases c:4<j+1
 ·simp[c];omega
 simp[c];omega
theorem IR (w p q g i f body cv l)(a:Nat)(i2:Int)(hp:Sx w p q i f)(hT:BY w q g body cv)(hq:q≠p)(hg:g≠p)(hb:body.length<=3000)(hl:wV body i l)(hd:∀t,t∈l->Dg t.text)(e2:i2=a):
  L D 134 #[N (J ⟨p,0,I⟩),Y Z i2] w (uj w p q (i+2*l.length) (l.map Zd) (Ye a 1 f l)):=by
 subst e2;obtain⟨ii,hi,p0,q0,r0⟩:=info_parts Y3;have HP:=Za hp;have HT:=Za hT;have HL:=Za hl;have HD:=Za hd;have v:K (q≠p/\g≠p):=⟨hq,hg⟩
 have E0:i+2*l.length<body.length:=by
  obtain⟨t,M,_⟩:=hl.en;exact(iG.1 M).1
 have F0:=hl.ps;clear hp hT hq hg hl hd;go_enter Tryz.func134,Tryz.ntmps134;go_wp2_with fail
 go_loopg [5,6] l.length (fun m o r wr=>∃j G s,j<=l.length/\m=l.length-j/\r=Y Z ((j+1:Nat):Int)/\K (s=(l.take j).map Zd)/\K (wr.ownsRow w.heap.size 3 1 o j (Zg s))/\K (Sx wr p q (i+2*j) G)/\K (Fr (fun j=>j=p) w wr)/\K (Ye a 1 f l=Ye a (j+1) G (l.drop j)))
 case atStart=>exact⟨0,f,[],y7 _,rfl,rfl,rfl,oZ _ _ _ _,HP,Zt,rfl⟩
 obtain⟨j,G,s,hj,rfl,rfl,b0,HO,z,HF,HR⟩:=hrel;have A:=Za (HT.o.fr HF.o v.o.1 v.o.2);have c1:=z.o.c1;have fz:=z.o.fz;by_cases d0:j<l.length
 ·obtain⟨t,M⟩:∃t,l[j]?=J t:=⟨_,gE d0⟩
  have O:K (body[i+2*j+1]?=J t):=by
   have:=HL.o.it j t M;rw[show i+1+2*j=i+2*j+1 from by omega]at this;exact this
  have s0:=Za (HD.o t (mG M));have t0:=Za (O3 M)
  have e0:K ((l.take (j+1)).map Zd=(l.take j).map Zd++[Zd t]):=by
   show _=_
   rw[y9,M,List.map_append];rfl
  clear M;obtain⟨x,B⟩:∃x,x=i+2*j:=⟨_,rfl⟩;obtain⟨r,c⟩:∃r:Int,r=((j+1:Nat):Int):=⟨_,rfl⟩;rw[<-c];rw[<-B]at c1 z O
  have G0:x+2<=3000:=by omega
  have P:=Za B;have f0:=Za c;have H0:j3.wrap (r+1)=r+1:=IntWalk.i64_in _ (by omega)
  have Q:K (∀k,k=p->k<w.heap.size):=fun k e=>by rw[e];exact bL w _ HP.o.c0
  obtain⟨b4,g0⟩:∃b,decide (4<j+1)=b:=⟨_,rfl⟩;have h0:=Za g0;have I0:=wu f0.o h0.o;clear g0;rcases Nat.eq_zero_or_pos j with R|R
  case' inl=>
   have S:(r==1)=true:=by simp;omega
   have h:=Za z;have i0:=Za A;have E:=Za HF;have F:=HO;clear R B c;go_wp2_with fail
  case' inr=>
   have S:(r==1)=false:=by simp;omega
   obtain⟨tc,T,v0⟩:=HL.o.cm j (by omega) d0;rw[<-B]at T;have HC:=Za T;clear T R B c;clear c1 fz;go_wp2_with fail;refine(XE wr p q g x G body cv tc z.o A.o HC.o).mono ?_;rintro e w1 ⟨rfl,y⟩;have E:=Za (HF.o.trans (y.mono));have h:=Za (z.o.fr y);have i0:=Za (A.o.fr y (by simp));have F:=Za (oF HO.o y);clear y;have c1:=h.o.c1;have fz:=h.o.fz;go_wp2_with fail
  all_goals
   have hm:=h.o.move (x+1);rw[z5]at hm;refine(XP _ p q g (x+1) G body cv t b4 6 _ hm.1 (i0.o.fr hm.2 v.o.1 v.o.2) v.o.1 v.o.2 O.o (by decide) (by rfl)).mono ?_;rintro e w3 ⟨rfl,j0,U⟩;have w0:=Za j0;have k0:=Za ((E.o.trans hm.2).trans U);have x0:=Za (oF F.o (hm.2.trans U) Q.o);clear j0 U hm;go_wp2_with fail;refine(NY w3 p q g (x+1) _ body cv t a _ _ w0.o (HT.o.fr k0.o v.o.1 v.o.2) v.o.1 v.o.2 O.o s0.o (by omega) (by rfl) (by rfl)).mono ?_;rintro e w4 ⟨rfl,l0,V⟩;have m0:=Za l0;have n0:=Za (k0.o.trans V);have J0:=n0.o.size;have o0:=Za (oF x0.o V Q.o);clear l0 V;obtain⟨n,W⟩:∃n,n=Zd t:=⟨_,rfl⟩;rw[<-W]at m0 e0 ⊢;have y0:=Za W.symm;clear W
   go_wp2_with (at_builtin;refine wpList_append_lies _ rfl (.tmp 31) (.tmp 33) 25 rfl w.heap.size 3 ii _ 1 8 Tryz.underlying25 hi p0 q0 r0 rfl (by decide) u5 j (Zg s) rfl ?h1 ⟨w4.heap.size,0,I⟩ 1 1 [Y Z n] rfl rfl ?h2 ?h3 (by decide) ?h4 ?h5 ?h6 _ rfl ?h7)
   case h1=>exact o0.o.alloc _
   case h2=>exact World.news_of_block (aN w4 _)
   case h3=>simp[j2]
   case h4=>unfold maxLen;omega
   case h5=>omega
   case h6=>first|omega|(simp;omega)
   intro g2 D0 w5 H d _ _
   have u:∀k,u5.ownBlock=J k->w.heap.size<=k:=fun k X=>(o0.o.lt k X).1
   have A0:=Za H;have B0:=Za ((n0.o.alloc _).grown d (fun k X=>Or.inr (u k X)));have C0:=Za (m0.o.fr (((Fr.refl (fun k=>u5.ownBlock=J k) w4).alloc _).grown d (fun k X=>q3 X)) (fun X=>by have:=u p X;have:=Q.o p rfl;omega));clear d H u;go_wp2;go_roundg (l.length-(j+1))
   case measure=>omega
   refine⟨j+1,ZX (ZX G b4 6 t.line) (decide (a<n)) 5 t.line,s++[n],by omega,rfl,by rw[f0.o];go_num,?_,?_,?_,B0,?_⟩
   ·show _=_
    rw[b0.o,e0.o]
   ·show World.ownsRow _ _ _ _ _ _ _
    rw[XZ];exact A0.o
   ·show Sx _ _ _ _ _
    have e:i+2*(j+1)=x+1+1:=by have:=P.o;omega
    rw[e];exact C0.o
   show _=_
   rw[HR.o,t0.o];simp only[Ye];rw[h0.o,y0.o]
 obtain⟨te,a0,v0⟩:=HL.o.en
 have ej:j=l.length:=by omega
 rw[<-ej]at a0
 have S:((((j+1:Nat):Int))==1)=false:=by simp;omega
 have HC:=Za a0;clear a0;obtain⟨x,B⟩:∃x,x=i+2*j:=⟨_,rfl⟩;obtain⟨r,c⟩:∃r:Int,r=((j+1:Nat):Int):=⟨_,rfl⟩;rw[<-c]at S ⊢;rw[<-B]at HC z;have P:=Za B;clear c1 fz B c;go_wp2_with fail;refine(XE wr p q g x G body cv te z.o A.o HC.o).mono ?_;rintro e w1 ⟨rfl,y⟩;have E:=Za (HF.o.trans (y.mono));have h:=Za (z.o.fr y);have F:=Za (oF HO.o y);clear y;go_wp2;go_ret;refine⟨⟨_,rfl,?_⟩,?_,E.o⟩
 ·have e:=F.o
  rw[b0.o,z0 (by omega)]at e;rw[C,<-ej];exact e
 have e:=h.o
 have e2:G=Ye a 1 f l:=by rw[HR.o,dL (by omega)];rfl
 rw[<-e2,<-ej,<-P.o];exact e
def UJ (ns:List Int):List F:=ns.map fun n:Int=>Value.int Z n
def wv (base:Nat)(w:R)(r:Xa)(d:List F):Prop:=
 ∃a b c,d=[G r.name,Y Z r.rank,Y Z r.width,Y Z r.lo,Y Z r.hi,a,b,M r.am.isSome,Y Z (r.am.getD (0,0)).1,Y Z (r.am.getD (0,0)).2,c,M r.decline,M r.cheapest]/\
  w.ownsRow base 3 1 a r.mcc.length (Zg r.mcc)/\w.ownsRow base 3 1 b r.cur.length (Zg r.cur)/\w.ownsRow base 3 1 c r.routes.length (UJ r.routes)
def TD (base:Nat)(w:R):List Xa->List F->Prop
 |[],xs=>xs=[]
 |r::rs,xs=>∃c a,xs=c++a/\wv base w r c/\TD base w rs a
theorem wv.keep {base w w' r b}(h:wv base w r b)(a:∀v n c,w.ownsRow base 3 1 v n c->w'.ownsRow base 3 1 v n c):wv base w' r b:=by
 obtain⟨d,f,g,e,i,j,k⟩:=h;exact⟨d,f,g,e,a _ _ _ i,a _ _ _ j,a _ _ _ k⟩
theorem TD.keep {base:Nat}{w w':R}(b:∀v n a,w.ownsRow base 3 1 v n a->w'.ownsRow base 3 1 v n a):∀{rs:List Xa}{a:List F},TD base w rs a->TD base w' rs a
 |[],_,h=>h
 |_::_,_,⟨c,rest,e,h1,h2⟩=>⟨c,rest,e,h1.keep b,TD.keep b h2⟩
theorem TD.snoc {base:Nat}{w:R}{r:Xa}{c:List F}(a:wv base w r c):∀{rs:List Xa}{b:List F},TD base w rs b->TD base w (rs++[r]) (b++c)
 |[],_,h=>by
  have f:=h;subst f;exact⟨c,[],by simp,a,rfl⟩
 |_::_,_,⟨d,rest,e,h1,h2⟩=>⟨d,rest++c,by rw[e,q9],h1,TD.snoc a h2⟩
structure O8 (w:R)(B B2 p q g i:Nat)(f:Fa)(body:List Tk)(cv:Nat)(vr vl:F)(rts:List Zf)(rrs:List Xa)(xs:List F):Prop where
 wp:Sx w p q i f
 wt:BY w q g body cv
 q1:w.cell? ⟨q,1,I⟩=J vr
 q2:w.cell? ⟨q,2,I⟩=J vl
 fq:∀o,w.frozen? ⟨q,o,I⟩=false
 ro:w.ownsRow B2 189 3 vr rts.length (Yi rts)
 lo:w.ownsRow B2 170 13 vl rrs.length xs
 ru:TD B2 w rrs xs
 gB:g<B
 pB:B<=p/\p<B2
 qB:B<=q/\q<B2
 ne:q≠p
 b2:B2<=w.heap.size
theorem O8.step {w w' B c p q g i r f f' body s t u rts b x}(h:O8 w B c p q g i f body s t u rts b x)(y:Sx w' p q r f')(a:Fr (fun j=>j=p) w w'):O8 w' B c p q g r f' body s t u rts b x:=by
 have d:=bL w _ h.q1
 have l:g≠p:=by have:=h.gB;have:=h.pB;omega
 have m:∀k,k=p->k<c:=fun k e=>by rw[e];exact h.pB.2
 exact⟨y,h.wt.fr a h.ne l,(a.cell (p:=⟨q,1,I⟩) d h.ne).trans h.q1,(a.cell (p:=⟨q,2,I⟩) d h.ne).trans h.q2,fun o=>(a.frozen (p:=⟨q,o,I⟩) d h.ne).trans (h.fq o),
  oF h.ro a m,oF h.lo a m,TD.keep (fun v n A z=>oF z a m) h.ru,h.gB,h.pB,h.qB,h.ne,z6 h.b2 a.size⟩
theorem O8.routes {w a B b p q g i f body G l A V rts m C rt o}(h:O8 w B b p q g i f body G l A rts m C)(D:(w.alloc o).grownBy a l.ownBlock)(L:a.ownsRow b 189 3 V (rts.length+1) (Yi rts++Sb rt)):
  a.cell? ⟨q,1,I⟩=J l/\(∀o,a.frozen? ⟨q,o,I⟩=false)/\O8 (a.setCell ⟨q,1,I⟩ V) B b p q g i f body G V A (rts++[rt]) m C/\Fr (fun j=>B<=j) w (a.setCell ⟨q,1,I⟩ V):=by
 have t:∀k,l.ownBlock=J k->b<=k:=fun k d=>(h.ro.lt k d).1
 have r:=((Fr.refl (fun k=>l.ownBlock=J k) w).alloc o).grown D (fun k d=>q3 d)
 have s:∀k,k<b->¬l.ownBlock=J k:=fun k d e=>by have:=t k e;omega
 have E:=bL w _ h.q1;have M:=h.wt.lt;have N:=h.gB;have O:=h.pB;have P:=h.qB;have H:=(r.cell (p:=⟨q,1,I⟩) E (s q h.qB.2)).trans h.q1
 have K:∀o,a.frozen? ⟨q,o,I⟩=false:=fun o=>(r.frozen (p:=⟨q,o,I⟩) E (s q h.qB.2)).trans (h.fq o)
 have F:=h.wp.fr r (s p h.pB.2);have c:=h.wt.fr r (s q h.qB.2) (s g (by omega));have u:Fr (fun j=>j=q) a (a.setCell ⟨q,1,I⟩ V):=(Fr.refl (fun j=>j=q) a).setCell (p:=⟨q,1,I⟩) (q3 rfl) _;have x:(w.alloc o).ownsRow b 189 3 l rts.length (Yi rts):=h.ro.alloc _
 have d:∀v n z,w.ownsRow b 3 1 v n z->(a.setCell ⟨q,1,I⟩ V).ownsRow b 3 1 v n z:=fun v n z Q=>by
  have y:(w.alloc o).ownsRow b 3 1 v n z:=Q.alloc _;exact oB (y.kept D (WL y x (by decide))) (by simp;omega) _
 refine⟨H,K,⟨F.fr u (fun e=>h.ne e.symm),?_,World.cell?_setCell_same _ _ _ H,?_,fun o=>by simp[K o],?_,?_,TD.keep d h.ru,h.gB,h.pB,h.qB,h.ne,?_⟩,?_⟩
 ·refine⟨?_,nL c.lt u.size,c.row.fr u c.lt (by omega)⟩
  rw[cO _ _ _ _ (by simp)];exact c.c0
 ·rw[cO _ _ _ _ (by simp)]
  exact(r.cell (p:=⟨q,2,I⟩) E (s q h.qB.2)).trans h.q2
 ·rw[Nx,lA]
  exact oB L (by simp;omega) _
 ·have y:(w.alloc o).ownsRow b 170 13 A m.length C:=h.lo.alloc _
  exact oB (y.kept D (WL y x (by decide))) (by simp;omega) _
 ·exact z6 h.b2 (z6 r.size u.size)
 exact(r.mono (fun k d=>by have:=t k d;omega)).trans (u.mono (fun k e=>by omega))
theorem ON (b a f c d):Yn b a f (c++d)=Yn b a (Yn b a f c) d:=by
 induction c generalizing f with
 |nil=>rfl
 |cons x r e=>exact e _
theorem RO {b a f}{l:List ByteArray}{j x}(h:l[j]?=J x):Yn b a f (l.take (j+1))=ZX (Yn b a f (l.take j)) (x.toList==b.toList) 4 a:=by
 rw[y9,h,ON];rfl
theorem OO:(D.info? 189).map (fun i=>(i.zero,i.size,i.bytes))=J (J (.agg #[G ByteArray.empty,Y Z 0,Y Z 0]),3,32):=by kernel_rfl
theorem Om {w:R}{base v rs}(h:w.ownsRow base 189 3 v rs.length (Yi rs)):
  ∃a c,v=U a rs.length c/\∀j r,rs[j]?=J r->∃g,a=J ⟨g,0,I⟩/\base<=g/\g<w.heap.size/\w.cell? ⟨g,j*3,I⟩=J (G r.name):=by
 obtain⟨a,c,e⟩:=oL h;refine⟨a,c,e,fun j r b=>?_⟩
 have f:0<rs.length:=by have:=(iG.1 b).1;omega
 obtain⟨g,cap,d,i,k⟩:=h.form f;rw[e]at d;injection d with l _ m;subst l m;subst e;refine⟨g,rfl,i,k,?_⟩;obtain⟨a,_,_⟩:=TM rs j r b;have:=h.cells (g:=g) rfl _ _ a
 rwa [TS,z7]at this
theorem FA (w B B2 p q g i f body v vr vl rts O xs tn l r)(h:O8 w B B2 p q g i f body v vr vl rts O xs)(hb:body.length<=3000)(h6:rts.length<=6)(t1:body[i+1]?=J tn)(t2:body[i+2]?=J l)(t3:body[i+3]?=J r)(d2:Dg l.text)(d3:Dg r.text):
  L D 81 #[N (J ⟨p,0,I⟩)] w fun e w'=>e=E (.tuple #[])/\(∃s0,O8 w' B B2 p q g (i+4) (Wp rts f ⟨tn,l,r⟩) body v s0 vl (rts++[⟨tn.text,Zd l,Zd r⟩]) O xs)/\Fr (fun j=>B<=j) w w':=by
 obtain⟨ii,hi,t0,v0,w0⟩:=info_parts OO;have HS:=Za h;have P:=Za t1;have x0:=Za t2;have y0:=Za t3;have HD:K (Dg l.text/\Dg r.text):=⟨d2,d3⟩;have P0:i+3<body.length:=(iG.1 t3).1;have y:K (q≠p/\g≠p):=⟨h.ne,by have:=h.gB;have:=h.pB;omega⟩;obtain⟨va,vc,rfl,z⟩:=Om h.ro;have W:=Za z;obtain⟨n,hn⟩:∃n,rts.length=n:=⟨_,rfl⟩;have X:=Za hn
 have a:K (O8 w B B2 p q g i f body v (U va n vc) vl rts O xs):=by rw[<-hn];exact h
 obtain⟨b6,a0⟩:∃b,decide (6<=n)=b:=⟨_,rfl⟩
 have O0:decide ((6:Int)<=(n:Int))=b6:=by rw[<-a0];by_cases hq:6<=n<;>simp[hq]<;>omega
 have A0:=Za a0
 have Q0:n<=6:=by omega
 have c0:=h.wp.c0;have c1:=h.wp.c1;have fz:=h.wp.fz;have q1:=a.o.q1;have c:=h.wp.move (i+1);rw[z5]at c;have s:=Za c;have B0:(w.setCell ⟨p,1,I⟩ (Y Z ((i:Int)+1))).cell? ⟨q,1,I⟩=J (U va n vc):=(a.o.step c.1 c.2).q1;clear h t1 t2 t3 d2 d3 z hn HS c;go_enter Tryz.func81,Tryz.ntmps81;go_wp2_with fail;refine(XP _ p q g (i+1) f body v tn _ 6 _ s.o.1 (a.o.step s.o.1 s.o.2).wt y.o.1 y.o.2 P.o (by decide) (by rfl)).mono ?_;rintro e w3 ⟨rfl,b0,d0⟩;have Q:=Za b0;have e0:=Za (s.o.2.trans d0);have C0:=Za ((a.o.step Q.o e0.o).wt);clear b0 d0 c0 c1 fz q1 B0;go_wp2_with fail;refine(XE w3 p q g (i+1) _ body v tn Q.o C0.o P.o).mono ?_;rintro e w4 ⟨rfl,hf⟩;have D0:=Za (Q.o.fr hf);have E0:=Za (e0.o.trans (hf.mono));clear hf;go_wp2_with fail
 go_loopg [4] n (fun m o wr=>∃j,j<=n/\m=n-j/\o=Y Z (j:Nat)/\K (Sx wr p q (i+1) (Yn tn.text tn.line (ZX f b6 6 tn.line) ((rts.map Zf.name).take j)))/\K (Fr (fun j=>j=p) w wr))
 case atStart=>exact⟨0,y7 _,rfl,rfl,D0,E0⟩
 obtain⟨j,hj,rfl,rfl,HW,HF⟩:=hrel;have f0:=Za (a.o.step HW.o HF.o);have q1:=f0.o.q1;by_cases R0:j<n
 ·obtain⟨x,R⟩:∃x,rts[j]?=J x:=⟨_,gE (by have:=X.o;omega)⟩
  obtain⟨g3,rfl,S0,F0,r0⟩:=W.o j x R;rw[<-HF.o.cell (p:=⟨g3,j*3,I⟩) F0 (by have:=a.o.pB;simp;omega)]at r0
  have G0:K ((rts.map Zf.name)[j]?=J x.name):=by show _=_;rw[List.getElem?_map,R];rfl
  obtain⟨bx,H0⟩:∃b,(x.name.toList==tn.text.toList)=b:=⟨_,rfl⟩;have I0:=Za H0
  have J0:(j:Int)<(n:Int):=by omega
  clear R;go_wp2_with fail;refine(XP _ p q g (i+1) _ body v tn bx 4 _ HW.o f0.o.wt y.o.1 y.o.2 P.o (by decide) (by rfl)).mono ?_;rintro e w5 ⟨rfl,g0,h0⟩;have K0:=Za g0;have L0:=Za (HF.o.trans h0);clear g0 h0 q1 r0;go_wp2;go_roundg (n-(j+1))
  case measure=>omega
  refine⟨j+1,by omega,rfl,by go_num,?_,L0⟩
  show Sx _ _ _ _ _
  rw[RO G0.o,I0.o];exact K0.o
 have J0:¬(j:Int)<(n:Int):=by omega
 have ej:j=n:=by omega
 have t:K (Sx wr p q (i+1) (Yn tn.text tn.line (ZX f b6 6 tn.line) (rts.map Zf.name))):=by
  have e:=HW.o;rw[z0 (by rw[C];have:=X.o;omega)]at e;exact e
 obtain⟨fn,S⟩:∃fn,fn=Yn tn.text tn.line (ZX f b6 6 tn.line) (rts.map Zf.name):=⟨_,rfl⟩;rw[<-S]at t;have M0:=Za S;have c1:=t.o.c1;have fz:=t.o.fz;have hm:=t.o.move (i+1+1);rw[z5 (i+1)]at hm;have HM:=Za hm;clear hm HW S ej;obtain⟨x,R⟩:∃x,x=i+1:=⟨_,rfl⟩;have T:=Za R;rw[<-R]at c1 HM
 have T0:x+3<=3000:=by omega
 clear R;go_wp2_with fail
 have i0:K (body[x+1]?=J l):=by have:=x0.o;rw[T.o];exact this
 have j0:K (body[x+1+1]?=J r):=by have:=y0.o;rw[T.o];exact this
 refine(NY _ p q g (x+1) fn body v l 1000000 _ _ HM.o.1 ((a.o.step HM.o.1 (HF.o.trans HM.o.2)).wt) y.o.1 y.o.2 i0.o HD.o.1 (by omega) (by rfl) (by rfl)).mono ?_;rintro e w6 ⟨rfl,k0,l0⟩;have m0:=Za k0;have n0:=Za ((HF.o.trans HM.o.2).trans l0);clear k0 l0 c1 fz;go_wp2_with fail;refine(NY _ p q g (x+1+1) _ body v r 1000 _ _ m0.o ((a.o.step m0.o n0.o).wt) y.o.1 y.o.2 j0.o HD.o.2 (by omega) (by rfl) (by rfl)).mono ?_;rintro e w7 ⟨rfl,o0,p0⟩;have N0:=Za o0;have q0:=Za (n0.o.trans p0);have u:=Za (a.o.step N0.o q0.o);have q1:=u.o.q1;have V0:=u.o.b2;clear o0 p0
 go_wp2_with (at_builtin;refine wpList_append_lies _ rfl (.tmp 64) (.tmp 69) 68 rfl B2 189 ii _ 3 32 Tryz.underlying68 hi t0 v0 w0 rfl (by decide) (U va n vc) n (Yi rts) rfl ?h1 ⟨w7.heap.size,0,I⟩ 1 1 [G tn.text,Y Z (Zd l),Y Z (Zd r)] rfl rfl ?h2 ?h3 (by decide) ?h4 ?h5 ?h6 _ rfl ?h7)
 case h1=>have e:=u.o.ro;rw[X.o]at e;exact e.alloc _
 try case h2=>exact World.news_of_block (aN w7 (y5 #[G tn.text,Y Z (Zd l),Y Z (Zd r)] 189))
 case h3=>simp[j2]
 case h4=>unfold maxLen;omega
 case h5=>omega
 case h6=>first|omega|(simp;omega)
 intro g2 A w8 F d _ _;obtain⟨e1,ef,H⟩:=u.o.routes (rt:=⟨tn.text,Zd l,Zd r⟩) (V:=U (J ⟨g2,0,I⟩) (n+1) A) d (by rw[X.o];exact F);have M:=Za H;clear H d F q1;go_wp2
 go_end0
 refine⟨rfl,⟨U (J ⟨g2,0,I⟩) (n+1) A,?_⟩,(q0.o.mono (fun k e=>by have:=a.o.pB;omega)).trans M.o.2⟩;have e:=M.o.1;rw[T.o]at e;unfold Wp;rw[X.o,A0.o];rw[M0.o]at e;exact e
structure XB (w:R)(X:Nat)(cs:Nat->F):Prop where
 cell:∀o,o<13->w.cell? ⟨X,o,I⟩=J (cs o)
 fz:∀o,w.frozen? ⟨X,o,I⟩=false
def Vs (a:Nat->F)(k:Nat)(v:F):Nat->F:=fun o=>if o=k then v else a o
theorem XB.set {w X a}(h:XB w X a){k}(c:k<13)(v):XB (w.setCell ⟨X,k,I⟩ v) X (Vs a k v)/\Fr (fun j=>j=X) w (w.setCell ⟨X,k,I⟩ v):=by
 refine⟨⟨fun o b=>?_,fun o=>by simp[h.fz o]⟩,(Fr.refl (fun j=>j=X) w).setCell (p:=⟨X,k,I⟩) (q3 rfl) _⟩;unfold Vs;by_cases e:o=k
 ·subst e
  rw[if_pos rfl];exact cS _ _ _ (h.cell o b)
 rw[if_neg e,cO _ _ _ _ (by simp)]
 exact h.cell o b
theorem XB.fr {w w' X a S}(h:XB w X a)(b:Fr S w w')(c:¬S X:=by simp):XB w' X a:=by
 have d:=bL w _ (h.cell 0 (by omega));exact⟨fun o e=>(b.cell (p:=⟨X,o,I⟩) d c).trans (h.cell o e),fun o=>(b.frozen (p:=⟨X,o,I⟩) d c).trans (h.fz o)⟩
theorem NZ (b l):∀i a x,Zz b a i (l++[x])=if(x.name.toList==b.toList)=true then((i+l.length:Nat):Int)else Zz b a i l:=by
 induction l with
 |nil=>intro i a x;simp[Zz]
 |cons y r c=>
  intro i a x;simp only[j1,Zz];rw[c (i+1)];simp only[A];rw[show i+1+r.length=i+(r.length+1)from by omega]
theorem N0 {nm}{l:List Zf}{j x}(h:l[j]?=J x):Zz nm (-1) 0 (l.take (j+1))=if(x.name.toList==nm.toList)=true then(j:Int)else Zz nm (-1) 0 (l.take j):=by
 have a:=(iG.1 h).1;rw[y9,h]
 show Zz nm (-1) 0 (l.take j++[x])=_
 rw[NZ,q0,z7,Nat.min_eq_left (by omega)]
theorem JA (ns n):UJ (ns++[n])=UJ ns++[Y Z n]:=by simp[UJ]
def FB (w:R)(p q X i:Nat)(f:Fa)(c:Nat->F)(a:List Int)(d g:Bool)(e:Ending)(w':R):Prop:=
 e=E (.tuple #[])/\Sx w' p q i f/\(∃b,XB w' X (Vs (Vs (Vs c 11 (M d)) 12 (M g)) 10 b)/\w'.ownsRow w.heap.size 3 1 b a.length (UJ a))/\Fr (fun j=>j=p\/j=X) w w'
theorem OP (w p q g X i f body x a t)(y:Sx w p q i f)(E:BY w q g body x)(F:XB w X a)(G:X≠p)(m:a 10=U I 0 0)(n:a 11=M false)(r:a 12=M false)(hi:i<=3000)(H:body[i]?=J t)(V:(t.text.toList==[100,101,99,108,105,110,101])=true):
  L D 135 #[N (J ⟨p,0,I⟩),N (J ⟨X,0,I⟩)] w (FB w p q X (i+1) f a [] true false):=by
 have O:=Za y;have P:=Za F;have Q:K (a 10=U I 0 0/\a 11=M false/\a 12=M false):=⟨m,n,r⟩;have z:=Za G;have R:=Za (XE w p q g i f body x t y E H);go_enter Tryz.func135,Tryz.ntmps135;go_wp2_with fail;refine R.o.mono ?_;rintro e W ⟨rfl,s⟩;have u:=Za s;have b:=Za (P.o.fr s);have v:=Za (O.o.fr s);have A:=b.o.set (k:=11) (by omega) (M true);have B:=Za A;have c:=Za (v.o.fr A.2 (fun e=>z.o e.symm));have S:=b.o.cell 11 (by omega);have Y:=b.o.fz;have c1:=c.o.c1;have Z:=c.o.fz;go_wp2
 go_end0
 have l:=c.o.move (i+1);rw[z5]at l;refine⟨rfl,l.1,⟨U I 0 0,?_,oZ _ _ _ _⟩,?_⟩
 ·have e:=B.o.1.fr l.2 z.o
  refine⟨fun o T=>(e.cell o T).trans ?_,e.fz⟩;have C:=Q.o;unfold Vs;by_cases d:o=10
  ·subst d;simp[C.1]
  by_cases h:o=11
  ·subst h;simp
  by_cases j:o=12
  ·subst j;simp[C.2.2]
  simp[d,h,j]
 exact((u.o.mono).trans (B.o.2.mono (fun k e=>Or.inr e))).trans (l.2.mono (fun k e=>q3 e))
theorem XB.congr {w X a b}(h:XB w X a)(e:∀o,o<13->a o=b o):XB w X b:=⟨fun o c=>(h.cell o c).trans (by rw[e o c]),h.fz⟩
structure AM (w:R)(p q g X:Nat)(body:List Tk)(cv:Nat)(va:Option Addr)(n vc:Nat)(rts:List Zf):Prop where
 wt:BY w q g body cv
 q1:w.cell? ⟨q,1,I⟩=J (U va n vc)
 n1:q≠p/\g≠p/\q≠X/\g≠X/\X≠p
 ln:rts.length=n/\n<=7
 row:∀j r,rts[j]?=J r->∃g3,va=J ⟨g3,0,I⟩/\g3≠p/\g3≠X/\g3<w.heap.size/\w.cell? ⟨g3,j*3,I⟩=J (G r.name)
theorem AM.fr {w w' p q g X body b c n d rts}(h:AM w p q g X body b c n d rts)(a:Fr (fun j=>j=p\/j=X) w w'):AM w' p q g X body b c n d rts:=by
 obtain⟨f,n2,i,o,v⟩:=h.n1;have s:=bL w _ h.q1;refine⟨h.wt.fr a (by simp[f,i]) (by simp[n2,o]),(a.cell (p:=⟨q,1,I⟩) s (by simp[f,i])).trans h.q1,h.n1,h.ln,fun j r t=>?_⟩;obtain⟨g3,e,k,l,m,u⟩:=h.row j r t;exact⟨g3,e,k,l,Nat.lt_of_lt_of_le m a.size,(a.cell (p:=⟨g3,j*3,I⟩) m (by simp[k,l])).trans u⟩
theorem Fr.no {S w w'}(h:F0 w w'):Fr S w w':=h.mono
