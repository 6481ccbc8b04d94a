import Derived.Test.YtccikgogjfbpeaaGreatDoorAm
open Go.Value renaming int->I,slice->P,bool->U,string->K,pointer->D
open Go.IntKind renaming i64->J
open Go.RowKit renaming Hid->V
open Option renaming none->Y,some->Z
open Go.Proofs.Tryz renaming prog->E
open Go.Ending renaming returned->H
open List renaming length_append->G,length_cons->M,length_map->N,mem_map->L,length_nil->A,length_eq_zero_iff->F,append_nil->Q,mem_of_mem_take->z6,mem_of_mem_drop->z7,length_drop->y5,length_take->y6
open Go renaming Calls->R,World->y7
open Go.Obj renaming cells->C
open Nat renaming le_refl->z0,mul_le_mul->z5,le_trans->z8,zero_add->z9,zero_le->y8
namespace Go.Proofs.YtccikgogjfbpeaaGreatDoor
set_option maxRecDepth 30000
set_option maxHeartbeats 8000000
open Go.RowKit
def vf (a:ByteArray)(rk:Nat):Bs:=[114,117,108,101,32]++(a.data.toList++(32::(Ya rk++[58])))
def vg (dg lo hi:Nat):Bs:=[32,98,105,110,32]++(TP lo dg++(46::46::TP hi dg))
def CB (a:Bool)(b c:Nat):Bs:=if a then[32,97,109,111,117,110,116,32]++(Ya b++(46::46::Ya c))else[]
def vh (a b:Bool)(l:List Bs):Bs:=[32,45,62,32]++(N7 a b l++[59,10])
theorem N8 (rts r):PF rts r=vf r.name r.rank++(vg r.digits r.lo r.hi++(gJ [109,99,99] r.mcc++(CB r.am.isSome (r.am.getD (0,0)).1 (r.am.getD (0,0)).2++(gJ [99,117,114] r.cur++vh r.decline r.cheapest (r.routes.map (Z0 rts)))))):=by
 have e:CB r.am.isSome (r.am.getD (0,0)).1 (r.am.getD (0,0)).2=aJ r.am:=by cases r.am<;>rfl
 rw[e];unfold PF vf vg vh;rw[<-yT];simp
theorem QY (n d)(h:(Ya n).length<=d):(TP n d).length=d:=by unfold TP;rw[lA,List.length_replicate];omega
theorem LB (w0 W b Bb l0 vr rts nm)(rk dg lo hi:Nat)(f g B u)(T a8:Nat)(dc ch)(ah:Nat)(ma ca pa mc cc pc)(W0:Bd W w0.heap.size b l0)(X0:Below w0.heap.size w0 W)(D0:∀w',Below w0.heap.size w0 w'->QW w')(E0:w0.cell? ⟨Bb,0,Y⟩=Z vr)(Y0:w0.ownsRow (Bb+1) 148 3 vr rts.length (Yh rts))(h6:rts.length<=6)(G0:∀t,t∈rts->t.name.size<=3000)(hm:w0.ownsRow (Bb+1) 3 1 (P ma f.length mc) f.length (Zg f))(hc:w0.ownsRow (Bb+1) 3 1 (P ca g.length cc) g.length (Zg g))(hp:w0.ownsRow (Bb+1) 3 1 (P pa B.length pc) B.length (Zg B))(a1:nm.size<=3000)(H0:rk<1000000000)(n0:dg<=9)(q0:lo<1000000000/\(Ya lo).length<=dg)(r0:hi<1000000000/\(Ya hi).length<=dg)(t0:f.length<=4000/\∀x,x∈f->x<1000000000)(v0:g.length<=4000/\∀x,x∈g->x<1000000000)(o0:T<1000000000/\a8<1000000000)(x0:B.length<=4000/\∀x,x∈B->x<rts.length)(C1:l0.length<=1000000000):
  R E 60 #[D (Z ⟨Bb,0,Y⟩),D (Z ⟨b,0,Y⟩),Km nm rk dg lo hi ma f.length mc u T a8 ca g.length cc dc ch pa B.length pc ah] W fun e w'=>e=H (.tuple #[])/\Bd w' w0.heap.size b (l0++(vf nm rk++(vg dg lo hi++(gJ [109,99,99] f++(CB u T a8++(gJ [99,117,114] g++vh dc ch (B.map (Z0 rts))))))))/\Below w0.heap.size w0 w':=by
 unfold Km;have I0:=Za D0
 have p0:V (∀(l:List Nat)(a:Option Addr)(c:Nat)(W:y7),Below w0.heap.size w0 W->w0.ownsRow (Bb+1) 3 1 (P a l.length c) l.length (Zg l)->0<l.length->l.length<=4000->(∀x,x∈l->x<1000000000)->R E 108 #[P a l.length c] W fun e w'=>e=H (K (ZQ (Xe (l.map Ya))))/\F0 W w'):=
  fun l a c W hW ho h0 hl hx=>PI W (Bb+1) _ l (oF (S:=fun _=>False) ho (Fr.of_below hW)) h0 hl hx (D0 W hW)
 have b0:V (∀W,Below w0.heap.size w0 W->R E 109 #[D (Z ⟨Bb,0,Y⟩),Km nm rk dg lo hi ma f.length mc u T a8 ca g.length cc dc ch pa B.length pc ah] W fun e w'=>e=H (K (ZQ (N7 dc ch (B.map (Z0 rts)))))/\F0 W w'):=fun W hW=>by
  have hF:F0 w0 W:=Fr.of_below hW;exact OL W Bb vr rts (Bb+1) B nm rk dg lo hi ma f.length mc u T a8 ca g.length cc dc ch pa pc ah ((hF.cell (p:=⟨Bb,0,Y⟩) (bL w0 _ E0)).trans E0) (oF Y0 hF) (oF hp hF) x0.1 x0.2 G0 h6
 have HM:=Za hm;have HC:=Za hc;have J0:=Za t0;have K0:=Za v0
 have L0:V (∀x,x∈B.map (Z0 rts)->x.length<=3000):=fun x hx=>by
  obtain⟨p,hp,rfl⟩:=L.1 hx;unfold Z0
  cases hq:rts[p]? with
  |none=>simp
  |some t=>have:=G0 t (mG hq);simpa using this
 have M0:(ZQ (N7 dc ch (B.map (Z0 rts)))).size<=13000000:=by
  have h1:=Ui (B.map (Z0 rts)) 3000 L0.o;rw[N]at h1;have h2:B.length*(3000+2)<=4000*3002:=z5 x0.1 (by omega);rw[XK];unfold N7
  cases dc<;>cases ch<;>simp<;>omega
 have N0:(ZQ (Xe (f.map Ya))).size<=100000:=by
  have h1:=Ui (f.map Ya) 21 (fun x hx=>by obtain⟨y,hy,rfl⟩:=L.1 hx;exact Xs y (t0.2 y hy));rw[N]at h1;rw[XK];omega
 have O0:(ZQ (Xe (g.map Ya))).size<=100000:=by
  have h1:=Ui (g.map Ya) 21 (fun x hx=>by obtain⟨y,hy,rfl⟩:=L.1 hx;exact Xs y (v0.2 y hy));rw[N]at h1;rw[XK];omega
 have b1:=Xs _ H0;have P0:(ZQ (Ya T)).size<=21:=Xs _ o0.1;have Q0:(ZQ (Ya a8)).size<=21:=Xs _ o0.2
 have c1:(ZQ (TP lo dg)).size<=9:=by rw[XK,QY _ _ q0.2];exact n0
 have d1:(ZQ (TP hi dg)).size<=9:=by rw[XK,QY _ _ r0.2];exact n0
 have R0:=Za W0;have c0:=Za X0;have D1:=Za H0;have E1:=Za o0.1;have F1:=Za o0.2;have G1:V (lo<1000000000/\dg<=9/\(Ya lo).length<=dg):=⟨q0.1,n0,q0.2⟩;have H1:V (hi<1000000000/\dg<=9/\(Ya hi).length<=dg):=⟨r0.1,n0,r0.2⟩;have e1:=t0.1;have f1:=v0.1;obtain⟨mn,y0⟩:∃mn,f.length=mn:=⟨_,rfl⟩;obtain⟨cn,z0⟩:∃cn,g.length=cn:=⟨_,rfl⟩;obtain⟨pn,S0⟩:∃pn,B.length=pn:=⟨_,rfl⟩;have d0:=Za y0;have e0:=Za z0;rw[y0]at HM b0 e1;rw[z0]at HC b0 f1;rw[S0]at b0;rw[y0,z0,S0];go_enter Tryz.func60,Tryz.ntmps60;go_upto_region 1 with fail;obtain⟨O,hO⟩:∃O,O=Obj.cells #[K nm,I J (rk:Nat),I J (dg:Nat),I J (lo:Nat),I J (hi:Nat),P ma mn mc,U u,I J (T:Nat),I J (a8:Nat),P ca cn cc,U dc,U ch,P pa pn pc,I J (ah:Nat)] 120:=⟨_,rfl⟩;rw[<-hO]
 have r:V (Wr w0 w0.heap.size b l0 W.heap.size O (W.alloc O)):=
  ⟨R0.o.fr (Zt.alloc _),c0.o.trans (((Fr.refl (fun _=>False) W).alloc _).below c0.o.size),z8 c0.o.size (by simp),aN W _,IY (c0.o.trans (((Fr.refl (fun _=>False) W).alloc _).below c0.o.size))⟩
 have g1:V (W.heap.size≠b):=by have:=R0.o.lt.2;show _≠_;omega
 generalize W.alloc _=W1 at*;generalize W.heap.size=X at*
 have w:V (∀l W,Wr w0 w0.heap.size b l X O W->∀i v,(#[K nm,I J (rk:Nat),I J (dg:Nat),I J (lo:Nat),I J (hi:Nat),P ma mn mc,U u,I J (T:Nat),I J (a8:Nat),P ca cn cc,U dc,U ch,P pa pn pc,I J (ah:Nat)]:Array Value)[i]?=Z v->W.cell? ⟨X,i,Y⟩=Z v):=fun l W h i v hv=>bC (hO▸h.ob) i v hv
 have HO:=Za hO
 have HI:V (∀(l:List UInt8)(m:Nat)(W:y7),V (m<1000000000)->V (Wr w0 w0.heap.size b l X O W)->R E 106 #[I J (m:Int)] W fun e w'=>e=H (K (ZQ (Ya m)))/\V (Wr w0 w0.heap.size b l X O w')):=
  fun l m W hm hZ=>(hZ.o.itoa I0.o m hm.o).mono fun e w' ⟨he,hz⟩=>⟨he,hz⟩
 have i1:V (∀(l:List UInt8)(m d:Nat)(W:y7),V (m<1000000000/\d<=9/\(Ya m).length<=d)->V (Wr w0 w0.heap.size b l X O W)->R E 107 #[I J (m:Int),I J (d:Int)] W fun e w'=>e=H (K (ZQ (TP m d)))/\V (Wr w0 w0.heap.size b l X O w')):=
  fun l m d W hm hZ=>(FH m d W (I0.o W hZ.o.be) hm.o.1 hm.o.2.1 hm.o.2.2).mono fun e w' ⟨he,hf⟩=>⟨he,hZ.o.fr hf⟩
 have HW:V (∀(l:List UInt8)(s:ByteArray)(W:y7),V (Wr w0 w0.heap.size b l X O W)->l.length<=1100000000->s.size<=20000000->R E 105 #[D (Z ⟨b,0,Y⟩),K s] W fun e w'=>e=H (.tuple #[I J s.size,.nilIface])/\V (Wr w0 w0.heap.size b (l++s.data.toList) X O w')):=
  fun l s W hZ hl hs=>by obtain rfl:=HO.o;exact(hZ.o.write s (by omega) g1.o (by decide)).mono fun e w' ⟨he,hz⟩=>⟨he,hz⟩
 have T0:=Za (r.o.fr Zt.drew);have HS:=Za (fun l W (h:Wr w0 w0.heap.size b l X O W)=>And.intro (w.o l W h 0 _ rfl) (w.o l W h 1 _ rfl));have hS:=HS.o _ _ r.o;obtain⟨y1,z,z1,k1⟩:=XL ⟨#[114,117,108,101,32]⟩ nm 5 3000 (by decide) a1 (by omega);obtain⟨y2,a0,z2,k2⟩:=XL y1 ⟨#[32]⟩ _ 1 z1 (by decide) (by omega);obtain⟨y3,f0,z3,k3⟩:=XL y2 (ZQ (Ya rk)) _ 21 z2 b1 (by omega);obtain⟨y4,j1,z4,k4⟩:=XL y3 ⟨#[58]⟩ _ 1 z3 (by decide) (by omega)
 go_region_held3 (fun W=>W.cell? ⟨X,0,Y⟩=Z (K nm)/\W.cell? ⟨X,1,Y⟩=Z (I J (rk:Nat))) (first|assumption|go_keep) (first
  |(go_at_call 106;refine(HI.o _ _ _ (by assumption) (by assumption)).mono ?_;rintro e w7 ⟨rfl,g0⟩;have i0:=HS.o _ _ g0.o)
  |(go_at_call 105;refine(HW.o _ _ _ (by assumption) (by omega) (by omega)).mono ?_;rintro e w7 ⟨rfl,j⟩;have i0:=HS.o _ _ j.o))
 have k:V (y4.data.toList=vf nm rk):=by
  show _=_
  rw[j1.o,f0.o,a0.o,z.o];simp[vf,ZQ]
 obtain⟨l1,A0⟩:∃l1,l1=l0++y4.data.toList:=⟨_,rfl⟩
 have v1:l1.length<=1000010000:=by
  rw[A0,lA];have:y4.data.toList.length=y4.size:=(by simp);omega
 rw[<-A0]at j
 have m1:V (l1=l0++vf nm rk):=by show _=_;rw[A0,k.o]
 have r:=j;generalize w7=W2 at*;go_upto_region 2 with fail;have T0:=Za (r.o.fr Zt.drew);have HS:=Za (fun l W (h:Wr w0 w0.heap.size b l X O W)=>And.intro (w.o l W h 2 _ rfl) (And.intro (w.o l W h 3 _ rfl) (w.o l W h 4 _ rfl)));have hS:=HS.o _ _ r.o;obtain⟨y1,z,z1,k1⟩:=XL ⟨#[32,98,105,110,32]⟩ (ZQ (TP lo dg)) 5 9 (by decide) c1 (by omega);obtain⟨y2,a0,z2,k2⟩:=XL y1 ⟨#[46,46]⟩ _ 2 z1 (by decide) (by omega);obtain⟨y3,f0,z3,k3⟩:=XL y2 (ZQ (TP hi dg)) _ 9 z2 d1 (by omega)
 go_region_held3 (fun W=>W.cell? ⟨X,2,Y⟩=Z (I J (dg:Nat))/\W.cell? ⟨X,3,Y⟩=Z (I J (lo:Nat))/\W.cell? ⟨X,4,Y⟩=Z (I J (hi:Nat))) (first|assumption|go_keep) (first
  |(go_at_call 107;refine(i1.o _ _ _ _ (by assumption) (by assumption)).mono ?_;rintro e w7 ⟨rfl,g0⟩;have i0:=HS.o _ _ g0.o)
  |(go_at_call 105;refine(HW.o _ _ _ (by assumption) (by omega) (by omega)).mono ?_;rintro e w7 ⟨rfl,j⟩;have i0:=HS.o _ _ j.o))
 have k:V (y3.data.toList=vg dg lo hi):=by
  show _=_
  rw[f0.o,a0.o,z.o];simp[vg,ZQ]
 obtain⟨l2,n⟩:∃ln,ln=l1++y3.data.toList:=⟨_,rfl⟩
 have w1:l2.length<=1000020000:=by
  rw[n,lA];have:y3.data.toList.length=y3.size:=(by simp);omega
 rw[<-n]at j
 have n1:V (l2=l1++vg dg lo hi):=by show _=_;rw[n,k.o]
 have r:=j;generalize w7=W3 at*
 have B0:V (∀W,Below w0.heap.size w0 W->0<mn->R E 108 #[P ma mn mc] W fun e w'=>e=H (K (ZQ (Xe (f.map Ya))))/\F0 W w'):=fun W hW h0=>by
  have e:=p0.o f ma mc W hW (by rw[d0.o];exact HM.o) (by rw[d0.o];exact h0) J0.o.1 J0.o.2;rw[d0.o]at e;exact e
 obtain⟨bm,j0⟩:∃bm,decide (0<mn)=bm:=⟨_,rfl⟩
 have V0:decide ((0:Int)<(mn:Int))=bm:=by rw[<-j0];by_cases hq:0<mn<;>simp[hq]<;>omega
 have k0:=Za j0;have o1:W3.cell? ⟨X,5,Y⟩=Z (P ma mn mc):=w.o _ _ r.o 5 _ rfl
 go_upto_if 37 with fail
 go_cut [] (fun wx=>V (Wr w0 w0.heap.size b (l2++gJ [109,99,99] f) X O wx))
 case first=>
  cases bm with
  |true=>
   have h0:0<mn:=by have:=k0.o;simpa using this
   obtain⟨y1,z,z1,k1⟩:=XL ⟨#[32,109,99,99,32]⟩ (ZQ (Xe (f.map Ya))) 5 100000 (by decide) N0 (by omega);go_wp2_with fail;refine(B0.o _ r.o.be h0).mono ?_;rintro e w4 ⟨rfl,hf⟩;have m0:=Za (r.o.fr hf);go_wp2_with fail;refine(HW.o _ _ _ m0 (by omega) (by omega)).mono ?_;rintro e w5 ⟨rfl,j⟩
   have k:V (y1.data.toList=gJ [109,99,99] f):=by
    show _=_
    have C0:¬f=[]:=fun e=>by have:=d0.o;rw[e]at this;simp at this;omega
    rw[z.o];simp[gJ,ZQ,C0]
   go_wp2_with fail;go_meet
   show Wr _ _ _ _ _ _ _
   have e:=j.o;rw[k.o]at e;exact e
  |false=>
   have h0:¬0<mn:=by have:=k0.o;simpa using this
   have k:V (gJ [109,99,99] f=[]):=by
    show _=_
    have he:f=[]:=F.1 (by have:=d0.o;omega);rw[he];rfl
   go_wp2_with fail;go_meet
   show Wr _ _ _ _ _ _ _
   rw[k.o,Q];exact r.o
 have C:=hcut;obtain⟨l3,n⟩:∃ln,ln=l2++gJ [109,99,99] f:=⟨_,rfl⟩
 have x1:l3.length<=1000300000:=by
  rw[n,lA]
  have hg:(gJ [109,99,99] f).length<=200000:=by
   unfold gJ
   split
   ·simp
   rw[XK]at N0;simp only[M,G,A];omega
  omega
 rw[<-n]at C;have r:=C;have p1:=Za n;have I1:wc.cell? ⟨X,6,Y⟩=Z (U u):=w.o _ _ r.o 6 _ rfl;generalize wc=W4 at*
 go_upto_if 45 with fail
 go_cut [] (fun wx=>V (Wr w0 w0.heap.size b (l3++CB u T a8) X O wx))
 case first=>
  cases u with
  |true=>
   go_upto_region 6 with fail;have T0:=Za (r.o.fr Zt.drew);have HS:=Za (fun l W (h:Wr w0 w0.heap.size b l X O W)=>And.intro (w.o l W h 7 _ rfl) (w.o l W h 8 _ rfl));have hS:=HS.o _ _ r.o;obtain⟨y1,z,z1,k1⟩:=XL ⟨#[32,97,109,111,117,110,116,32]⟩ (ZQ (Ya T)) 8 21 (by decide) P0 (by omega);obtain⟨y2,a0,z2,k2⟩:=XL y1 ⟨#[46,46]⟩ _ 2 z1 (by decide) (by omega);obtain⟨y3,f0,z3,k3⟩:=XL y2 (ZQ (Ya a8)) _ 21 z2 Q0 (by omega)
   go_region_held3 (fun W=>W.cell? ⟨X,7,Y⟩=Z (I J (T:Nat))/\W.cell? ⟨X,8,Y⟩=Z (I J (a8:Nat))) (first|assumption|go_keep) (first
    |(go_at_call 106;refine(HI.o _ _ _ (by assumption) (by assumption)).mono ?_;rintro e w7 ⟨rfl,g0⟩;have i0:=HS.o _ _ g0.o)
    |(go_at_call 105;refine(HW.o _ _ _ (by assumption) (by omega) (by omega)).mono ?_;rintro e w7 ⟨rfl,j⟩;have i0:=HS.o _ _ j.o))
   have k:V (y3.data.toList=CB true T a8):=by
    show _=_
    rw[f0.o,a0.o,z.o];simp[CB,ZQ]
   go_wp2_with fail;go_meet
   show Wr _ _ _ _ _ _ _
   have e:=j.o;rw[k.o]at e;exact e
  |false=>
   go_wp2_with fail;go_meet
   show Wr _ _ _ _ _ _ _
   rw[show CB false T a8=[]from rfl,Q];exact r.o
 have C:=hcut;obtain⟨l4,n⟩:∃ln,ln=l3++CB u T a8:=⟨_,rfl⟩
 have A1:l4.length<=1000400000:=by
  rw[n,lA]
  have hg:(CB u T a8).length<=100:=by
   unfold CB;rw[XK]at P0 Q0
   split
   ·simp only[M,G,A];omega
   simp
  omega
 rw[<-n]at C;have r:=C;have q1:=Za n;generalize wc=W5 at*
 have B0:V (∀W,Below w0.heap.size w0 W->0<cn->R E 108 #[P ca cn cc] W fun e w'=>e=H (K (ZQ (Xe (g.map Ya))))/\F0 W w'):=fun W hW h0=>by
  have e:=p0.o g ca cc W hW (by rw[e0.o];exact HC.o) (by rw[e0.o];exact h0) K0.o.1 K0.o.2;rw[e0.o]at e;exact e
 obtain⟨bm,j0⟩:∃bm,decide (0<cn)=bm:=⟨_,rfl⟩
 have V0:decide ((0:Int)<(cn:Int))=bm:=by rw[<-j0];by_cases hq:0<cn<;>simp[hq]<;>omega
 have k0:=Za j0;have o1:W5.cell? ⟨X,9,Y⟩=Z (P ca cn cc):=w.o _ _ r.o 9 _ rfl
 go_upto_if 62 with fail
 go_cut [] (fun wx=>V (Wr w0 w0.heap.size b (l4++gJ [99,117,114] g) X O wx))
 case first=>
  cases bm with
  |true=>
   have h0:0<cn:=by have:=k0.o;simpa using this
   obtain⟨y1,z,z1,k1⟩:=XL ⟨#[32,99,117,114,32]⟩ (ZQ (Xe (g.map Ya))) 5 100000 (by decide) O0 (by omega);go_wp2_with fail;refine(B0.o _ r.o.be h0).mono ?_;rintro e w4 ⟨rfl,hf⟩;have m0:=Za (r.o.fr hf);go_wp2_with fail;refine(HW.o _ _ _ m0 (by omega) (by omega)).mono ?_;rintro e w5 ⟨rfl,j⟩
   have k:V (y1.data.toList=gJ [99,117,114] g):=by
    show _=_
    have C0:¬g=[]:=fun e=>by have:=e0.o;rw[e]at this;simp at this;omega
    rw[z.o];simp[gJ,ZQ,C0]
   go_wp2_with fail;go_meet
   show Wr _ _ _ _ _ _ _
   have e:=j.o;rw[k.o]at e;exact e
  |false=>
   have h0:¬0<cn:=by have:=k0.o;simpa using this
   have k:V (gJ [99,117,114] g=[]):=by
    show _=_
    have he:g=[]:=F.1 (by have:=e0.o;omega);rw[he];rfl
   go_wp2_with fail;go_meet
   show Wr _ _ _ _ _ _ _
   rw[k.o,Q];exact r.o
 have C:=hcut;obtain⟨l5,n⟩:∃ln,ln=l4++gJ [99,117,114] g:=⟨_,rfl⟩
 have B1:l5.length<=1000700000:=by
  rw[n,lA]
  have hg:(gJ [99,117,114] g).length<=200000:=by
   unfold gJ
   split
   ·simp
   rw[XK]at O0;simp only[M,G,A];omega
  omega
 rw[<-n]at C;have r:=C;have r1:=Za n;generalize wc=W6 at*;obtain⟨y1,z,z1,k1⟩:=XL ⟨#[32,45,62,32]⟩ (ZQ (N7 dc ch (B.map (Z0 rts)))) 4 13000000 (by decide) M0 (by omega);obtain⟨y2,a0,z2,k2⟩:=XL y1 ⟨#[59,10]⟩ _ 2 z1 (by decide) (by omega);have q:=w.o _ _ r.o;have s0:=q 0 _ rfl;have s1:=q 1 _ rfl;have s2:=q 2 _ rfl;have s3:=q 3 _ rfl;have s4:=q 4 _ rfl;have s5:=q 5 _ rfl;have s6:=q 6 _ rfl;have s7:=q 7 _ rfl;have s8:=q 8 _ rfl;have s9:=q 9 _ rfl;have J1:=q 10 _ rfl;have K1:=q 11 _ rfl;have L1:=q 12 _ rfl;have M1:=q 13 _ rfl;have t1:=Za (b0.o W6 r.o.be);go_wp2_with fail;refine t1.o.mono ?_;rintro e w4 ⟨rfl,hf⟩;have m0:=Za (r.o.fr hf);go_wp2_with fail;refine(HW.o _ _ _ m0 (by omega) (by omega)).mono ?_;rintro e w5 ⟨rfl,j⟩
 have k:V (y2.data.toList=vh dc ch (B.map (Z0 rts))):=by
  show _=_
  rw[a0.o,z.o];simp[vh,ZQ]
 go_wp2_with fail
 go_end0
 refine⟨rfl,?_,j.o.be⟩;have e:=j.o.bd;rw[k.o,r1.o,q1.o,p1.o,n1.o,m1.o]at e
 simpa using e
theorem Tw.get {base:Nat}{w:y7}:∀{rs:List Ze}{a:List Value}{j:Nat}{r:Ze},Tw base w rs a->rs[j]?=Z r->∃c,BT base w r c/\c.length=14/\∀o v,c[o]?=Z v->a[j*14+o]?=Z v
 |[],_,j,_,_,hj=>by simp at hj
 |r::rs,a,0,r',⟨c,rest,e,h1,h2⟩,hj=>by
  simp at hj;subst hj
  have l:c.length=14:=by obtain⟨f,g,h,d,_⟩:=h1;rw[d];rfl
  refine⟨c,h1,l,fun o v b=>?_⟩;have:=(iG.1 b).1;rw[e,Nat.zero_mul,z9,List.getElem?_append_left this];exact b
 |r::rs,a,j+1,r',⟨c,rest,e,h1,h2⟩,hj=>by
  obtain⟨i,k,m,n⟩:=Tw.get h2 (j:=j) (r:=r') (by simpa using hj)
  have l:c.length=14:=by obtain⟨f,g,h,d,_⟩:=h1;rw[d];rfl
  refine⟨i,k,m,fun o v b=>?_⟩;rw[e,aR (by omega),l,show(j+1)*14+o-14=j*14+o from by omega];exact n o v b
theorem Qg {w:y7}{base e b a n m c f}(h:w.ownsRow base e b (P a n c) m f):m<=c:=by
 rcases h.2 with⟨d,j⟩|⟨g,cap,i,d,_,_,k,_⟩
 ·omega
 injection d with _ _ l;omega
theorem AP (kw l)(e:kw.length<=10)(f:l.length<=4000)(b:∀x,x∈l->x<1000000000):(gJ kw l).length<=93000:=by
 have c:=Ui (l.map Ya) 21 (fun x a=>by obtain⟨y,d,rfl⟩:=L.1 a;exact Xs y (b y d));rw[N]at c;unfold gJ
 split
 ·simp
 simp only[M,G];omega
theorem AQ {rts r}(h:Tc rts.length r)(a:∀t,t∈rts->t.name.size<=3000):(PF rts r).length<=12300000:=by
 rw[N8];have g1:=AP [109,99,99] r.mcc (by simp) h.mc.1 h.mc.2;have g2:=AP [99,117,114] r.cur (by simp) h.cu.1 h.cu.2
 have g:r.name.data.toList.length=r.name.size:=by simp
 have n2:=h.nm;have i:=Xs _ h.rk;have j:=QY _ _ h.lo.2;have k:=QY _ _ h.hi.2;have dg:=h.dg
 have l:(CB r.am.isSome (r.am.getD (0,0)).1 (r.am.getD (0,0)).2).length<=60:=by
  cases b:r.am with
  |none=>simp[CB]
  |some c=>
   have m:=Xs _ (h.am c b).1;have n:=Xs _ (h.am c b).2;simp[CB];omega
 have o:(vh r.decline r.cheapest (r.routes.map (Z0 rts))).length<=12010000:=by
  have d:=Ui (r.routes.map (Z0 rts)) 3000 (fun x e=>by
   obtain⟨p,q,rfl⟩:=L.1 e;unfold Z0
   cases f:rts[p]? with
   |none=>simp
   |some t=>have:=a t (mG f);simpa using this)
  rw[N]at d;have s:r.routes.length*(3000+2)<=4000*3002:=z5 h.pl.1 (by omega);unfold vh N7
  cases r.decline<;>cases r.cheapest<;>simp<;>omega
 unfold vf vg;simp only[M,G,A];omega
theorem Db {w W q a l m f rts}(b:w.ownsRow (q+1) 148 3 (P f rts.length m) rts.length (Yh rts))(r:Below w.heap.size w W)(h:l<=rts.length):
  CA W w.heap.size (if m=a then f else Option.map (fun x=>x.add (a*3)) f) ((rts.take l).drop a):=by
 intro j t c;rw[List.getElem?_drop,List.getElem?_take]at c
 split at c
 ·rename_i s
  have u:=Qg b;obtain⟨g,cap,e,B,d,_⟩:=Uq b (by omega);injection e with v _ C;subst v;obtain⟨y,z,A⟩:=TI rts (a+j) t c;have c1:=b.cells (g:=g) rfl _ _ y;have n:=b.cells (g:=g) rfl _ _ z;have o:=b.cells (g:=g) rfl _ _ A;rw[Kl,z9]at c1 n o;have i:F0 w W:=Fr.of_below r
  have k:a*3+j*3=(a+j)*3:=by omega
  refine⟨g,a*3,?_,d,?_,?_,?_⟩
  ·rw[if_neg (by omega)]
   simp[Kl]
  ·rw[k];exact(i.cell (p:=⟨g,(a+j)*3,Y⟩) d).trans c1
  ·rw[k];exact(i.cell (p:=⟨g,(a+j)*3+1,Y⟩) d).trans n
  rw[k];exact(i.cell (p:=⟨g,(a+j)*3+2,Y⟩) d).trans o
 cases c
theorem Wr.routes {w0 B b l X i T W}(h:Wr w0 B b l X (C i T) W)(m:∀w',Below B w0 w'->QW w')(a n c rts)(o:n=rts.length)(p:CA W B a rts)(d:∀t,t∈rts->Lz t)(f:rts.length<=6)(g:l.length<=100000000)(q:X≠b)(r:T≠5):
  R E 59 #[D (Z ⟨b,0,Y⟩),P a n c] W fun e w'=>e=H (.tuple #[])/\Wr w0 B b (l++rts.flatMap Ux) X (C i T) w':=by
 subst o
 exact(Su W B b l a c rts h.le h.bd (fun w' s=>m w' (h.be.trans s)) p d f g).mono fun e w' ⟨u,v,j,k⟩=>⟨u,v,h.be.trans j,z8 h.le j.size,k X _ h.ob (by simpa using q) (fun c x e=>by injection e with _ w;exact r w),h.ok.trans k⟩
theorem CC (w Q vr vl rts f xs)(L:Bk w Q vr vl rts f xs)(ho:Yx rts f)(M:QW w):
    R E 33 #[D (Z ⟨Q,0,Y⟩)] w fun e w'=>e=H (K (ZQ (VF rts f)))/\F0 w w':=by
  have e0:V (∀w',Below w.heap.size w w'->QW w'):=fun w' h=>M.below (z0 _) h
  have N:=Za L;have HO:=Za ho;obtain⟨la,lc,H0⟩:=oL L.lo;obtain⟨ra,z,I0⟩:=oL L.ro;subst H0 I0;have n0:=Za (bL w _ L.c0);obtain⟨n,hn⟩:∃n,f.length=n:=⟨_,rfl⟩;have HN:=Za hn;obtain⟨q,f0⟩:∃q,rts.length=q:=⟨_,rfl⟩;have u:=Za f0;have c0:=L.c0;have c1:=L.c1;rw[f0]at c0;rw[hn]at c1
  have k1:n<=8:=by have:=L.l8;omega
  have l1:q<=6:=by have:=L.r6;omega
  clear L ho M hn f0;go_enter Tryz.func33,Tryz.ntmps33;go_upto_region 2 with fail;have o0:=(Vx w (C #[D Y,P Y 0 0] 116)).1;have p0:V (Bd (w.alloc (C #[D Y,P Y 0 0] 116)) w.heap.size w.heap.size []):=.inl ⟨z0 _,P Y 0 0,heap_alloc_new w _,World.ownsRowF_nil _ _ _ _,by simp[Value.ownBlock]⟩;generalize w.alloc _=W0 at*;have q0:=Za (o0.o.below (z0 _));obtain⟨b,hb⟩:∃b,w.heap.size=b:=⟨_,rfl⟩
  have J0:V (Bd W0 w.heap.size b []):=by rw[<-hb];exact p0.o
  rw[hb];clear p0 hb
  have g0:V (∀W,Below w.heap.size w W->W.cell? ⟨Q,0,Y⟩=Z (P ra q z)):=fun W hW=>(Fr.cell (S:=fun _=>False) (Fr.of_below hW) (p:=⟨Q,0,Y⟩) n0.o).trans c0
  have d1:=(o0.o.cell (p:=⟨Q,1,Y⟩) n0.o).trans c1;clear c0 c1;go_wp2_with fail
  go_loopg [4,6,12] n (fun m td _ ix wr=>∃k c l,k<=n/\m=n-k/\ix=I J (k:Nat)/\td=I J (c:Nat)/\c<=q/\l.length<=k*12400000/\V (Bd wr w.heap.size b l)/\V (Below w.heap.size w wr)/\V (VF rts f=l++Wi rts c (f.drop k))/\V (Cx c (f.drop k)))
  case atStart=>exact⟨0,0,[],y8 _,rfl,rfl,rfl,y8 _,by simp,J0,q0,rfl,HO.o.ah⟩
  obtain⟨k,c,l,L,rfl,rfl,rfl,m1,hl,h0,s,r0,s0⟩:=hrel;have c0:=g0.o wr s.o;by_cases n1:k<n
  · obtain⟨r,T⟩:∃r,f[k]?=Z r:=⟨_,gE (by have:=HN.o;omega)⟩
    have j:=Za (HO.o.rl r (mG T))
    have i0:V (f.drop k=r::f.drop (k+1)):=by
      show _=_
      have t0:=(iG.1 T);rw[dC t0.1,t0.2]
    obtain⟨cs,⟨vm,vc,vp,w0,hm,hc,hp⟩,K0,A0⟩:=N.o.ru.get T;obtain⟨gl,j1,el,o1,L0,_⟩:=Uq N.o.lo (by have:=HN.o;omega);injection el with M0 p1 N0;subst M0 N0;obtain⟨ma,mc,e1⟩:=oL hm;obtain⟨ca,cc,e2⟩:=oL hc;obtain⟨pa,pc,e3⟩:=oL hp;subst e1 e2 e3
    have a:∀o v,cs[o]?=Z v->wr.cell? ⟨gl,k*14+o,Y⟩=Z v:=fun o v ho=>by
      have:=N.o.lo.cells (g:=gl) rfl _ _ (A0 o v ho);rw[Kl,z9]at this;exact(Fr.cell (S:=fun _=>False) (Fr.of_below s.o) (p:=⟨gl,k*14+o,Y⟩) L0).trans this
    rw[w0]at a;have v0:=a 0 _ rfl;have v1:=a 1 _ rfl;have v2:=a 2 _ rfl;have v3:=a 3 _ rfl;have v4:=a 4 _ rfl;have v5:=a 5 _ rfl;have v6:=a 6 _ rfl;have v7:=a 7 _ rfl;have v8:=a 8 _ rfl;have v9:=a 9 _ rfl;have O0:=a 10 _ rfl;have P0:=a 11 _ rfl;have Q0:=a 12 _ rfl;have R0:=a 13 _ rfl;rw[Nat.add_zero]at v0
    have S0:(k:Int)<(n:Int):=by omega
    clear a A0 K0 w0 T;go_upto_region 6 with fail;have B0:=Za s.o.size
    have HZ:V (Wr w w.heap.size b l wr.heap.size (C #[K r.name,I J r.rank,I J r.digits,I J r.lo,I J r.hi,P ma r.mcc.length mc,U r.am.isSome,I J (r.am.getD (0,0)).1,I J (r.am.getD (0,0)).2,P ca r.cur.length cc,U r.decline,U r.cheapest,P pa r.routes.length pc,I J r.ahead] 120) (wr.alloc (C #[K r.name,I J r.rank,I J r.digits,I J r.lo,I J r.hi,P ma r.mcc.length mc,U r.am.isSome,I J (r.am.getD (0,0)).1,I J (r.am.getD (0,0)).2,P ca r.cur.length cc,U r.decline,U r.cheapest,P pa r.routes.length pc,I J r.ahead] 120))):=
      ⟨h0.o.fr (Zt.alloc _),s.o.trans (((Fr.refl (fun _=>False) wr).alloc _).below B0.o),z8 B0.o (by simp),aN wr _,AM (IY s.o) (Zt.alloc _)⟩
    have T0:V (wr.heap.size≠b):=by have:=h0.o.lt.2;show _≠_;omega
    have q1:V (Km r.name r.rank r.digits r.lo r.hi ma r.mcc.length mc r.am.isSome (r.am.getD (0,0)).1 (r.am.getD (0,0)).2 ca r.cur.length cc r.decline r.cheapest pa r.routes.length pc r.ahead=.agg #[K r.name,I J r.rank,I J r.digits,I J r.lo,I J r.hi,P ma r.mcc.length mc,U r.am.isSome,I J (r.am.getD (0,0)).1,I J (r.am.getD (0,0)).2,P ca r.cur.length cc,U r.decline,U r.cheapest,P pa r.routes.length pc,I J r.ahead]):=rfl;obtain⟨i,a0⟩:∃i,i=r.ahead:=⟨_,rfl⟩;have j0:=Za a0
    have r1:c<=i:=by have:=s0.o;rw[i0.o]at this;rw[a0];exact this.1
    have s1:i<=q:=by have:=j.o.ah;have:=u.o;omega
    have V0:q<=z:=by have:=Qg N.o.ro;have:=u.o;omega
    have i1:(0:Int)<=(c:Int):=by omega
    have i2:(c:Int)<=(i:Int):=by omega
    have i3:(i:Int)<=(z:Int):=by omega
    generalize wr.alloc _=W1 at*;generalize wr.heap.size=X at*
    have X0:W1.cell? ⟨X,13,Y⟩=Z (I J (i:Nat)):=by rw[a0];exact Zc HZ.o.ob 13
    have y0:=g0.o W1 HZ.o.be;clear v0 v1 v2 v3 v4 v5 v6 v7 v8 v9 O0 P0 Q0 R0 c0 a0
    have A:V (((rts.take i).drop c).length=i-c):=by have:=u.o;show _=_;rw[y5,y6];omega
    have y:V (∀t,t∈(rts.take i).drop c->Lz t):=fun t M=>HO.o.rt t (z6 (z7 M))
    obtain⟨O,F⟩:∃O,(if z=c then ra else Option.map (fun x=>x.add (c*3)) ra)=O:=⟨_,rfl⟩
    have k0:V (∀W,Below w.heap.size w W->CA W w.heap.size O ((rts.take i).drop c)):=fun W hW=>by rw[<-F];exact Db N.o.ro hW (by have:=u.o;omega)
    have l0:V (∀W,V (Wr w w.heap.size b l X (C #[K r.name,I J r.rank,I J r.digits,I J r.lo,I J r.hi,P ma r.mcc.length mc,U r.am.isSome,I J (r.am.getD (0,0)).1,I J (r.am.getD (0,0)).2,P ca r.cur.length cc,U r.decline,U r.cheapest,P pa r.routes.length pc,I J r.ahead] 120) W)->
        R E 59 #[D (Z ⟨b,0,Y⟩),P O (i-c) (z-c)] W fun e w'=>e=H (.tuple #[])/\V (Wr w w.heap.size b (l++((rts.take i).drop c).flatMap Ux) X (C #[K r.name,I J r.rank,I J r.digits,I J r.lo,I J r.hi,P ma r.mcc.length mc,U r.am.isSome,I J (r.am.getD (0,0)).1,I J (r.am.getD (0,0)).2,P ca r.cur.length cc,U r.decline,U r.cheapest,P pa r.routes.length pc,I J r.ahead] 120) w')/\(w'.cell? ⟨Q,0,Y⟩=Z (P ra q z)/\w'.cell? ⟨X,13,Y⟩=Z (I J (i:Nat)))):=fun W hZ=>
      (hZ.o.routes e0.o _ _ _ _ A.o.symm (k0.o W hZ.o.be) y.o (by have:=A.o;omega) (by omega) T0.o (by decide)).mono fun e w' ⟨he,hz⟩=>⟨he,hz,g0.o _ hz.be,by rw[j0.o];exact Zc hz.ob 13⟩
    have t1:=Za (HZ.o.fr Zt.drew);clear HZ
    go_region_held3 (fun W=>W.cell? ⟨Q,0,Y⟩=Z (P ra q z)/\W.cell? ⟨X,13,Y⟩=Z (I J (i:Nat))) (first|assumption|go_keep) (first
      |(go_at_call 59;refine(l0.o _ (by assumption)).mono ?_;rintro e w7 ⟨rfl,d,Y0⟩))
    have x0:=Zc d.o.ob 0;have x1:=Zc d.o.ob 1;have x2:=Zc d.o.ob 2;have x3:=Zc d.o.ob 3;have x4:=Zc d.o.ob 4;have x5:=Zc d.o.ob 5;have x6:=Zc d.o.ob 6;have x7:=Zc d.o.ob 7;have x8:=Zc d.o.ob 8;have x9:=Zc d.o.ob 9;have Z0:=Zc d.o.ob 10;have a1:=Zc d.o.ob 11;have b1:=Zc d.o.ob 12;obtain⟨_,C0⟩:=Y0
    have D0:V (l.length+(((rts.take i).drop c).flatMap Ux).length+(PF rts r).length<=(k+1)*12400000):=by
      have h1:=Da ((rts.take i).drop c) y.o;have h2:=A.o;have h3:=AQ j.o (fun t M=>(HO.o.rt t M).1);have h4:((rts.take i).drop c).length*3060<=6*3060:=z5 (by omega) (z0 _)
      show _<=_
      omega
    have f1:V (R E 60 #[D (Z ⟨Q,0,Y⟩),D (Z ⟨b,0,Y⟩),.agg #[K r.name,I J r.rank,I J r.digits,I J r.lo,I J r.hi,P ma r.mcc.length mc,U r.am.isSome,I J (r.am.getD (0,0)).1,I J (r.am.getD (0,0)).2,P ca r.cur.length cc,U r.decline,U r.cheapest,P pa r.routes.length pc,I J (i:Nat)]] w7 fun e w'=>e=H (.tuple #[])/\Bd w' w.heap.size b ((l++((rts.take i).drop c).flatMap Ux)++PF rts r)/\Below w.heap.size w w'):=by
      have h:=LB w w7 b Q (l++((rts.take i).drop c).flatMap Ux) (P ra rts.length z) rts r.name r.rank r.digits r.lo r.hi r.mcc r.cur r.routes r.am.isSome (r.am.getD (0,0)).1 (r.am.getD (0,0)).2 r.decline r.cheapest i ma ca pa mc cc pc d.o.bd d.o.be e0.o N.o.c0 N.o.ro N.o.r6 (fun t M=>(HO.o.rt t M).1) hm hc hp j.o.nm j.o.rk j.o.dg j.o.lo j.o.hi j.o.mc j.o.cu
        (by cases ha:r.am with
          |none=>simp
          |some ab=>simpa using j.o.am ab ha) j.o.pl (by rw[lA];have:=D0.o;omega)
      rw[<-N8]at h;exact h
    clear F i1 i2 i3 hm hc hp X0 y0;go_wp2_with fail;refine f1.o.mono ?_;rintro e w9 ⟨rfl,B,G⟩;have m0:=Za B;have b0:=Za G;clear B G x0 x1 x2 x3 x4 x5 x6 x7 x8 x9 Z0 a1 b1 C0;go_wp2;go_roundg (n-(k+1))
    case measure=>omega
    refine⟨k+1,i,(l++((rts.take i).drop c).flatMap Ux)++PF rts r,by omega,rfl,by go_num,rfl,by omega,by(have:=D0.o;rw[lA,lA];omega),m0,b0,?_,?_⟩
    · show _=_
      rw[r0.o,i0.o,Wi,<-j0.o];simp only[List.append_assoc]
    have e:=s0.o
    rw[i0.o]at e
    show Cx _ _
    rw[j0.o];exact e.2
  have S0:¬(k:Int)<(n:Int):=by omega
  have ek:k=n:=by omega
  obtain⟨O,F⟩:∃O,(if z=c then ra else Option.map (fun x=>x.add (c*3)) ra)=O:=⟨_,rfl⟩
  have A:V (((rts.take q).drop c).length=q-c):=by have:=u.o;show _=_;rw[y5,y6];omega
  have y:V (∀t,t∈(rts.take q).drop c->Lz t):=fun t M=>HO.o.rt t (z6 (z7 M))
  have k0:V (CA wr w.heap.size O ((rts.take q).drop c)):=by show CA _ _ _ _;rw[<-F];exact Db N.o.ro s.o (by have:=u.o;omega)
  have l0:V (R E 59 #[D (Z ⟨b,0,Y⟩),P O (q-c) (z-c)] wr fun e w'=>e=H (.tuple #[])/\Bd w' w.heap.size b (l++((rts.take q).drop c).flatMap Ux)/\Below w.heap.size wr w'/\Lib.OthersKept 5 (Z b) wr w'):=by
    have h:=Su wr w.heap.size b l O (z-c) ((rts.take q).drop c) s.o.size h0.o (fun w' hw=>e0.o w' (s.o.trans hw)) k0.o y.o (by have:=A.o;omega) (by omega);rw[A.o]at h;exact h
  have E0:V (VF rts f=l++((rts.take q).drop c).flatMap Ux):=by
    have e:=r0.o;rw[dL (by have:=HN.o;omega)]at e
    show _=_
    rw[e,List.take_of_length_le (by have:=u.o;omega)];rfl
  have V0:q<=z:=by have:=Qg N.o.ro;have:=u.o;omega
  have i1:(0:Int)<=(c:Int):=by omega
  have i2:(c:Int)<=(q:Int):=by omega
  have i3:(q:Int)<=(z:Int):=by omega
  clear ek;go_wp2_with fail;refine l0.o.mono ?_;rintro e w9 ⟨rfl,B,G,_⟩
  have m0:V (Bd w9 w.heap.size b (VF rts f)):=by rw[<-E0.o]at B;exact B
  have b0:=Za (s.o.trans G);clear B G F c0;go_wp2_with fail;refine(IU w.heap.size b (VF rts f) w9 m0.o b0.o.size).mono ?_;rintro e g1 ⟨rfl,d0⟩;have G0:V (F0 w g1):=Fr.of_below (b0.o.trans d0);clear d0;go_wp2;go_ret;exact⟨rfl,G0.o⟩
