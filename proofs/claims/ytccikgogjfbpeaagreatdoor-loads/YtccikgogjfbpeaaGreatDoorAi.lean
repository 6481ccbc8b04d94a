import Derived.Test.YtccikgogjfbpeaaGreatDoorAh
import Derived.Laws.AppendOwnNone
open Go.Value renaming int->I,slice->V,bool->U,pointer->N,string->z9,oneCell'->y9,agg->q9,string->j6,slice->g6
open Go.IntKind renaming i64->P,u8->y8
open Option renaming none->Y,some->Z
open Go.Obj renaming cells->O
open Go.Proofs.Tryz renaming prog->E
open Go.Ending renaming returned->H
open Go.RowKit renaming Hid->M
open Or renaming inr->T,inl->j1
open Go.World renaming cell?_setCell_other->X,news_of_block->z0,cell?_setCell_same->j8
open List renaming length_take->C,getElem?_append_left->x4,length_eq_zero_iff->q8,mem_append->j0,range->j2,mem_cons->j3,append_assoc->j4,length_drop->j5,map_append->j9,append_nil->k2,take_append_drop->k3,mem_cons_of_mem->k4,mem_of_mem_take->k5,pairwise_append->k6,getElem_of_mem->k7,mem_cons_self->k8,length_cons->g7
open Go renaming World->F,Calls->Q,Value->x3
open Nat renaming le_refl->z8,le_trans->x2,zero_add->q0,le_of_eq->j7,eq_zero_or_pos->k9,zero_le->g5,zero_mul->g9,add_zero->p0,sub_self->p8
namespace Go.Proofs.YtccikgogjfbpeaaGreatDoor
set_option maxRecDepth 30000
set_option maxHeartbeats 8000000
open Go.RowKit Go.Shelf
attribute [local go_sem] Oper.semAt_some
theorem I0 (n Bs Bd c D lo hi d)(j:D<=6)(g:lo<=1000000)(h:hi<10^D)(i:d.map Subtype.val=YS D lo hi)(w)(a:c<=w.heap.size)(b:Bs<c)(e:Bd<c)(k:w.cell? ⟨Bs,0,Y⟩=Z (I P lo))(m:w.cell? ⟨Bs,1,Y⟩=Z (I P hi))(o:w.cell? ⟨Bd,0,Y⟩=Z (I P D)):
    SeqStopsK Fence.wide n E 221 #[N (Z ⟨Bs,0,Y⟩),N (Z ⟨Bd,0,Y⟩)] (fun x:SW=>#[VX x.1]) (Below c) (fun q=>q=d) (fun pre=>pre<+:d) d.length w:=fun l J r W f s _ t u=>
  CK n l Bs Bd c D lo hi d j g h i J r W s t (x2 a f.size) b e
    ((f.cell (p:=⟨Bs,0,Y⟩) (nL b a)).trans k) ((f.cell (p:=⟨Bs,1,Y⟩) (nL b a)).trans m) ((f.cell (p:=⟨Bd,0,Y⟩) (nL e a)).trans o) u
def GY (b:ByteArray)(rk dg lo hi:Nat)(c:Option Addr)(d e:Nat)(a:Bool)(f g:Nat)(h:Option Addr)(i j:Nat)(k l:Bool)(m:Option Addr)(n o:Nat)(p:Nat):x3:=
 q9 #[z9 b,I P rk,I P dg,I P lo,I P hi,V c d e,U a,I P f,I P g,V h i j,U k,U l,V m n o,I P p]
theorem SX {q:Z5}:∀{pre:List Z5}(a:List Z5),(∀p,p∈pre->p.holds q=false/\q.holds p=false)->ZI q (pre++a)=ZI q a
 |[],_,_=>rfl
 |p::r,a,h=>by
  have b:=h p k8;rw[<-SX (pre:=r) a (fun x c=>h x (k4 _ c))]
  show ZI q (p::(r++a))=_
  rw[ZI,b.1,b.2];simp
def JE (q:Z5)(pre:List SW):Prop:=∀p:Z5,p∈pre.map Subtype.val->p.holds q=false/\q.holds p=false
def sB (w:F)(b:Nat)(q:Z5)(pre:List SW)(W:F):Prop:=
 (JE q pre/\W.cell? ⟨b+1,0,Y⟩=Z (I P q.d)/\W.cell? ⟨b+1,1,Y⟩=Z (I P q.x)/\W.cell? ⟨b+1+1,0,Y⟩=Z (I P 0)/\W.frozen? ⟨b+1+1,0,Y⟩=false/\b+5<=W.heap.size)/\Below b w W
def sd (w:F)(b:Nat)(q:Z5)(c:Code)(pre:List SW)(W:F):Prop:=
 (c=.ret/\∃v:Nat,W.cell? ⟨b+1+1,0,Y⟩=Z (I P v)/\∀a,ZI q (pre.map Subtype.val++a)=v)/\Below b w W
theorem A0 {w W b q pre x}(e:JE q pre)(v:Nat)(f:W.cell? ⟨b+1+1,0,Y⟩=Z (I P v))(g:(x.1.holds q=true/\v=2)\/(x.1.holds q=false/\q.holds x.1=true/\v=1))(h:Below b w W):sd w b q .ret (pre++[x]) W:=by
 refine⟨⟨rfl,v,f,fun a=>?_⟩,h⟩;rw[j9,j4,SX _ e]
 show ZI q (x.1::a)=v
 unfold ZI;rcases g with⟨c,d⟩|⟨c,d,i⟩
 ·rw[c];simp[d]
 rw[c,d];simp[i]
theorem I1 {q pre x}(b:JE q pre)(c:x.1.holds q=false)(d:q.holds x.1=false):JE q (pre++[x]):=by
 intro p a;rw[j9,j0]at a;rcases a with a|a
 ·exact b p a
 simp at a;subst a;exact⟨c,d⟩
theorem VY {W a}(h:Below W.heap.size W a):KeepsOthers W a:=⟨h.size,fun k _ b _=>(h.block k (iA.1 b).1).trans b⟩
set_option maxRecDepth 100000 in
theorem A5 (nm rk D lo hi ma mn mc G a7 a8 ca cn cc dc ch pa pn pc ah q w)(hD:D<=6)(i0:lo<=1000000)(j0:hi<10^D)(hq:q.d<=6/\q.x<=1000000)(xs:List SW)(J:xs.map Subtype.val=YS D lo hi):
  CallsIn Fence.wide 5 E 146 #[GY nm rk D lo hi ma mn mc G a7 a8 ca cn cc dc ch pa pn pc ah,VX q] w fun e w'=>e=H (I P (ZI q (YS D lo hi)))/\Below w.heap.size w w':=by
 unfold GY VX;refine callsIn_of_wp_marks Tryz.func146 rfl trivial ?_ rfl;simp only[Tryz.ntmps146,List.size_toArray,g7,List.length_nil,Nat.reduceAdd,Nat.reduceSub,Array.replicate_succ,Array.replicate_zero,List.push_toArray,List.append_toArray,List.nil_append,List.cons_append]
 gi_wp2
 refine⟨trivial,?_⟩;refine(callsIn_wide.2 (CJ _ _ _ _)).mono ?_;rintro e w' ⟨rfl,rfl⟩
 gi_wp2
 generalize r0:Value.agg #[z9 nm,I P rk,I P D,I P lo,I P hi,V ma mn mc,U G,I P a7,I P a8,V ca cn cc,U dc,U ch,V pa pn pc,I P ah]=RV;generalize s0:Obj.cells #[z9 nm,I P rk,I P D,I P lo,I P hi,V ma mn mc,U G,I P a7,I P a8,V ca cn cc,U dc,U ch,V pa pn pc,I P ah] 120=RC;obtain⟨j,i⟩:∃j,((((w.alloc RC).alloc (O #[I P q.d,I P q.x] 181)).alloc (O #[I P 0] 244)).alloc (O #[I P D] 3)).alloc (O #[I P lo,I P hi] 118)=j:=⟨_,rfl⟩;obtain⟨b,z⟩:∃b,w.heap.size=b:=⟨_,rfl⟩
 have t0:j.heap.size=b+5:=by rw[<-i,<-z];simp
 have hF:F0 w j:=by rw[<-i];exact(((Zt.alloc _).alloc _).alloc _).alloc _|>.alloc _
 have l0:Below b w j:=hF.below (by omega)
 have o1:j.heap[b+1]?=Z (O #[I P q.d,I P q.x] 181):=by
  rw[<-i,<-z];exact((((Fr.refl (fun _=>False) _).alloc _).alloc _).alloc _).whole (by have:=aN (w.alloc RC) (O #[I P q.d,I P q.x] 181);simpa using this) (by simp)
 have o2:j.heap[b+1+1]?=Z (O #[I P 0] 244):=by
  rw[<-i,<-z];exact(((Fr.refl (fun _=>False) _).alloc _).alloc _).whole (by have:=aN ((w.alloc RC).alloc (O #[I P q.d,I P q.x] 181)) (O #[I P 0] 244);simpa using this) (by simp)
 have o3:j.heap[b+1+1+1]?=Z (O #[I P D] 3):=by
  rw[<-i,<-z];exact((Fr.refl (fun _=>False) _).alloc _).whole (by have:=aN (((w.alloc RC).alloc (O #[I P q.d,I P q.x] 181)).alloc (O #[I P 0] 244)) (O #[I P D] 3);simpa using this)
 have o4:j.heap[b+1+1+1+1]?=Z (O #[I P lo,I P hi] 118):=by
  rw[<-i,<-z];have:=aN ((((w.alloc RC).alloc (O #[I P q.d,I P q.x] 181)).alloc (O #[I P 0] 244)).alloc (O #[I P D] 3)) (O #[I P lo,I P hi] 118)
  simpa using this
 rw[i,z]
 have hR:∀(L R:Z5)(W:F),L.d<=6->R.d<=6->L.x<=1000000->R.x<=1000000->Q E 186 #[q9 #[I P L.d,I P L.x],q9 #[I P R.d,I P R.x]] W fun e w'=>e=H (U (L.holds R))/\Below W.heap.size W w':=fun L R W h1 h2 h3 h4=>CI L R W h1 h2 h4 h3
 refine wpIn_rangeFunc_ownH rfl (by omega) (gf:=221) (lb:=#[N (Z ⟨b+1+1+1+1,0,Y⟩),N (Z ⟨b+1+1+1,0,Y⟩)]) rfl trivial (enters_of Tryz.func221 (by kernel_rfl) rfl)
  (I0 (5-1) (b+1+1+1+1) (b+1+1+1) (b+5) D lo hi xs hD i0 j0 J j (by omega) (by omega) (by omega) (Zc o4 0) (Zc o4 1) (Zc o3 0)) belowK_t (belowK_b (by omega)) (Below.refl _ _) (fun _=>rfl)
  (fun pre W=>sB w b q pre W) (fun c pre W=>sd w b q c pre W)
  (OwnFrom.and (Own.from (fun s A B row h m n=>⟨h.1,cell_kept h.2.1 m n,cell_kept h.2.2.1 m n,cell_kept h.2.2.2.1 m n,(frozen_kept h.2.2.2.1 m n).trans h.2.2.2.2.1,x2 h.2.2.2.2.2 m.size⟩) _) (ownFrom_below (by omega) (by omega)))
  (fun c=>OwnFrom.and (Own.from (fun s A B row h m n=>⟨h.1,h.2.choose,cell_kept h.2.choose_spec.1 m n,h.2.choose_spec.2⟩) _) (ownFrom_below (by omega) (by omega)))
  ⟨⟨by intro p S;simp at S,Zc o1 0,Zc o1 1,Zc o2 0,bF o2 0,by omega⟩,l0⟩
  (fun x a' W=>∃C,b+5<=C/\W.cell? ⟨C,0,Y⟩=Z (I P x.1.d)/\W.cell? ⟨C,1,Y⟩=Z (I P x.1.x)/\a'={tmps:=#[RV,q9 #[I P q.d,I P q.x],N (Z ⟨b,0,Y⟩),N (Z ⟨b+1,0,Y⟩),N (Z ⟨b+1+1,0,Y⟩),N (Z ⟨C,0,Y⟩),N (Z ⟨b,2,Y⟩),I P D,N (Z ⟨b,3,Y⟩),q9 #[I P lo,I P hi],.func (.func 221) #[] #[N (Z ⟨b+1+1+1+1,0,Y⟩),N (Z ⟨b+1+1+1,0,Y⟩)],q9 #[I P x.1.d,I P x.1.x],undef,undef,undef,undef,undef,undef],defers:=[]})
  (fun x a'=>Own.from (fun s A B row h m n=>⟨h.choose,h.choose_spec.1,cell_kept h.choose_spec.2.1 m n,cell_kept h.choose_spec.2.2.1 m n,h.choose_spec.2.2.2⟩) _) ?assign ?body ?done ?stop
 case assign=>
  rintro l pre x W K ⟨⟨S,c0,c1,cr,fr,X⟩,u⟩ hK;unfold VX
  gi_wp2
  have f1:=(Lt W (O #[I P x.1.d,I P x.1.x] 181)).1
  have a:∀k,k<b+5->k<W.heap.size:=fun k hk=>by omega
  exact hK _ _ ((KeepsOthers.alloc _ _).from _) ((Below.refl _ W).alloc X _)
   ⟨⟨S,(f1.cell (p:=⟨b+1,0,Y⟩) (a _ (by show b+1<b+5;omega))).trans c0,(f1.cell (p:=⟨b+1,1,Y⟩) (a _ (by show b+1<b+5;omega))).trans c1,(f1.cell (p:=⟨b+1+1,0,Y⟩) (a _ (by show b+1+1<b+5;omega))).trans cr,(f1.frozen (p:=⟨b+1+1,0,Y⟩) (a _ (by show b+1+1<b+5;omega))).trans fr,x2 X f1.size⟩,u.alloc (by omega) _⟩
   ⟨W.heap.size,X,Zc (aN W _) 0,Zc (aN W _) 1,rfl⟩
 case body=>
  rintro l pre x a' W hl ⟨r,n⟩ ⟨⟨S,c0,c1,cr,fr,X⟩,u⟩ ⟨C,v0,x0,x1,rfl⟩ w0;have f0:C<W.heap.size:=bL W _ x0
  have a:∀k,k<b+5->k<W.heap.size:=fun k hk=>by omega
  have HH:=Za S;have y:=x.2;have m0:=Za (hR x.1 q W y.1 hq.1 y.2 hq.2)
  have n0:M (∀W2,Q E 186 #[q9 #[I P q.d,I P q.x],q9 #[I P x.1.d,I P x.1.x]] W2 fun e w'=>e=H (U (q.holds x.1))/\Below W2.heap.size W2 w'):=fun W2=>hR q x.1 W2 hq.1 y.1 hq.2 y.2
  gi_wp2
  refine⟨trivial,?_⟩;refine(CallsIn.inRound l (callsIn_wide.2 m0.o)).mono ?_;rintro e W2 ⟨rfl,g⟩;have g0:=Za g;have d0:=(g.cell (p:=⟨b+1,0,Y⟩) (a _ (by show b+1<b+5;omega))).trans c0;have d1:=(g.cell (p:=⟨b+1,1,Y⟩) (a _ (by show b+1<b+5;omega))).trans c1;have dr:=(g.cell (p:=⟨b+1+1,0,Y⟩) (a _ (by show b+1+1<b+5;omega))).trans cr;have df:=(g.frozen (p:=⟨b+1+1,0,Y⟩) (a _ (by show b+1+1<b+5;omega))).trans fr;have e0:=(g.cell (p:=⟨C,0,Y⟩) f0).trans x0;have e1:=(g.cell (p:=⟨C,1,Y⟩) f0).trans x1
  cases h1:x.1.holds q with
  |true=>
   gi_wp2
   exact⟨((VY g0.o).trans (KeepsOthers.setCell _ _ _)).from _,A0 HH.o 2 (cS _ _ _ dr) (j1 ⟨h1,rfl⟩) ((u.trans (g0.o.mono (by omega))).setCell (p:=⟨b+1+1,0,Y⟩) (by show b<=b+1+1;omega) _)⟩
  |false=>
   gi_wp2
   refine⟨trivial,?_⟩;refine(CallsIn.inRound l (callsIn_wide.2 (n0.o _))).mono ?_;rintro e W3 ⟨rfl,o0⟩;have f:=Za (g.trans (o0.mono g.size));have k0:=(f.o.cell (p:=⟨b+1,0,Y⟩) (a _ (by show b+1<b+5;omega))).trans c0;have k1:=(f.o.cell (p:=⟨b+1,1,Y⟩) (a _ (by show b+1<b+5;omega))).trans c1;have kr:=(f.o.cell (p:=⟨b+1+1,0,Y⟩) (a _ (by show b+1+1<b+5;omega))).trans cr;have kf:=(f.o.frozen (p:=⟨b+1+1,0,Y⟩) (a _ (by show b+1+1<b+5;omega))).trans fr
   cases h2:q.holds x.1 with
   |true=>
    gi_wp2
    exact⟨((VY f.o).trans (KeepsOthers.setCell _ _ _)).from _,A0 HH.o 1 (cS _ _ _ kr) (T ⟨h1,h2,rfl⟩) ((u.trans (f.o.mono (by omega))).setCell (p:=⟨b+1+1,0,Y⟩) (by show b<=b+1+1;omega) _)⟩
   |false=>
    gi_wp2
    exact⟨(VY f.o).from _,f.o.mono X,⟨I1 HH.o h1 h2,k0,k1,kr,kf,x2 X f.o.size⟩,u.trans (f.o.mono (by omega))⟩
 case done=>
  rintro D' ys W p0 rfl ⟨⟨S,c0,c1,cr,fr,X⟩,u⟩ hK
  gi_wp2
  have a0:=(KeepsOthers.setCell W ⟨b+1+1,0,Y⟩ (I P 0)).same D' _ hK rfl;refine⟨by simp,.inl ⟨_,_,rfl,run_takeDeferred a0,?_⟩⟩;have b0:=cell_kept (cS W ⟨b+1+1,0,Y⟩ (I P 0) cr) (grownBy_putObj' _ D' (.deferred Y)) (fun r e=>by cases e;exact⟨_,a0,rfl⟩)
  have hv:ZI q (YS D lo hi)=0:=by
   have:=SX (q:=q) [] S;rw[k2,J]at this;exact this
  refine⟨I P 0,?_,by rw[hv];rfl,?_⟩
  ·simp[results,Tryz.results146,go_sem,b0]
  rw[z]
  exact(u.setCell (p:=⟨b+1+1,0,Y⟩) (by show b<=b+1+1;omega) _).trans (belowK_b (w:=j) (by omega) _ D' _ _ (by omega) a0 rfl rfl)
 rintro D' c pre W p0 h0 ⟨⟨rfl,v,hc,hv⟩,u⟩ hK
 gi_wp2
 refine⟨by simp,.inl ⟨_,_,rfl,run_takeDeferred hK,?_⟩⟩;have b0:=cell_kept hc (grownBy_putObj' _ D' (.deferred Y)) (fun r e=>by cases e;exact⟨_,hK,rfl⟩)
 have q0:ZI q (YS D lo hi)=v:=by
  obtain⟨t,ht⟩:=h0;rw[<-J,<-ht,j9];exact hv _
 refine⟨I P v,?_,by rw[q0],?_⟩
 ·simp[results,Tryz.results146,go_sem,b0]
 rw[z]
 exact u.trans (belowK_b (w:=j) (by omega) _ D' _ _ (by omega) hK rfl rfl)
theorem Oq {d hi:Nat}(c:hi<10^d)(b:d<=6){p:Z5}:∀(n a:Nat),p∈Yp d hi n a->p.d<=6/\p.x<=1000000
 |0,_,h=>by simp[Yp]at h
 |n+1,a,h=>by
  unfold Yp at h
  split at h
  ·rename_i f
   rcases j3.1 h with e|h
   ·subst e
    have g:a/10^SH a hi<=a:=Nat.div_le_self _ _;have i:10^d<=10^6:=Nat.pow_le_pow_right (by omega) b;exact⟨by show d-_<=6;omega,by show a/_<=1000000;omega⟩
   exact Oq c b n _ h
  cases h
theorem CL {d lo hi}(e:hi<10^d)(f:d<=6):∃a:List SW,a.map Subtype.val=YS d lo hi:=by
 have h:∀l:List Z5,(∀p,p∈l->p.d<=6/\p.x<=1000000)->∃a:List SW,a.map Subtype.val=l:=by
  intro l
  induction l with
  |nil=>intro _;exact⟨[],rfl⟩
  |cons p r g=>
   intro c;obtain⟨a,i⟩:=g (fun p b=>c p (k4 _ b));exact⟨⟨p,c p k8⟩::a,by simp only[List.map_cons,i]⟩
 exact h _ (fun p b=>Oq e f _ _ b)
theorem CM (g rk D lo hi h i j a k l m n o p r s t u v q w)(y:D<=6)(c:lo<=1000000)(b:hi<10^D)(z:q.d<=6/\q.x<=1000000):
  Q E 146 #[GY g rk D lo hi h i j a k l m n o p r s t u v,VX q] w fun e w'=>e=H (I P (ZI q (YS D lo hi)))/\Below w.heap.size w w':=by
 obtain⟨A,f⟩:=CL (lo:=lo) b y;exact callsIn_wide.1 (A5 g rk D lo hi h i j a k l m n o p r s t u v q w y c b z A f)
def WP (rk:Nat->Nat)(x:Nat)(l:List Nat):Nat->Nat
 |0=>0
 |j+1=>if rk (l.getD j 0)<rk x then WP rk x l j else j+1
def Mc (rk:Nat->Nat)(x:Nat)(l:List Nat):List Nat:=l.take (WP rk x l l.length)++x::l.drop (WP rk x l l.length)
def Xe (rk:Nat->Nat):Nat->List Nat
 |0=>[]
 |n+1=>Mc rk n (Xe rk n)
theorem Q5 (rk:Nat->Nat)(x:Nat)(l:List Nat):∀j,WP rk x l j<=j
 |0=>z8 _
 |j+1=>by
  unfold WP
  split
  ·exact Nat.le_succ_of_le (Q5 rk x l j)
  exact z8 _
theorem I2 (rk x l):(Mc rk x l).length=l.length+1:=by
 have:=Q5 rk x l l.length;unfold Mc;rw[lA,C,g7,j5];omega
theorem VZ (rk:Nat->Nat):∀n,(Xe rk n).length=n
 |0=>rfl
 |n+1=>by show(Mc rk n (Xe rk n)).length=_;rw[I2,VZ rk n]
theorem A6 {rk x y l}:y∈Mc rk x l↔y=x\/y∈l:=by
 unfold Mc;rw[j0,j3]
 constructor
 ·rintro(h|h|h)
  ·exact T (k5 h)
  ·exact j1 h
  exact T (List.mem_of_mem_drop h)
 rintro(h|h)
 ·exact T (j1 h)
 rw[<-k3 (WP rk x l l.length) l,j0]at h
 rcases h with h|h
 ·exact j1 h
 exact T (T h)
theorem Ul {rk:Nat->Nat}:∀{n y:Nat},y∈Xe rk n↔y<n
 |0,y=>by simp[Xe]
 |n+1,y=>by
  show y∈Mc rk n (Xe rk n)↔_
  rw[A6,Ul];omega
def Sz (rk:Nat->Nat)(a b:Nat):Prop:=rk b<rk a\/(rk a=rk b/\a<b)
theorem Kq {rk:Nat->Nat}{x:Nat}{l:List Nat}:∀{j i:Nat},WP rk x l j<=i->i<j->rk (l.getD i 0)<rk x
 |0,_,_,h=>by omega
 |j+1,i,h1,h2=>by
  unfold WP at h1
  split at h1
  ·rename_i a
   by_cases e:i=j
   ·subst e;exact a
   exact Kq h1 (by omega)
  omega
theorem Md {rk:Nat->Nat}{x:Nat}{l:List Nat}:∀{j:Nat},0<WP rk x l j->¬rk (l.getD (WP rk x l j-1) 0)<rk x
 |0,h=>by simp[WP]at h
 |j+1,h=>by
  unfold WP at h ⊢
  split at h
  ·rename_i a
   rw[if_pos a];exact Md h
  rename_i a
  rw[if_neg a]
  simpa using a
theorem U4 {l:List Nat}{i}(h):l.getD i 0=l[i]:=by simp[List.getD,h]
theorem FK {rk x l}(v:l.Pairwise (Sz rk))(w:∀y,y∈l->y<x):(Mc rk x l).Pairwise (Sz rk):=by
 unfold Mc;generalize n:WP rk x l l.length=k
 have z:k<=l.length:=by rw[<-n];exact Q5 rk x l l.length
 have c:(l.take k++l.drop k).Pairwise (Sz rk):=by rw[k3];exact v
 rw[k6]at c;obtain⟨A,B,D⟩:=c;rw[k6]
 have d:∀y,y∈l.drop k->rk y<rk x:=by
  intro y f;obtain⟨i,hi,e⟩:=k7 f;rw[List.getElem_drop]at e
  have h:k+i<l.length:=by rw[j5]at hi;omega
  have:=Kq (rk:=rk) (x:=x) (l:=l) (j:=l.length) (i:=k+i) (by rw[n];omega) h;rw[U4 h,e]at this;exact this
 have g:∀y,y∈l.take k->¬rk y<rk x:=by
  intro y f
  have p:0<k:=by
   rcases k9 k with e|e
   ·rw[e]at f;simp at f
   exact e
  have m:=Md (rk:=rk) (x:=x) (l:=l) (j:=l.length) (by rw[n];exact p);rw[n,U4 (by omega:k-1<l.length)]at m;obtain⟨i,hi,e⟩:=k7 f;rw[List.getElem_take]at e;rw[C]at hi;by_cases q:i=k-1
  ·subst q;rw[<-e];exact m
  have o:=(List.pairwise_iff_getElem.1 v) i (k-1) (by omega) (by omega) (by omega)
  rw[e]at o;rcases o with o|o
  ·omega
  omega
 refine⟨A,?_,?_⟩
 ·rw[List.pairwise_cons]
  exact⟨fun y f=>j1 (d y f),B⟩
 intro a r b s
 rcases j3.1 s with e|s
 ·subst e
  have E:=g a r;have t:=w a (k5 r);by_cases u:rk b<rk a
  ·exact j1 u
  exact T ⟨by omega,t⟩
 exact D a r b s
theorem Os (rk:Nat->Nat):∀n,(Xe rk n).Pairwise (Sz rk)
 |0=>List.Pairwise.nil
 |n+1=>FK (Os rk n) (fun _ a=>Ul.1 a)
theorem Yd (g o k):(⟨g,o,Y⟩:Addr).add k=⟨g,o+k,Y⟩:=by unfold Addr.add;split<;>simp_all
theorem Tz.at' {base:Nat}{w:F}:∀{rs:List Ze}{a:List x3}{j:Nat}{r:Ze},Tz base w rs a->rs[j]?=Z r->∃c,BX base w r c/\∀o v,c[o]?=Z v->a[j*14+o]?=Z v
 |[],_,j,_,_,hj=>by simp at hj
 |r::rs,a,0,r',⟨c,rest,e,h1,h2⟩,hj=>by
  simp at hj;subst hj;refine⟨c,h1,fun o v b=>?_⟩;have:=(iG.1 b).1;rw[e,g9,q0,x4 this];exact b
 |r::rs,a,j+1,r',⟨c,rest,e,h1,h2⟩,hj=>by
  obtain⟨d,f,g⟩:=Tz.at' h2 (j:=j) (r:=r') (by simpa using hj)
  have l:c.length=14:=by obtain⟨i,k,m,h,_⟩:=h1;rw[h];rfl
  refine⟨d,f,fun o v b=>?_⟩;rw[e,aR (by omega),l,show(j+1)*14+o-14=j*14+o from by omega];exact g o v b
theorem Bk.rule {w B x p rts a y}(h:Bk w B x p rts a y){j r}(q:a[j]?=Z r):
  ∃g c d f i k l m,p=V (Z ⟨g,0,Y⟩) a.length c/\B+1<=g/\g<w.heap.size/\
   (∀o v,[j6 r.name,I P r.rank,I P r.digits,I P r.lo,I P r.hi,V d r.mcc.length f,U r.am.isSome,I P (r.am.getD (0,0)).1,I P (r.am.getD (0,0)).2,V i r.cur.length k,U r.decline,U r.cheapest,V l r.routes.length m,I P r.ahead][o]?=Z v->w.cell? ⟨g,j*14+o,Y⟩=Z v)/\
   w.ownsRow (B+1) 3 1 (V d r.mcc.length f) r.mcc.length (Zg r.mcc)/\w.ownsRow (B+1) 3 1 (V i r.cur.length k) r.cur.length (Zg r.cur)/\w.ownsRow (B+1) 3 1 (V l r.routes.length m) r.routes.length (Zg r.routes):=by
 have z:0<a.length:=by have:=(iG.1 q).1;omega
 obtain⟨g,c,e,A,C⟩:=h.lo.form z;obtain⟨J,⟨K,L,M,n,s,t,u⟩,D⟩:=h.ru.at' q;obtain⟨d,f,E⟩:=oL s;obtain⟨i,k,F⟩:=oL t;obtain⟨l,m,G⟩:=oL u;subst E F G;refine⟨g,c,d,f,i,k,l,m,e,A,C,fun o v H=>?_,s,t,u⟩;have b:=h.lo;rw[e]at b;have:=b.cells (g:=g) rfl _ _ (D o v (by rw[n];exact H))
 rwa [Yd,q0]at this
def LF (a b:Nat):Int:=if a<b then-1 else if b<a then 1 else 0
theorem I3 (a b:Nat)(w):Q E 144 #[I P a,I P b] w fun e w'=>e=H (I P (LF a b))/\w'=w:=by
 have j:∀(a:Nat)(w:F),Q E 184 #[I P a] w fun e w'=>e=H (U false)/\w'=w:=fun a w=>by
  go_enter Tryz.func184,Tryz.ntmps184;go_wp2;go_ret;exact⟨SV (by simp),rfl⟩
 have d:=Za j;by_cases f:a<b
 ·have g:(a:Int)<(b:Int):=by omega
  go_enter Tryz.func144,Tryz.ntmps144
  go_wp2_with (go_at_call 184;refine DZ (d.o _ _) fun w' c=>?_;replace c:=c.symm;subst c)
  go_ret;exact⟨ZP (by simp[LF,f]),rfl⟩
 have g:¬(a:Int)<(b:Int):=by omega
 by_cases i:b<a
 ·have h:(b:Int)<(a:Int):=by omega
  go_enter Tryz.func144,Tryz.ntmps144
  go_wp2_with (go_at_call 184;refine DZ (d.o _ _) fun w' c=>?_;replace c:=c.symm;subst c)
  go_ret;exact⟨ZP (by simp[LF,f,i]),rfl⟩
 have h:¬(b:Int)<(a:Int):=by omega
 go_enter Tryz.func144,Tryz.ntmps144
 go_wp2_with (go_at_call 184;refine DZ (d.o _ _) fun w' c=>?_;replace c:=c.symm;subst c)
 go_ret;exact⟨ZP (by simp[LF,f,i]),rfl⟩
structure FL (w:F)(Lb g c n:Nat)(rk:Nat->Nat):Prop where
 cl:w.cell? ⟨Lb,0,Y⟩=Z (V (Z ⟨g,0,Y⟩) n c)
 rw:∀i,i<n->w.cell? ⟨g,i*14+1,Y⟩=Z (I P (rk i))
 gl:g<w.heap.size
theorem I4 (w a g c n rk)(h:FL w a g c n rk)(i j)(hi:i<n)(b:j<n):
  Q E 143 #[I P i,I P j,N (Z ⟨a,0,Y⟩)] w fun e w'=>e=H (I P (LF (rk j) (rk i)))/\∃m,w'=w.drewN m:=by
 have l:=h.cl;have p:=h.rw i hi;have q:=h.rw j b
 have d:(i:Int)<(n:Int):=by omega
 have f:(j:Int)<(n:Int):=by omega
 have k:M (∀W,Q E 144 #[I P (rk j),I P (rk i)] W fun e w'=>e=H (I P (LF (rk j) (rk i)))/\w'=W):=fun W=>I3 _ _ W
 go_enter Tryz.func143,Tryz.ntmps143;go_wp2_with fail
 go_quiet ((go_at_call 144;exact Calls.quiet_of_same (k.o _)))
 go_wp2;go_ret;exact⟨rfl,_,rfl⟩
structure Ve (w:F)(g n:Nat)(f:Nat->Nat):Prop where
 cl:∀k,k<n->w.cell? ⟨g,k,Y⟩=Z (I P (f k))
 fz:∀o,w.frozen? ⟨g,o,Y⟩=false
theorem Ve.congr {w g n f f'}(h:Ve w g n f)(e:∀k,k<n->f k=f' k):Ve w g n f':=⟨fun k a=>by rw[<-e k a];exact h.cl k a,h.fz⟩
def Ql (pre:List Nat)(i j k:Nat):Nat:=if k<j then pre.getD k 0 else if k=j then i else if k<=i then pre.getD (k-1) 0 else k
def Zx (rk:Nat->Nat)(i k:Nat):Nat:=if k<i then(Xe rk i).getD k 0 else k
theorem CN (rk i k):Zx rk i k=Ql (Xe rk i) i i k:=by
 unfold Zx Ql
 split
 ·rfl
 split
 ·omega
 rw[if_neg (by omega)]
theorem Df (rk i k):Ql (Xe rk i) i (WP rk i (Xe rk i) i) k=Zx rk (i+1) k:=by
 have d:=VZ rk i;have e:=Q5 rk i (Xe rk i) i;unfold Zx Ql
 show _=if k<i+1 then(Mc rk i (Xe rk i)).getD k 0 else k
 unfold Mc;rw[d];generalize WP rk i (Xe rk i) i=K at*;generalize Xe rk i=pre at*;simp only[List.getD_eq_getElem?_getD];by_cases a:k<K
 ·rw[if_pos a,if_pos (by omega),x4 (by rw[C];omega),List.getElem?_take,if_pos a]
 rw[if_neg a]
 by_cases b:k=K
 ·rw[if_pos b,if_pos (by omega),aR (by rw[C];omega),C,show k-min K pre.length=0 from by omega]
  rfl
 rw[if_neg b]
 by_cases c:k<=i
 ·rw[if_pos c,if_pos (by omega),aR (by rw[C];omega),C,show k-min K pre.length=(k-1-K)+1 from by omega,List.getElem?_cons_succ,List.getElem?_drop,show K+(k-1-K)=k-1 from by omega]
 rw[if_neg c,if_neg (by omega)]
theorem Ve.swap {w g n pre i j}(h:Ve w g n (Ql pre i j))(p:0<j)(a:j<=i):
  Ve ((w.setCell ⟨g,j,Y⟩ (I P (pre.getD (j-1) 0))).setCell ⟨g,j-1,Y⟩ (I P i)) g n (Ql pre i (j-1)):=by
 refine⟨fun k b=>?_,fun o=>by simp[h.fz o]⟩
 have c:(⟨g,j,Y⟩:Addr)≠⟨g,j-1,Y⟩:=by intro e;injection e with _ e;omega
 by_cases d:k=j-1
 ·subst d
  have:=h.cl (j-1) b;rw[cS _ _ _ (by rw[cO _ _ _ _ c];exact this)];unfold Ql;rw[if_neg (by omega),if_pos rfl]
 rw[cO _ _ _ _ (by intro e;injection e with _ e;omega)]
 by_cases f:k=j
 ·subst f
  rw[cS _ _ _ (h.cl k b)];unfold Ql;rw[if_neg (by omega),if_neg (by omega),if_pos a]
 rw[cO _ _ _ _ (by intro e;injection e with _ e;omega),h.cl k b]
 unfold Ql;by_cases l:k<j
 ·rw[if_pos l,if_pos (by omega)]
 have m:¬k<j-1:=by omega
 simp only[d,f,l,m,if_false]
theorem FL.fr {w w' a g c n rk S}(h:FL w a g c n rk)(b:Fr S w w')(d:¬S a:=by simp)(e:¬S g:=by simp):FL w' a g c n rk:=
 ⟨(b.cell (p:=⟨a,0,Y⟩) (bL w _ h.cl) d).trans h.cl,fun i hi=>(b.cell (p:=⟨g,i*14+1,Y⟩) h.gl e).trans (h.rw i hi),nL h.gl b.size⟩
theorem Dh {a b}:(LF a b<0)↔a<b:=by
 unfold LF
 split
 ·simp[*]
 split
 ·constructor<;>intro h<;>omega
 constructor<;>intro h<;>omega
theorem I5 (w s g c n g2 cap rk)(h:FL w s g c n rk)(ho:Ve w g2 n (fun k=>k))(h1:s≠g2)(h2:g≠g2)(hn:n<=8)(C:1<=n):
  Q E 219 #[V (Z ⟨g2,0,Y⟩) n cap,I P 0,I P n,.func (.func 143) #[] #[N (Z ⟨s,0,Y⟩)]] w fun e w'=>e=H (.tuple #[])/\Ve w' g2 n (Zx rk n)/\Fr (fun k=>k=g2) w w':=by
 have HK:=Za h
 have HO:M (Ve w g2 n (Zx rk 1)):=ho.congr (fun k _=>by
  unfold Zx
  split
  ·have:k=0:=by omega
   subst this;rfl
  rfl)
 have u:M (s≠g2/\g≠g2):=⟨h1,h2⟩;go_enter Tryz.func219,Tryz.ntmps219;go_wp2_with fail
 go_loopg [8] (n-1) (fun m iv wr=>∃i,1<=i/\i<=n/\m=n-i/\iv=I P (i:Nat)/\M (Ve wr g2 n (Zx rk i))/\M (Fr (fun k=>k=g2) w wr))
 case atStart=>exact⟨1,z8 _,C,rfl,rfl,HO,Zt⟩
 obtain⟨i,a0,b0,rfl,rfl,v,W⟩:=hrel;by_cases D:i<n
 ·have F:(i:Int)<(n:Int):=by omega
  have G:=Za (v.o.congr (fun k _=>CN rk i k));go_wp2_with fail
  go_loopg [9] i (fun m jv X=>jv=I P (m:Nat)/\m<=i/\M (Ve X g2 n (Ql (Xe rk i) i m))/\M (WP rk i (Xe rk i) m=WP rk i (Xe rk i) i)/\M (Fr (fun k=>k=g2) w X))
  case atStart=>exact⟨rfl,z8 _,G,rfl,W⟩
  obtain⟨rfl,J,a,K,f⟩:=hrel
  cases gk with
  |zero=>
   have b:M (WP rk i (Xe rk i) i=0):=by have e:=K.o;show _=_;rw[<-e];rfl
   go_wp2_with fail
   go_quiet (fail)
   have l:M (Ve (wr.drewN nq) g2 n (Zx rk (i+1))):=by
    have e:=a.o.congr (f':=Zx rk (i+1)) (fun k _=>by rw[<-Df rk i k,b.o]);exact⟨fun k q=>e.cl k q,fun o=>e.fz o⟩
   have d:M (Fr (fun k=>k=g2) w (wr.drewN nq)):=f.o.trans ⟨rfl,rfl,rfl,z8 _,fun _ _ _=>rfl⟩;generalize wr.drewN nq=t at*;go_wp2_with fail;go_roundg (n-(i+1))
   case measure=>omega
   exact⟨i+1,by omega,by omega,rfl,by go_num,l,d⟩
  |succ j=>
   have x:M ((Xe rk i).getD j 0<n):=by
    have hl:=VZ rk i
    have hj:j<(Xe rk i).length:=by omega
    have:=Ul.1 (List.getElem_mem hj)
    show _<_
    rw[U4 hj];omega
   obtain⟨y,L⟩:∃y,(Xe rk i).getD j 0=y:=⟨_,rfl⟩;have O:=Za L
   have c1:wr.cell? ⟨g2,j+1,Y⟩=Z (I P i):=by
    have e:=a.o.cl (j+1) (by omega);unfold Ql at e;rw[if_neg (by omega),if_pos rfl]at e;exact e
   have c0:wr.cell? ⟨g2,j,Y⟩=Z (I P y):=by
    have e:=a.o.cl j (by omega);unfold Ql at e;rw[if_pos (by omega),L]at e;exact e
   have r:=Za (HK.o.fr f.o u.o.1 u.o.2)
   have HC:M (∀m,Q E 143 #[I P i,I P y,N (Z ⟨s,0,Y⟩)] (wr.drewN m) fun e w'=>e=H (I P (LF (rk y) (rk i)))/\∃k,w'=(wr.drewN m).drewN k):=fun m=>
    I4 (wr.drewN m) s g c n rk ⟨r.o.cl,r.o.rw,r.o.gl⟩ i y D (by have:=x.o;rw[L]at this;exact this)
   have f0:y<8:=by have:=x.o;omega
   have e0:(0:Int)<(j:Int)+1:=by omega
   have e1:(j:Int)+1<(n:Int):=by omega
   have e2:(j:Int)<(n:Int):=by omega
   by_cases B:rk y<rk i
   ·have R:=Dh.2 B
    go_wp2_with fail
    go_quiet ((go_at_call 143;exact Calls.quiet_of (HC.o _)))
    have z:M (Ve (wr.drewN nq) g2 n (Ql (Xe rk i) i (j+1))):=⟨fun k q=>a.o.cl k q,fun o=>a.o.fz o⟩;have d:M (Fr (fun k=>k=g2) w (wr.drewN nq)):=f.o.trans ⟨rfl,rfl,rfl,z8 _,fun _ _ _=>rfl⟩;have d1:(wr.drewN nq).cell? ⟨g2,j+1,Y⟩=Z (I P i):=c1;have d0:(wr.drewN nq).cell? ⟨g2,j,Y⟩=Z (I P y):=c0;have fz:∀o,(wr.drewN nq).frozen? ⟨g2,o,Y⟩=false:=z.o.fz;generalize wr.drewN nq=t at*
    have A:M (Ve ((t.setCell ⟨g2,j+1,Y⟩ (I P y)).setCell ⟨g2,j,Y⟩ (I P i)) g2 n (Ql (Xe rk i) i j)):=by
     have e:=z.o.swap (by omega) J;rw[Nat.add_sub_cancel,O.o]at e;exact e
    have S:M (WP rk i (Xe rk i) j=WP rk i (Xe rk i) i):=by
     have e:=K.o;rw[WP,O.o,if_pos B]at e;exact e
    go_wp2_with fail
    go_region
    have T:M (Ve (((t.setCell ⟨g2,j+1,Y⟩ (I P y)).setCell ⟨g2,j,Y⟩ (I P i)).drew) g2 n (Ql (Xe rk i) i j)):=⟨fun k q=>A.o.cl k q,fun o=>A.o.fz o⟩;have U:M (Fr (fun k=>k=g2) w (((t.setCell ⟨g2,j+1,Y⟩ (I P y)).setCell ⟨g2,j,Y⟩ (I P i)).drew)):=((d.o.setCell (p:=⟨g2,j+1,Y⟩) (j1 rfl) _).setCell (p:=⟨g2,j,Y⟩) (j1 rfl) _).drew;generalize((t.setCell ⟨g2,j+1,Y⟩ (I P y)).setCell ⟨g2,j,Y⟩ (I P i)).drew=wy at*;go_wp2_with fail;go_roundg j
    case measure=>omega
    exact⟨by go_num,by omega,T,S,U⟩
   have R:¬LF (rk y) (rk i)<0:=fun h=>B (Dh.1 h)
   have b:M (WP rk i (Xe rk i) i=j+1):=by have e:=K.o;show _=_;rw[<-e,WP,O.o,if_neg B]
   go_wp2_with fail
   go_quiet ((go_at_call 143;exact Calls.quiet_of (HC.o _)))
   have l:M (Ve (wr.drewN nq) g2 n (Zx rk (i+1))):=by
    have e:=a.o.congr (f':=Zx rk (i+1)) (fun k _=>by rw[<-Df rk i k,b.o]);exact⟨fun k q=>e.cl k q,fun o=>e.fz o⟩
   have d:M (Fr (fun k=>k=g2) w (wr.drewN nq)):=f.o.trans ⟨rfl,rfl,rfl,z8 _,fun _ _ _=>rfl⟩;generalize wr.drewN nq=t at*;go_wp2_with fail;go_roundg (n-(i+1))
   case measure=>omega
   exact⟨i+1,by omega,by omega,rfl,by go_num,l,d⟩
 have F:¬(i:Int)<(n:Int):=by omega
 have e:i=n:=by omega
 subst e;go_wp2
 go_end0
 exact⟨rfl,v.o,W.o⟩
theorem Me (w l g c n g2 cap rk)(h:FL w l g c n rk)(r:Ve w g2 n (fun k=>k))(s:l≠g2)(t:g≠g2)(u:n<=8)(m:1<=n):
  Q E 142 #[V (Z ⟨g2,0,Y⟩) n cap,.func (.func 143) #[] #[N (Z ⟨l,0,Y⟩)]] w fun e w'=>e=H (.tuple #[])/\Ve w' g2 n (Zx rk n)/\Fr (fun k=>k=g2) w w':=by
 have v:=Za (I5 w l g c n g2 cap rk h r s t u m)
 have x:M (Q E 183 #[V (Z ⟨g2,0,Y⟩) n cap,I P n,.func (.func 143) #[] #[N (Z ⟨l,0,Y⟩)]] w fun e w'=>e=H (.tuple #[])/\Ve w' g2 n (Zx rk n)/\Fr (fun k=>k=g2) w w'):=by
  show Q _ _ _ _ _
  have y:¬(20:Int)<=(n:Int):=by omega
  have z:¬(20:Int)<(n:Int):=by omega
  go_enter Tryz.func183,Tryz.ntmps183;go_wp2_with fail
  go_loopg [7,8] 0 (fun _ a b wr=>a=I P 0/\b=I P 20/\M (wr=w))
  case atStart=>exact⟨rfl,rfl,rfl⟩
  obtain⟨rfl,rfl,p⟩:=hrel;have e:=p.o;subst e;go_wp2_with fail;refine v.o.mono ?_;rintro e q ⟨rfl,d,f⟩;have i:=Za d;have j:=Za f;go_wp2_with fail
  go_loopg [6] 0 (fun _ a wr=>a=I P 20/\M (wr=q))
  case atStart=>exact⟨rfl,rfl⟩
  obtain⟨rfl,p⟩:=hrel;have e:=p.o;subst e;go_wp2_with fail
  go_end0
  exact⟨rfl,i.o,j.o⟩
 go_enter Tryz.func142,Tryz.ntmps142;go_wp2_with fail;refine x.o.mono ?_;rintro e q ⟨rfl,d,f⟩;have i:=Za d;have j:=Za f;go_wp2_with fail
 go_end0
 exact⟨rfl,i.o,j.o⟩
theorem OR (w c g):
  Q E 142 #[V Y 0 c,.func (.func 143) #[] #[N (Z ⟨g,0,Y⟩)]] w fun e w'=>e=H (.tuple #[])/\w'=w:=by
 have i:M (Q E 219 #[V Y 0 c,I P 0,I P 0,.func (.func 143) #[] #[N (Z ⟨g,0,Y⟩)]] w fun e w'=>e=H (.tuple #[])/\w'=w):=by
  show Q _ _ _ _ _
  go_enter Tryz.func219,Tryz.ntmps219;go_wp2_with fail
  go_loopg [8] 0 (fun _ a wr=>a=I P 1/\M (wr=w))
  case atStart=>exact⟨rfl,rfl⟩
  obtain⟨rfl,f⟩:=hrel;have e:=f.o;subst e;go_wp2_with fail
  go_end0
  exact⟨rfl,rfl⟩
 have j:M (Q E 183 #[V Y 0 c,I P 0,.func (.func 143) #[] #[N (Z ⟨g,0,Y⟩)]] w fun e w'=>e=H (.tuple #[])/\w'=w):=by
  show Q _ _ _ _ _
  go_enter Tryz.func183,Tryz.ntmps183;go_wp2_with fail
  go_loopg [7,8] 0 (fun _ a b wr=>a=I P 0/\b=I P 20/\M (wr=w))
  case atStart=>exact⟨rfl,rfl,rfl⟩
  obtain⟨rfl,rfl,f⟩:=hrel;have e:=f.o;subst e;go_wp2_with fail;refine i.o.mono ?_;rintro e k ⟨rfl,d⟩;replace d:=d.symm;subst d;go_wp2_with fail
  go_loopg [6] 0 (fun _ a h=>a=I P 20/\M (h=wr))
  case atStart=>exact⟨rfl,rfl⟩
  obtain⟨rfl,f⟩:=hrel;have e:=f.o;subst e;go_wp2_with fail
  go_end0
  exact⟨rfl,rfl⟩
 go_enter Tryz.func142,Tryz.ntmps142;go_wp2_with fail;refine j.o.mono ?_;rintro e k ⟨rfl,d⟩;replace d:=d.symm;subst d;go_wp2_with fail
 go_end0
 exact⟨rfl,rfl⟩
theorem FM (i):j2 (i+1)=j2 i++[i]:=List.range_succ
def Di (w:F)(B:Nat)(a:Option Addr)(n:Nat)(f:Nat->Nat):Prop:=0<n->∃g,a=Z ⟨g,0,Y⟩/\B<=g/\g<w.heap.size/\Ve w g n f
theorem FN (w z n c rk)(hn:n<=8)(hr:∀i,i<n->∃g,z=Z ⟨g,0,Y⟩/\g<w.heap.size/\w.cell? ⟨g,i*14+1,Y⟩=Z (I P (rk i))):
  Q E 92 #[V z n c] w fun e w'=>(∃r j,e=H (V r n j)/\Di w' w.heap.size r n (Zx rk n))/\F0 w w':=by
 have n0:∀(fn:Fn)(first cap:Array x3)(w:F),(Instr.makeFunc fn first cap).run E w=.ok (.func fn first cap) w:=fun _ _ _ _=>rfl
 have A:=Za hr;obtain⟨ii,hi,D,G,J⟩:=info_parts Y3;go_enter Tryz.func92,Tryz.ntmps92;go_wp2_with fail;obtain⟨K,t⟩:=VA w (O #[V z n c] 87);generalize w.alloc _=W0 at*;obtain⟨L,R⟩:∃L,w.heap.size=L:=⟨_,rfl⟩;rw[R]at t;rw[R];have B:=Za R
 go_loopg [3,7] n (fun m o iv wr=>∃i,i<=n/\m=n-i/\iv=I P (i:Nat)/\M (i=0->o=V Y 0 0)/\M (wr.ownsRow (L+1) 3 1 o i (Zg (j2 i)))/\M (F0 w wr)/\M (wr.heap[L]?=Z (O #[V z n c] 87)))
 case atStart=>exact⟨0,g5 _,rfl,rfl,fun _=>rfl,oZ _ _ _ _,K,t⟩
 obtain⟨i,o0,rfl,rfl,HZ,s,u,l⟩:=hrel;obtain⟨r,j,ho⟩:=oL s.o;subst ho;have p0:L+1<=wr.heap.size:=(iA.1 l.o).1;by_cases r0:i<n
 ·have S:(i:Int)<(n:Int):=by omega
  go_wp2_with (at_builtin;refine wpList_append_lies _ rfl (.tmp 10) (.tmp 12) 25 rfl (L+1) 3 ii _ 1 8 Tryz.underlying25 hi D G J rfl (by decide) (V r i j) i (Zg (j2 i)) rfl ?h1 ⟨wr.heap.size,0,Y⟩ 1 1 [I P i] rfl rfl ?h2 ?h3 (by decide) ?h4 ?h5 ?h6 _ rfl ?h7)
  case h1=>exact s.o.alloc _
  case h2=>exact z0 (aN wr (O #[I P i] 3))
  case h3=>simp[y9]
  case h4=>unfold maxLen;omega
  case h5=>omega
  case h6=>simp;omega
  intro g2 f w8 v b s0 _
  have x:∀k,(g6 r i j).ownBlock=Z k->L+1<=k:=fun k d=>(s.o.lt k d).1
  have U:=Za ((u.o.alloc _).grown b (fun k d=>T (by have:=x k d;have:=B.o;omega)));have W:=Za ((((Fr.refl (fun k=>(g6 r i j).ownBlock=Z k) wr).alloc _).grown b (fun k d=>j1 d)).whole l.o (fun e=>by have:=x L e;omega))
  have X:M (w8.ownsRow (L+1) 3 1 (V (Z ⟨g2,0,Y⟩) (i+1) f) (i+1) (Zg (j2 (i+1)))):=by rw[FM,XZ];exact v
  go_wp2_with fail;go_roundg (n-(i+1))
  case measure=>omega
  exact⟨i+1,by omega,rfl,by go_num,fun e=>by omega,X,U,W⟩
 have S:¬(i:Int)<(n:Int):=by omega
 have e:i=n:=by omega
 subst e;rcases k9 i with q|q
 ·subst q
  have ez:=HZ.o rfl;injection ez with a0 _ b0;subst a0 b0;have HS:=Za (OR wr 0 L);go_wp2_with fail;refine HS.o.mono ?_;rintro e w9 ⟨rfl,hw⟩;replace hw:=hw.symm;subst hw;go_wp2_with fail;go_ret;exact⟨⟨_,_,rfl,fun h=>by omega⟩,u.o⟩
 obtain⟨g2,f,eo,t0,c0⟩:=s.o.form q
 injection eo with d0 _ e0;subst d0 e0;obtain⟨g,hg,_,_⟩:=A.o 0 q;subst hg
 have f0:M (FL wr L g c i rk):=⟨Zc l.o 0,fun k d=>by
  obtain⟨g',a,C,e3⟩:=A.o k d;injection a with a;injection a with a;subst a
  exact(u.o.cell (p:=⟨g,k*14+1,Y⟩) C).trans e3,by
  obtain⟨g',a,C,_⟩:=A.o 0 q;injection a with a;injection a with a;subst a
  exact nL C u.o.size⟩
 have g0:M (Ve wr g2 i (fun k=>k)):=by
  refine⟨fun k d=>?_,fun o=>?_⟩
  ·have:=s.o.cells (g:=g2) rfl k (I P k) (by simp[Zg,d])
   rwa [Yd,q0]at this
  rcases s.o.2 with⟨e,_⟩|⟨g',m0,v0,a,_,hh,_⟩
  ·cases e
  injection a with a
  injection a with a;injection a with a;subst a;exact bF hh o
 have HS:M (Q E 142 #[V (Z ⟨g2,0,Y⟩) i j,.func (.func 143) #[] #[N (Z ⟨L,0,Y⟩)]] wr fun e w'=>e=H (.tuple #[])/\Ve w' g2 i (Zx rk i)/\Fr (fun k=>k=g2) wr w'):=by
  have w0:g<L:=by
   obtain⟨g',a,C,_⟩:=A.o 0 q;injection a with a;injection a with a;subst a;have:=B.o;omega
  exact Me wr L g c i g2 j rk f0.o g0.o (by omega) (by omega) hn q
 go_wp2_with fail;refine HS.o.mono ?_;rintro e w9 ⟨rfl,i0,y⟩;have j0:=Za i0;have k0:=Za (u.o.monoNew y (fun k d=>T (by have:=B.o;omega)));have l0:=Za (nL c0 y.size);go_wp2_with fail;go_ret;exact⟨⟨_,_,rfl,fun _=>⟨g2,rfl,by have:=B.o;omega,l0.o,j0.o⟩⟩,k0.o⟩
structure Zl where
 sort:Nat
 nums:List Nat
 rule:Nat
 skip:Nat
def Z6 (r:Ze):List Zl:=
 (if r.mcc=[]then[]else[⟨0,r.mcc,0,0⟩])++((match r.am with|none=>[]|some a=>[⟨1,[a.1,a.2],0,0⟩])++(if r.cur=[]then[]else[⟨2,r.cur,0,0⟩]))
def UK (i:Nat)(r:Ze):Zl:=if r.decline then⟨3,[],i,0⟩else if r.cheapest then⟨5,r.routes,i,0⟩else⟨4,r.routes,i,0⟩
def ZO (m:Nat):Nat->List Zl->List Zl
 |_,[]=>[]
 |a,s::r=>{s with skip:=m-a+1}::ZO m (a+1) r
def Si (r:Ze):List Zl:=ZO (Z6 r).length 0 (Z6 r)
def ZJ (R:List Ze)(met:Nat):List Nat->List Zl
 |[]=>[⟨6,[],0,0⟩]
 | i::L=>if met.testBit i then(match R[i]? with
   |none=>ZJ R met L
   |some r=>if Z6 r=[]then[UK i r]else Si r++(UK i r::ZJ R met L))else ZJ R met L
def uO (b:Nat)(w:F)(s:Zl)(c:List x3):Prop:=∃a,c=[I y8 s.sort,a,I P s.rule,I P s.skip]/\w.ownsRow b 3 1 a s.nums.length (Zg s.nums)
def Xm (b:Nat)(w:F):List Zl->List x3->Prop
 |[],xs=>xs=[]
 |s::r,xs=>∃c a,xs=c++a/\uO b w s c/\Xm b w r a
theorem Xm.keep {b:Nat}{w w':F}(d:∀v n a,w.ownsRow b 3 1 v n a->w'.ownsRow b 3 1 v n a):∀{l:List Zl}{a:List x3},Xm b w l a->Xm b w' l a
 |[],_,h=>h
 |_::_,_,⟨c,rest,e,⟨vn,e1,h1⟩,h2⟩=>⟨c,rest,e,⟨vn,e1,d _ _ _ h1⟩,Xm.keep d h2⟩
theorem Xm.append {a:Nat}{w:F}:∀{l l':List Zl}{b d:List x3},Xm a w l b->Xm a w l' d->Xm a w (l++l') (b++d)
 |[],_,_,_,h,h'=>by
  have e:=h;subst e;exact h'
 |_::_,_,_,_,⟨c,rest,e,h1,h2⟩,h'=>⟨c,rest++_,by rw[e,j4],h1,Xm.append h2 h'⟩
theorem Xm.one {a w s c}(h:uO a w s c):Xm a w [s] c:=⟨c,[],by simp,h,rfl⟩
def Z3 (b:Nat)(w:F)(base:Nat)(v:x3)(l:List Zl):Prop:=∃a,w.ownsRow base 208 4 v l.length a/\Xm b w l a
theorem TE:(E.info? 208).map (fun i=>(i.zero,i.size,i.bytes))=Z (Z (q9 #[I y8 0,V Y 0 0,I P 0,I P 0]),4,48):=by kernel_rfl
theorem Q6 {a w w' base v l}(h:Z3 a w base v l)(b:F0 w w'):Z3 a w' base v l:=by
 obtain⟨c,d,e⟩:=h;exact⟨c,oF d b,e.keep (fun v n g f=>oF f b)⟩
theorem Z3.grown {a w b base g cap v l l' d c}(i:w.ownsRow base 208 4 v l.length c)(j:Xm a w l c)(k:Xm a w l' d)(m:w.grownBy b v.ownBlock)(o:b.ownsRow base 208 4 (V (Z ⟨g,0,Y⟩) (l.length+l'.length) cap) (l.length+l'.length) (c++d)):
  Z3 a b base (V (Z ⟨g,0,Y⟩) (l.length+l'.length) cap) (l++l'):=by
 have f:∀v' n e,w.ownsRow a 3 1 v' n e->b.ownsRow a 3 1 v' n e:=fun v' n e h=>h.kept m (WL h i (by decide))
 exact⟨c++d,by rw[lA];exact o,(j.keep f).append (k.keep f)⟩
def Lq (b:ByteArray)(rk dg lo hi:Nat)(c:Option Addr)(d e:Nat)(a:Bool)(f g:Nat)(h:Option Addr)(i j:Nat)(k l:Bool)(m:Option Addr)(n o:Nat)(p:Nat):Obj:=
 O #[z9 b,I P rk,I P dg,I P lo,I P hi,V c d e,U a,I P f,I P g,V h i j,U k,U l,V m n o,I P p] 120
def FO (a:List Nat):List Zl:=if a=[]then[]else[⟨0,a,0,0⟩]
def BZ (a:Bool)(b c:Nat):List Zl:=if a then[⟨1,[b,c],0,0⟩]else[]
def FP (a:List Nat):List Zl:=if a=[]then[]else[⟨2,a,0,0⟩]
theorem Mf (r):Z6 r=FO r.mcc++(BZ r.am.isSome (r.am.getD (0,0)).1 (r.am.getD (0,0)).2++FP r.cur):=by
 unfold Z6 FO BZ FP
 cases r.am<;>rfl
theorem JF {zb}{w:F}{g a b:Nat}(c:zb<=g)(h:w.heap[g]?=Z (O #[I P a,I P b] 3)):w.ownsRow zb 3 1 (V (Z ⟨g,0,Y⟩) 2 2) 2 (Zg [a,b]):=
 ⟨rfl,.inr ⟨g,2,_,rfl,c,h,z8 _,by unfold maxLen;omega,rfl,rfl⟩⟩
structure OS (zb:Nat)(w:F)(b:Nat)(o:Obj)(v:x3)(l:List Zl)(wx:F):Prop where
 row:Z3 zb wx (b+1) v l
 fr:F0 w wx
 bx:wx.heap[b]?=Z o
 nz:l=[]->v=V Y 0 0
theorem OS.grown {f w n i b g cap o v l j c s W}(h:OS f w b o v l n)(x:w.heap.size<=b)(p:F0 n W)(q:W.ownsRow (b+1) 208 4 v l.length j)(r:Xm f W l j)(t:uO f W s c)(m:W.grownBy i v.ownBlock)(u:i.ownsRow (b+1) 208 4 (V (Z ⟨g,0,Y⟩) (l.length+1) cap) (l.length+1) (j++c)):
  OS f w b o (V (Z ⟨g,0,Y⟩) (l.length+1) cap) (l++[s]) i:=by
 have a:∀k,v.ownBlock=Z k->b+1<=k:=fun k d=>(q.lt k d).1
 refine⟨Z3.grown (l':=[s]) q r (Xm.one t) m u,(h.fr.trans p).grown m (fun k d=>T (by have:=a k d;omega)),?_,fun e=>by simp at e⟩;exact((Fr.refl (fun k=>v.ownBlock=Z k) W).grown m (fun k d=>j1 d)).whole (p.whole h.bx) (fun e=>by have:=a b e;omega)
theorem FQ {zb}(B rk dg lo hi p q d h i r t C D F G J K c a w)(hz:zb<=w.heap.size)(hm:w.ownsRow zb 3 1 (V p c.length q) c.length (Zg c))(hc:w.ownsRow zb 3 1 (V r a.length t) a.length (Zg a))(p0:c.length<=4000)(q0:a.length<=4000):
  Q E 222 #[GY B rk dg lo hi p c.length q d h i r a.length t C D F G J K] w fun e w'=>(∃v,e=H v/\Z3 zb w' w.heap.size v (FO c++(BZ d h i++FP a))/\(FO c++(BZ d h i++FP a)=[]->v=V Y 0 0))/\F0 w w':=by
 obtain⟨ii,N,R,S,T⟩:=info_parts TE;have HM:=Za hm;have HC:=Za hc;obtain⟨j,k0⟩:∃j,c.length=j:=⟨_,rfl⟩;obtain⟨k,l0⟩:∃k,a.length=k:=⟨_,rfl⟩;rw[k0]at HM p0 ⊢;rw[l0]at HC q0 ⊢;have W:=Za k0;have X:=Za l0;have HZ:=Za hz;unfold GY;go_enter Tryz.func222,Tryz.ntmps222;have u:M (OS zb w w.heap.size (Lq B rk dg lo hi p j q d h i r k t C D F G J K) (V Y 0 0) [] (w.alloc (Lq B rk dg lo hi p j q d h i r k t C D F G J K))):=⟨⟨[],oZ _ _ _ _,rfl⟩,Zt.alloc _,aN w _,fun _=>rfl⟩;unfold Lq at u
 go_upto_if 7 with fail
 generalize w.alloc _=W0 at*;obtain⟨b,hb⟩:∃b,w.heap.size=b:=⟨_,rfl⟩;have HB:=Za hb;rw[hb]at u;rw[hb]
 go_cut [3] (fun v wx=>M (OS zb w b (O #[z9 B,I P rk,I P dg,I P lo,I P hi,V p j q,U d,I P h,I P i,V r k t,U C,U D,V F G J,I P K] 120) v (FO c) wx))
 case first=>
  have x5:=Zc u.o.bx 5;have r0:b+1<=W0.heap.size:=(iA.1 u.o.bx).1;by_cases h0:0<j
  ·have a0:(0:Int)<(j:Int):=by omega
   go_wp2_with (at_builtin;refine wpList_append_lies _ rfl (.tmp 8) (.tmp 12) 129 rfl (b+1) 208 ii _ 4 48 Tryz.underlying129 N R S T rfl (by decide) (V Y 0 0) 0 [] rfl ?h1 ⟨W0.heap.size,0,Y⟩ 1 1 [I y8 0,V p j q,I P 0,I P 0] rfl rfl ?h2 ?h3 (by decide) ?h4 ?h5 ?h6 _ rfl ?h7)
   case h1=>exact oZ _ _ _ _
   case h2=>exact z0 (aN W0 (O #[I y8 0,V p j q,I P 0,I P 0] 208))
   case h3=>simp[y9]
   case h4=>unfold maxLen;omega
   case h5=>omega
   case h6=>simp;omega
   intro g2 l w8 m f m0 _
   have L:M (OS zb w b (O #[z9 B,I P rk,I P dg,I P lo,I P hi,V p j q,U d,I P h,I P i,V r k t,U C,U D,V F G J,I P K] 120) (V (Z ⟨g2,0,Y⟩) (0+1) l) (FO c) w8):=by
    have hf:=(Lt W0 (O #[I y8 0,V p j q,I P 0,I P 0] 208)).1;have e:=u.o.grown (s:=⟨0,c,0,0⟩) (j7 HB.o) hf (oZ _ _ _ _) rfl ⟨_,rfl,by rw[W.o];exact oF (oF HM.o u.o.fr) hf⟩ f m
    have e2:FO c=[]++[⟨0,c,0,0⟩]:=by
     unfold FO;rw[if_neg (by intro e;have:=W.o;rw[e]at this;simp at this;omega)];rfl
    rw[e2];exact e
   go_wp2_with fail;go_meet;exact L
  have a0:¬(0:Int)<(j:Int):=by omega
  have g:M (OS zb w b (O #[z9 B,I P rk,I P dg,I P lo,I P hi,V p j q,U d,I P h,I P i,V r k t,U C,U D,V F G J,I P K] 120) (V Y 0 0) (FO c) W0):=by
   have e:FO c=[]:=by
    unfold FO;rw[if_pos (q8.1 (by have:=W.o;omega))]
   rw[e];exact u
  go_wp2_with fail;go_meet;exact g
 have g:=hcut;obtain⟨z,b0⟩:∃z,FO c=z:=⟨_,rfl⟩;have s0:=Za b0
 have D0:z.length<=1:=by rw[<-b0];unfold FO;split<;>simp
 rw[b0]at g;obtain⟨c0,n0,t0⟩:=g.o.row;obtain⟨va,vc,e3⟩:=oL n0;subst e3;have d0:M (wc.ownsRow (b+1) 208 4 (V va z.length vc) z.length c0/\Xm zb wc z c0):=⟨n0,t0⟩;have r0:b+1<=wc.heap.size:=(iA.1 g.o.bx).1;have x6:=Zc g.o.bx 6
 go_upto_if 15 with fail
 go_cut [3] (fun v wx=>M (OS zb w b (O #[z9 B,I P rk,I P dg,I P lo,I P hi,V p j q,U d,I P h,I P i,V r k t,U C,U D,V F G J,I P K] 120) v (z++BZ d h i) wx))
 case first=>
  cases d with
  |true=>
   have x7:=Zc g.o.bx 7;have x8:=Zc g.o.bx 8
   go_wp2_with (at_builtin;refine wpList_append_lies _ rfl (.tmp 16) (.tmp 25) 129 rfl (b+1) 208 ii _ 4 48 Tryz.underlying129 N R S T rfl (by decide) (V va z.length vc) z.length c0 rfl ?h1 ⟨wc.heap.size+1,0,Y⟩ 1 1 [I y8 1,V (Z ⟨wc.heap.size,0,Y⟩) 2 2,I P 0,I P 0] rfl rfl ?h2 ?h3 (by decide) ?h4 ?h5 ?h6 _ rfl ?h7)
   case h1=>exact(d0.o.1.alloc _).alloc _
   case h2=>exact z0 (by have e:=aN (wc.alloc (O #[I P h,I P i] 3)) (O #[I y8 1,V (Z ⟨wc.heap.size,0,Y⟩) 2 2,I P 0,I P 0] 208);simpa using e)
   case h3=>simp[y9]
   case h4=>unfold maxLen;omega
   case h5=>omega
   case h6=>simp;omega
   intro g2 l w8 m f m0 _
   have L:M (OS zb w b (O #[z9 B,I P rk,I P dg,I P lo,I P hi,V p j q,U true,I P h,I P i,V r k t,U C,U D,V F G J,I P K] 120) (V (Z ⟨g2,0,Y⟩) (z.length+1) l) (z++BZ true h i) w8):=by
    have hf:=(Ih wc (O #[I P h,I P i] 3) (O #[I y8 1,V (Z ⟨wc.heap.size,0,Y⟩) 2 2,I P 0,I P 0] 208)).1;exact g.o.grown (s:=⟨1,[h,i],0,0⟩) (j7 HB.o) hf ((d0.o.1.alloc _).alloc _) (d0.o.2.keep (fun v n ys hv=>(hv.alloc _).alloc _)) ⟨_,rfl,JF (by have:=HZ.o;have:=g.o.fr.size;omega) (((Fr.refl (fun _=>False) _).alloc _).whole (aN wc _))⟩ f m
   go_wp2_with fail;go_meet;exact L
  |false=>
   go_wp2_with fail;go_meet;rw[show z++BZ false h i=z from by simp[BZ]];exact g
 have x:=hcut;obtain⟨y,e0⟩:∃y,z++BZ d h i=y:=⟨_,rfl⟩;have v0:=Za e0
 have E0:y.length<=2:=by rw[<-e0,lA];unfold BZ;split<;>simp<;>omega
 rw[e0]at x;obtain⟨f0,o0,w0⟩:=x.o.row;obtain⟨g0,i0,e3⟩:=oL o0;subst e3;have j0:M (wc.ownsRow (b+1) 208 4 (V g0 y.length i0) y.length f0/\Xm zb wc y f0):=⟨o0,w0⟩;have C0:b+1<=wc.heap.size:=(iA.1 x.o.bx).1;have x9:=Zc x.o.bx 9
 go_upto_if 30 with fail
 go_cut [3] (fun v wx=>M (OS zb w b (O #[z9 B,I P rk,I P dg,I P lo,I P hi,V p j q,U d,I P h,I P i,V r k t,U C,U D,V F G J,I P K] 120) v (y++FP a) wx))
 case first=>
  by_cases h0:0<k
  ·have a0:(0:Int)<(k:Int):=by omega
   go_wp2_with (at_builtin;refine wpList_append_lies _ rfl (.tmp 31) (.tmp 35) 129 rfl (b+1) 208 ii _ 4 48 Tryz.underlying129 N R S T rfl (by decide) (V g0 y.length i0) y.length f0 rfl ?h1 ⟨wc.heap.size,0,Y⟩ 1 1 [I y8 2,V r k t,I P 0,I P 0] rfl rfl ?h2 ?h3 (by decide) ?h4 ?h5 ?h6 _ rfl ?h7)
   case h1=>exact j0.o.1.alloc _
   case h2=>exact z0 (aN wc (O #[I y8 2,V r k t,I P 0,I P 0] 208))
   case h3=>simp[y9]
   case h4=>unfold maxLen;omega
   case h5=>omega
   case h6=>simp;omega
   intro g2 l w8 m f m0 _
   have L:M (OS zb w b (O #[z9 B,I P rk,I P dg,I P lo,I P hi,V p j q,U d,I P h,I P i,V r k t,U C,U D,V F G J,I P K] 120) (V (Z ⟨g2,0,Y⟩) (y.length+1) l) (y++FP a) w8):=by
    have hf:=(Lt wc (O #[I y8 2,V r k t,I P 0,I P 0] 208)).1;have e:=x.o.grown (s:=⟨2,a,0,0⟩) (j7 HB.o) hf (j0.o.1.alloc _) (j0.o.2.keep (fun v n ys hv=>hv.alloc _)) ⟨_,rfl,by rw[X.o];exact oF (oF HC.o x.o.fr) hf⟩ f m
    have e2:FP a=[⟨2,a,0,0⟩]:=by
     unfold FP;rw[if_neg (by intro e;have:=X.o;rw[e]at this;simp at this;omega)]
    rw[e2];exact e
   go_wp2_with fail;go_meet;exact L
  have a0:¬(0:Int)<(k:Int):=by omega
  have A:M (OS zb w b (O #[z9 B,I P rk,I P dg,I P lo,I P hi,V p j q,U d,I P h,I P i,V r k t,U C,U D,V F G J,I P K] 120) (V g0 y.length i0) (y++FP a) wc):=by
   have e:FP a=[]:=by
    unfold FP;rw[if_pos (q8.1 (by have:=X.o;omega))]
   rw[e,k2];exact x
  go_wp2_with fail;go_meet;exact A
 have A:=hcut;obtain⟨G0,x0,H0⟩:=A.o.row;obtain⟨y0,A0,e3⟩:=oL x0;subst e3;go_wp2_with fail;go_ret
 have B0:w.heap.size<=b+1:=by have:=HB.o;omega
 have e:FO c++(BZ d h i++FP a)=y++FP a:=by rw[<-v0.o,<-s0.o,j4]
 refine⟨⟨V y0 (y++FP a).length A0,rfl,?_,fun ez=>A.o.nz (by rw[<-e];exact ez)⟩,A.o.fr⟩;rw[e];obtain⟨xs,h1,h2⟩:=A.o.row;exact⟨xs,oS (base:=b+1) h1 B0,h2⟩
theorem vw {w:F}{b:Nat}{u0 u1 u2 u3 v0 v1 v2 v3:x3}(a:w.cell? ⟨b,0,Y⟩=Z u0)(c:w.cell? ⟨b,1,Y⟩=Z u1)(d:w.cell? ⟨b,2,Y⟩=Z u2)(e:w.cell? ⟨b,3,Y⟩=Z u3):
  let W:=(((w.setCell ⟨b,0,Y⟩ v0).setCell ⟨b,1,Y⟩ v1).setCell ⟨b,2,Y⟩ v2).setCell ⟨b,3,Y⟩ v3
  W.cell? ⟨b,0,Y⟩=Z v0/\W.cell? ⟨b,1,Y⟩=Z v1/\W.cell? ⟨b,2,Y⟩=Z v2/\W.cell? ⟨b,3,Y⟩=Z v3:=by
 refine⟨?_,?_,?_,?_⟩
 ·rw[cO _ _ _ _ (by simp),cO _ _ _ _ (by simp),cO _ _ _ _ (by simp)];exact cS _ _ _ a
 ·rw[X _ _ _ _ (by simp),X _ _ _ _ (by simp)];exact j8 _ _ _ (by rw[X _ _ _ _ (by simp)];exact c)
 ·rw[X _ _ _ _ (by simp)];exact j8 _ _ _ (by rw[X _ _ _ _ (by simp),X _ _ _ _ (by simp)];exact d)
 exact cS _ _ _ (by rw[cO _ _ _ _ (by simp),cO _ _ _ _ (by simp),cO _ _ _ _ (by simp)];exact e)
theorem I6 (w G u)(rk dg lo hi:Nat)(x y z h)(A B:Nat)(C D F m q j k l)(J:Nat)(g n c i:Nat)(h0:w.cell? ⟨G,0,Y⟩=Z (V (Z ⟨g,0,Y⟩) n c))(a0:i<n)(hr:∀o v,[j6 u,I P rk,I P dg,I P lo,I P hi,V x y z,U h,I P A,I P B,V C D F,U m,U q,V j k l,I P J][o]?=Z v->w.cell? ⟨g,i*14+o,Y⟩=Z v):
  Q E 223 #[N (Z ⟨G,0,Y⟩),I P i] w fun e w'=>e=H (if m then q9 #[I y8 3,V Y 0 0,I P i,I P 0]else if q then q9 #[I y8 5,V j k l,I P i,I P 0]else q9 #[I y8 4,V j k l,I P i,I P 0])/\F0 w w':=by
 have b0:(i:Int)<(n:Int):=by omega
 have HR:=Za hr;go_enter Tryz.func223,Tryz.ntmps223;go_upto_region 1 with fail;obtain⟨r,HX⟩:=VA w (O #[I y8 0,V Y 0 0,I P 0,I P 0] 208);generalize w.alloc _=K at*
 have f:∀o v,[j6 u,I P rk,I P dg,I P lo,I P hi,V x y z,U h,I P A,I P B,V C D F,U m,U q,V j k l,I P J][o]?=Z v->K.cell? ⟨g,i*14+o,Y⟩=Z v:=fun o v ho=>by
  have e:=HR.o o v ho;exact(r.o.cell (p:=⟨g,i*14+o,Y⟩) (bL w _ e)).trans e
 have g0:=(r.o.cell (p:=⟨G,0,Y⟩) (bL w _ h0)).trans h0;have v0:=f 0 _ rfl;have v1:=f 1 _ rfl;have v2:=f 2 _ rfl;have v3:=f 3 _ rfl;have v4:=f 4 _ rfl;have v5:=f 5 _ rfl;have v6:=f 6 _ rfl;have v7:=f 7 _ rfl;have v8:=f 8 _ rfl;have v9:=f 9 _ rfl;have c0:=f 10 _ rfl;have d0:=f 11 _ rfl;have e0:=f 12 _ rfl;have f0:=f 13 _ rfl;rw[p0]at v0;obtain⟨b,hb⟩:∃b,w.heap.size=b:=⟨_,rfl⟩;have HB:=Za hb;rw[hb]at HX;rw[hb];go_upto_region 2 with fail;have s:=Za (r.o.alloc (O #[z9 u,I P rk,I P dg,I P lo,I P hi,V x y z,U h,I P A,I P B,V C D F,U m,U q,V j k l,I P J] 120));have d:M ((K.alloc (O #[z9 u,I P rk,I P dg,I P lo,I P hi,V x y z,U h,I P A,I P B,V C D F,U m,U q,V j k l,I P J] 120)).heap[b]?=Z (O #[I y8 0,V Y 0 0,I P 0,I P 0] 208)):=((Fr.refl (fun _=>False) _).alloc _).whole HX.o;have t:=aN K (O #[z9 u,I P rk,I P dg,I P lo,I P hi,V x y z,U h,I P A,I P B,V C D F,U m,U q,V j k l,I P J] 120);have i0:=Zc t 10;have j0:=Zc t 11;have k0:=Zc t 12;have a:w.heap.size<=b:=j7 HB.o;generalize K.alloc _=W2 at*;generalize K.heap.size=X2 at*
 cases m with
 |true=>
  have L:=Zc d.o 0;have R:=Zc d.o 1;have S:=Zc d.o 2;have W:=Zc d.o 3;have yf:=bF d.o;go_wp2_with fail;obtain⟨X,s1,s2,s3⟩:=vw (v0:=I y8 3) (v1:=V Y 0 0) (v2:=I P i) (v3:=I P 0) L R S W;refine bodyPost_ret (v:=q9 #[I y8 3,V Y 0 0,I P i,I P 0]) (by simp[results,Tryz.results223,go_sem,X,s1,s2,s3]) rfl ⟨rfl,?_⟩;exact(((s.o.setCell (p:=⟨b,0,Y⟩) (T a) _).setCell (p:=⟨b,1,Y⟩) (T a) _).setCell (p:=⟨b,2,Y⟩) (T a) _).setCell (p:=⟨b,3,Y⟩) (T a) _
 |false=>
  cases q with
  |true=>
   have L:=Zc d.o 0;have R:=Zc d.o 1;have S:=Zc d.o 2;have W:=Zc d.o 3;have yf:=bF d.o;go_wp2_with fail;obtain⟨X,s1,s2,s3⟩:=vw (v0:=I y8 5) (v1:=V j k l) (v2:=I P i) (v3:=I P 0) L R S W;refine bodyPost_ret (v:=q9 #[I y8 5,V j k l,I P i,I P 0]) (by simp[results,Tryz.results223,go_sem,X,s1,s2,s3]) rfl ⟨rfl,?_⟩;exact(((s.o.setCell (p:=⟨b,0,Y⟩) (T a) _).setCell (p:=⟨b,1,Y⟩) (T a) _).setCell (p:=⟨b,2,Y⟩) (T a) _).setCell (p:=⟨b,3,Y⟩) (T a) _
  |false=>
   have L:=Zc d.o 0;have R:=Zc d.o 1;have S:=Zc d.o 2;have W:=Zc d.o 3;have yf:=bF d.o;go_wp2_with fail;obtain⟨X,s1,s2,s3⟩:=vw (v0:=I y8 4) (v1:=V j k l) (v2:=I P i) (v3:=I P 0) L R S W;refine bodyPost_ret (v:=q9 #[I y8 4,V j k l,I P i,I P 0]) (by simp[results,Tryz.results223,go_sem,X,s1,s2,s3]) rfl ⟨rfl,?_⟩;exact(((s.o.setCell (p:=⟨b,0,Y⟩) (T a) _).setCell (p:=⟨b,1,Y⟩) (T a) _).setCell (p:=⟨b,2,Y⟩) (T a) _).setCell (p:=⟨b,3,Y⟩) (T a) _
structure xo (zb:Nat)(w:F)(G:Nat)(rls:List Ze)(ord:Nat->Nat):Prop where
 zl:zb<=w.heap.size
 rl:∃va c,w.cell? ⟨G,0,Y⟩=Z (V va rls.length c)/\∀i r,rls[i]?=Z r->∃g ma mc ca cc pa pc,va=Z ⟨g,0,Y⟩/\g<w.heap.size/\
   (∀o v,[j6 r.name,I P r.rank,I P r.digits,I P r.lo,I P r.hi,V ma r.mcc.length mc,U r.am.isSome,I P (r.am.getD (0,0)).1,I P (r.am.getD (0,0)).2,V ca r.cur.length cc,U r.decline,U r.cheapest,V pa r.routes.length pc,I P r.ahead][o]?=Z v->w.cell? ⟨g,i*14+o,Y⟩=Z v)/\
   w.ownsRow zb 3 1 (V ma r.mcc.length mc) r.mcc.length (Zg r.mcc)/\w.ownsRow zb 3 1 (V ca r.cur.length cc) r.cur.length (Zg r.cur)/\w.ownsRow zb 3 1 (V pa r.routes.length pc) r.routes.length (Zg r.routes)
 od:∃oa oc,w.cell? ⟨G,1,Y⟩=Z (V oa rls.length oc)/\∀k,k<rls.length->∃og,oa=Z ⟨og,0,Y⟩/\og<w.heap.size/\w.cell? ⟨og,k,Y⟩=Z (I P (ord k))
theorem xo.fr {l w w' G b d}(h:xo l w G b d)(a:F0 w w'):xo l w' G b d:=by
 obtain⟨s,⟨t,c,m,u⟩,x,y,n,z⟩:=h;refine⟨x2 s a.size,⟨t,c,(a.cell (p:=⟨G,0,Y⟩) (bL w _ m)).trans m,fun i r hi=>?_⟩,x,y,(a.cell (p:=⟨G,1,Y⟩) (bL w _ n)).trans n,fun k A=>?_⟩
 ·obtain⟨g,B,C,D,E,F,H,f,e,j,I,J,K⟩:=u i r hi
  exact⟨g,B,C,D,E,F,H,f,nL e a.size,fun o v L=>(a.cell (p:=⟨g,i*14+o,Y⟩) e).trans (j o v L),oF I a,oF J a,oF K a⟩
 obtain⟨q,f,e,j⟩:=z k A
 exact⟨q,f,nL e a.size,(a.cell (p:=⟨q,k,Y⟩) e).trans j⟩
theorem Vj (m:Nat):∀(a:Nat)(l:List Zl),(ZO m a l).length=l.length
 |_,[]=>rfl
 |a,_::r=>by show(ZO m (a+1) r).length+1=r.length+1;rw[Vj m (a+1) r]
theorem Xm.get {d:Nat}{w:F}:∀{l:List Zl}{a:List x3}{j:Nat}{s:Zl},Xm d w l a->l[j]?=Z s->∃c,uO d w s c/\∀o v,c[o]?=Z v->a[j*4+o]?=Z v
 |[],_,j,_,_,hj=>by simp at hj
 |s::r,a,0,s',⟨c,rest,e,h1,h2⟩,hj=>by
  simp at hj;subst hj;refine⟨c,h1,fun o v b=>?_⟩;have:=(iG.1 b).1;rw[e,g9,q0,x4 this];exact b
 |s::r,a,j+1,s',⟨c,rest,e,h1,h2⟩,hj=>by
  obtain⟨f,g,h⟩:=Xm.get h2 (j:=j) (s:=s') (by simpa using hj)
  have l:c.length=4:=by obtain⟨k,i,_⟩:=h1;rw[i];rfl
  refine⟨f,g,fun o v b=>?_⟩;rw[e,aR (by omega),l,show(j+1)*4+o-4=j*4+o from by omega];exact h o v b
theorem Xm.ones {f:Nat}{w:F}:∀{l:List Zl}{d:List x3},Xm f w l d->∀u,u∈d->u.oneCell'=true
 |[],_,h,u,hu=>by
  have e:=h;rw[e]at hu;simp at hu
 |s::r,d,⟨c,rest,e,⟨vn,e1,h1⟩,h2⟩,u,hu=>by
  rw[e,e1]at hu;rcases j0.1 hu with h|h
  ·obtain⟨a,b,g⟩:=oL h1
   rw[g]at h;simp only[j3,List.not_mem_nil,or_false]at h
   rcases h with rfl|rfl|rfl|rfl<;>rfl
  exact Xm.ones h2 u h
theorem Xm.skip {b:Nat}{w:F}:∀{l:List Zl}{a:List x3}{j:Nat}{s:Zl}(k:Nat),Xm b w l a->l[j]?=Z s->Xm b w (l.set j {s with skip:=k}) (a.set (j*4+3) (I P k))
 |[],_,j,_,_,_,hj=>by simp at hj
 |s::r,a,0,s',k,⟨c,rest,e,⟨vn,e1,h1⟩,h2⟩,hj=>by
  simp at hj;subst hj;subst e e1;exact⟨[I y8 s.sort,vn,I P s.rule,I P k],rest,rfl,⟨vn,rfl,h1⟩,h2⟩
 |s::r,a,j+1,s',k,⟨c,rest,e,⟨vn,e1,h1⟩,h2⟩,hj=>by
  subst e e1;refine⟨[I y8 s.sort,vn,I P s.rule,I P s.skip],rest.set (j*4+3) (I P k),?_,⟨vn,rfl,h1⟩,Xm.skip k h2 (by simpa using hj)⟩;rw[show(j+1)*4+3=j*4+3+4 from by omega];rfl
def SY (b:List Zl)(a:Nat):List Zl:=(ZO b.length 0 b).take a++b.drop a
theorem Mg (m:Nat):∀(l:List Zl)(b a:Nat)(s:Zl),l[a]?=Z s->(ZO m b l)[a]?=Z {s with skip:=m-(b+a)+1}
 |[],_,_,_,h=>by simp at h
 |x::r,b,0,s,h=>by
  simp at h;subst h;rfl
 |x::r,b,a+1,s,h=>by
  show(ZO m (b+1) r)[a]?=_
  rw[Mg m r (b+1) a s (by simpa using h),show b+1+a=b+(a+1)from by omega]
theorem CO {b a s}(h:b[a]?=Z s):(SY b a)[a]?=Z s/\SY b (a+1)=(SY b a).set a {s with skip:=b.length-a+1}:=by
 have f:=(iG.1 h).1;have g:=Vj b.length 0 b;have d:=Mg b.length b 0 a s h;rw[q0]at d
 have e:b.drop a=s::b.drop (a+1):=by
  rw[dC f];rw[(iG.1 h).2]
 have c:((ZO b.length 0 b).take a).length=a:=by rw[C];omega
 unfold SY
 constructor
 ·rw[aR (by omega),c,p8,e]
  rfl
 rw[List.take_add_one,d,e,List.set_append,if_neg (by omega),c,p8]
 simp
theorem Kr (a):SY a 0=a:=by simp[SY]
theorem A7 (a):SY a a.length=ZO a.length 0 a:=by
 unfold SY;rw[List.take_of_length_le (by rw[Vj];exact z8 _),dL (z8 _),k2]
theorem Ot (b a)(h:a<=b.length):(SY b a).length=b.length:=by
 unfold SY;rw[lA,C,j5,Vj];omega
theorem Tp (r):(Z6 r).length<=3:=by
 rw[Mf,lA,lA];unfold FO BZ FP
 split<;>split<;>split<;>simp
def Wb (n:Nat)(a:Nat->Nat):List Nat:=(j2 n).map a
theorem CP {n k a}(h:k<n):(Wb n a).drop k=a k::(Wb n a).drop (k+1):=by
 have b:k<(Wb n a).length:=by unfold Wb;simpa using h
 rw[dC b]
 have e:(Wb n a)[k]=a k:=by simp[Wb]
 rw[e]
theorem I7 (R met i L r)(h:R[i]?=Z r):ZJ R met (i::L)=if met.testBit i then(if Z6 r=[]then[UK i r]else Si r++(UK i r::ZJ R met L))else ZJ R met L:=by
 rw[ZJ,h]
structure sC (zb:Nat)(w:F)(R:List Ze)(met n:Nat)(ord:Nat->Nat)(k:Nat)(v:x3)(l:List Zl)(wr:F):Prop where
 row:Z3 zb wr w.heap.size v l
 fr:F0 w wr
 eq:ZJ R met (Wb n ord)=l++ZJ R met ((Wb n ord).drop k)
 le:l.length<=k*4
structure I8 (zb:Nat)(w0:F)(v:x3)(gs:List Zl)(a:Nat)(wx:F):Prop where
 row:Z3 zb wx w0.heap.size v (SY gs a)
 fr:F0 w0 wx
theorem I8.step {i w0 e g m c a b}(h:I8 i w0 (V (Z ⟨g,0,Y⟩) m c) b a e)(f:b.length=m)(A:a<m):
  I8 i w0 (V (Z ⟨g,0,Y⟩) m c) b (a+1) (e.setCell ⟨g,a*4+3,Y⟩ (I P ((m-a+1:Nat):Int)))/\(∃u,e.cell? ⟨g,a*4+3,Y⟩=Z u)/\e.frozen? ⟨g,a*4+3,Y⟩=false:=by
 obtain⟨o,d,j⟩:=h.row;rw[Ot b a (by omega),f]at d;obtain⟨s,q⟩:∃s,b[a]?=Z s:=⟨_,gE (by omega)⟩;obtain⟨k,r⟩:=CO q;obtain⟨t,w⟩:=d.stored (a*4+3) (I P ((m-a+1:Nat):Int));obtain⟨B,⟨C,rfl,_⟩,x⟩:=j.get k;have y:=x 3 _ rfl;have z:=(d.lt g rfl).1;refine⟨⟨⟨o.set (a*4+3) (I P ((m-a+1:Nat):Int)),?_,?_⟩,h.fr.setCell (p:=⟨g,a*4+3,Y⟩) (T z) _⟩,⟨_,(d.cellAt (a*4+3) (by omega)).trans y⟩,d.frozenAt _⟩
 ·rw[Ot b (a+1) (by omega),f]
  exact t
 rw[r,f]
 refine(j.skip (m-a+1) k).keep fun v n D l=>l.kept w (WL l d (by decide))
theorem Dj {l W G R k}(h:xo l W G R k)(i:Nat)(r)(m:R[i]?=Z r):
  Q E 223 #[N (Z ⟨G,0,Y⟩),I P i] W fun e w'=>(∃s a b c,∃d:List Nat,e=H (q9 #[I y8 (s:Nat),V a b c,I P i,I P 0])/\UK i r=⟨s,d,i,0⟩/\w'.ownsRow l 3 1 (V a b c) d.length (Zg d))/\F0 W w':=by
 obtain⟨v,c,q,t⟩:=h.rl;obtain⟨g,w,x,y,z,n,o,rfl,_,f,_,_,u⟩:=t i r m;refine(I6 W G _ _ _ _ _ _ _ _ _ _ _ _ _ _ _ _ _ _ _ _ g R.length c i q (iG.1 m).1 f).mono ?_;rintro e w' ⟨rfl,p⟩;refine⟨?_,p⟩;have j:=oF u p;unfold UK
 cases r.decline with
 |true=>exact⟨3,Y,0,0,[],rfl,rfl,oZ _ _ _ _⟩
 |false=>
  cases r.cheapest with
  |true=>exact⟨5,n,_,o,r.routes,rfl,rfl,j⟩
  |false=>exact⟨4,n,_,o,r.routes,rfl,rfl,j⟩
theorem FR {zb}(w G R y)(met:Nat)(h:xo zb w G R y)(hn:R.length<=8)(hm:met<256)(ho:∀k,k<R.length->y k<R.length)(hR:∀r,r∈R->r.mcc.length<=4000/\r.cur.length<=4000):
  Q E 187 #[N (Z ⟨G,0,Y⟩),I .u64 met] w fun e w'=>(∃v,e=H v/\Z3 zb w' w.heap.size v (ZJ R met (Wb R.length y)))/\F0 w w':=by
 obtain⟨ii,c0,t0,w0,x0⟩:=info_parts TE;have HG:=Za h;have HO:=Za ho;have s1:=Za hR;obtain⟨oa,oc,c1,T0⟩:=h.od;have V0:=Za T0;obtain⟨n,G0⟩:∃n,R.length=n:=⟨_,rfl⟩;have HN:=Za G0;rw[G0]at c1 hn;clear h ho hR T0 G0;go_enter Tryz.func187,Tryz.ntmps187;go_wp2_with fail
 go_loopg [5,15] n (fun m v kv wr=>∃k l,k<=n/\m=n-k/\kv=I P (k:Nat)/\M (sC zb w R met n y k v l wr))
 case atStart=>exact⟨0,[],g5 _,rfl,rfl,⟨⟨[],oZ _ _ _ _,rfl⟩,Zt,rfl,by simp⟩⟩
 obtain⟨k,l,hk,rfl,rfl,S⟩:=hrel;obtain⟨xs,H0,W0⟩:=S.o.row;obtain⟨va,vc,e3⟩:=oL H0;subst e3;have D:M (wr.ownsRow w.heap.size 208 4 (V va l.length vc) l.length xs/\Xm zb wr l xs):=⟨H0,W0⟩;have S1:=S.o.le;have T1:=S.o.fr.size;clear H0 W0;by_cases t1:k<n
 ·have w1:(k:Int)<(n:Int):=by omega
  obtain⟨og,x1,E0,I0⟩:=V0.o k (by have:=HN.o;omega);subst x1;obtain⟨i,hi⟩:∃i,y k=i:=⟨_,rfl⟩;have HI:=Za hi
  have V1:i<n:=by have:=HO.o k (by have:=HN.o;omega);have:=HN.o;omega
  rw[hi]at I0;have d0:=(S.o.fr.cell (p:=⟨og,k,Y⟩) E0).trans I0;obtain⟨r,hr⟩:∃r,R[i]?=Z r:=⟨_,gE (by have:=HN.o;omega)⟩;have y0:=Za hr
  have e0:M (∀W,Q E 145 #[I .u64 met,I P i] W fun e w'=>e=H (U (met.testBit i))/\w'=W):=fun W=>De met i W hm (by omega)
  have X:M (ZJ R met ((Wb n y).drop k)=if met.testBit i then(if Z6 r=[]then[UK i r]else Si r++(UK i r::ZJ R met ((Wb n y).drop (k+1))))else ZJ R met ((Wb n y).drop (k+1))):=by
   show _=_
   rw[CP t1,hi,I7 R met i _ r hr]
  clear hi hr I0
  cases hb:met.testBit i with
  |false=>
   rw[hb]at e0 X;go_wp2_with fail;refine(e0.o _).mono ?_;rintro e w2 ⟨rfl,hw⟩;replace hw:=hw.symm;subst hw;go_wp2_with fail;go_roundg (n-(k+1))
   case measure=>omega
   refine⟨k+1,l,by omega,rfl,by go_num,⟨S.o.row,S.o.fr,?_,by omega⟩⟩;have e:=S.o.eq;rw[X.o]at e
   simpa using e
  |true=>
   rw[hb]at e0 X;have J0:=HG.o.fr S.o.fr;obtain⟨W1,c2,g0,X0⟩:=J0.rl;obtain⟨g,ma,mc,ca,cc,pa,pc,eg,A0,b,Y0,Z0,d1⟩:=X0 i r y0.o;subst eg;rw[HN.o]at g0;have v0:=b 0 _ rfl;have v1:=b 1 _ rfl;have v2:=b 2 _ rfl;have v3:=b 3 _ rfl;have v4:=b 4 _ rfl;have v5:=b 5 _ rfl;have v6:=b 6 _ rfl;have v7:=b 7 _ rfl;have v8:=b 8 _ rfl;have v9:=b 9 _ rfl;have A1:=b 10 _ rfl;have B1:=b 11 _ rfl;have C1:=b 12 _ rfl;have D1:=b 13 _ rfl;rw[p0]at v0;have K0:=s1.o r (mG y0.o)
   have L0:M (Q E 222 #[GY r.name r.rank r.digits r.lo r.hi ma r.mcc.length mc r.am.isSome (r.am.getD (0,0)).1 (r.am.getD (0,0)).2 ca r.cur.length cc r.decline r.cheapest pa r.routes.length pc r.ahead] wr fun e w'=>(∃v,e=H v/\Z3 zb w' wr.heap.size v (Z6 r)/\(Z6 r=[]->v=V Y 0 0))/\F0 wr w'):=by
    rw[Mf];exact FQ r.name r.rank r.digits r.lo r.hi ma mc r.am.isSome _ _ ca cc r.decline r.cheapest pa r.routes.length pc r.ahead r.mcc r.cur wr J0.zl Y0 Z0 K0.1 K0.2
   unfold GY at L0;have E1:=Za b;have F1:=Za A0;have q:=Za d1
   have X1:(i:Int)<(n:Int):=by omega
   clear b Y0 Z0 d1 K0 X0 J0 A0;go_wp2_with fail;refine(e0.o _).mono ?_;rintro e w2 ⟨rfl,hw⟩;replace hw:=hw.symm;subst hw;go_wp2_with fail;refine L0.o.mono ?_;rintro e w3 ⟨⟨Y1,rfl,f1,M0⟩,g1⟩;obtain⟨f,f0⟩:∃f,Z6 r=f:=⟨_,rfl⟩;have Z1:=Za f0
   have A0:f.length<=3:=by rw[<-f0];exact Tp r
   rw[show Si r=ZO (Z6 r).length 0 (Z6 r)from rfl,f0]at X;rw[f0]at f1 M0;obtain⟨G1,z,h0⟩:=f1;obtain⟨i0,a0,e8⟩:=oL z;subst e8;obtain⟨m,j0⟩:∃m,f.length=m:=⟨_,rfl⟩;have b0:=Za j0;obtain⟨wo,H1⟩:∃x,x=wr:=⟨_,rfl⟩;subst H1;have i1:M (I8 zb wo (V i0 m a0) f 0 w3):=⟨⟨G1,by rw[Kr,<-j0];exact z,by rw[Kr];exact h0⟩,g1⟩
   have I1:M (f=[]->g6 i0 m a0=V Y 0 0):=by rw[<-j0];exact M0
   rw[j0]at A0 ⊢;clear f0 j0 M0 z h0 g1 v0 v1 v2 v3 v4 v5 v6 v7 v8 v9 A1 B1 C1 D1 g0 e0 L0 E1 F1 q d0 E0 c1 V0;go_wp2_with fail
   go_loopg [33] m (fun mm kv wx=>∃a,a<=m/\mm=m-a/\kv=I P (a:Nat)/\M (I8 zb wo (V i0 m a0) f a wx))
   case atStart=>exact⟨0,g5 _,rfl,rfl,i1⟩
   obtain⟨a,ha,rfl,rfl,HF⟩:=hrel;by_cases j1:a<m
   ·have k1:(a:Int)<(m:Int):=by omega
    obtain⟨g8,e8⟩:∃g8,i0=Z ⟨g8,0,Y⟩:=by
     obtain⟨a2,J1,_⟩:=HF.o.row;rcases J1.2 with⟨e,_⟩|⟨g',O1,b2,e,_⟩
     ·injection e with _ e2 _
      omega
     injection e with e1 _ _
     exact⟨g',e1⟩
    subst e8;obtain⟨N0,⟨u,hu⟩,d2⟩:=HF.o.step b0.o j1;rw[show((m-a+1:Nat):Int)=(m:Int)-a+1 from by omega]at N0;have K1:=Za N0;clear N0;go_wp2_with fail;go_roundg (m-(a+1))
    case measure=>omega
    exact⟨a+1,by omega,rfl,by go_num,K1⟩
   have L1:a=m:=by omega
   subst L1
   have k1:¬(a:Int)<(a:Int):=by omega
   have O0:=S.o.fr.trans HF.o.fr;have P0:=Za O0
   have M1:M (Z3 zb wr wo.heap.size (V i0 a a0) (ZO f.length 0 f)):=by
    have e:=HF.o.row;rw[<-b0.o,A7]at e;rw[<-b0.o];exact e
   have q:M (wr.ownsRow w.heap.size 208 4 (V va l.length vc) l.length xs/\Xm zb wr l xs):=⟨oF D.o.1 HF.o.fr,D.o.2.keep (fun v n ys hv=>oF hv HF.o.fr)⟩;have l1:=O0.size;clear O0 HF i1 D;by_cases m1:a=0
   ·subst m1
    have K:=q8.1 b0.o;have e8:=I1.o K;injection e8 with e8 _ e9;subst e8 e9
    go_wp2_with (at_builtin;refine wpList_append_own_none rfl (.tmp 46) (.tmp 47) 129 rfl w.heap.size 208 ii 4 Tryz.underlying129 c0 (V va l.length vc) l.length xs rfl ?h1 rfl ?h2)
    case h1=>exact q.o.1
    refine(Dj (HG.o.fr P0.o) i r y0.o).mono ?_;rintro e w5 ⟨⟨s,a1,b1,c1,k0,rfl,A,B⟩,F⟩;have l0:=Za A;have m0:=Za B;have n0:=Za F;have n1:w.heap.size<=w5.heap.size:=x2 l1 F.size;clear A B F
    go_wp2_with (at_builtin;refine wpList_append_lies _ rfl (.tmp 49) (.tmp 53) 129 rfl w.heap.size 208 ii _ 4 48 Tryz.underlying129 c0 t0 w0 x0 rfl (by decide) (V va l.length vc) l.length xs rfl ?q1 ⟨w5.heap.size,0,Y⟩ 1 1 [I y8 s,V a1 b1 c1,I P i,I P 0] rfl rfl ?q2 ?q3 (by decide) ?q4 ?q5 ?q6 _ rfl ?q7)
    case q1=>exact(oF q.o.1 n0.o).alloc _
    case q2=>exact z0 (aN w5 (O #[I y8 s,V a1 b1 c1,I P i,I P 0] 208))
    case q3=>simp[y9]
    case q4=>unfold maxLen;omega
    case q5=>omega
    case q6=>simp;omega
    intro g2 t w6 d c J _
    have C:M (Z3 zb w6 w.heap.size (V (Z ⟨g2,0,Y⟩) (l.length+1) t) (l++[UK i r])/\F0 w w6):=by
     have hf:=n0.o.alloc (O #[I y8 s,V a1 b1 c1,I P i,I P 0] 208);rw[l0.o];refine⟨Z3.grown (l':=[⟨s,k0,i,0⟩]) (oF q.o.1 hf) (q.o.2.keep (fun v n ys hv=>oF hv hf)) (Xm.one ⟨_,rfl,m0.o.alloc _⟩) c d,(P0.o.trans hf).grown c (fun k hk=>T (q.o.1.lt k hk).1)⟩
    clear d c J;go_wp2_with fail;go_ret;refine⟨⟨_,rfl,?_⟩,C.o.2⟩;have e:=S.o.eq;rw[X.o,if_pos trivial,if_pos K]at e;rw[HN.o,e];exact C.o.1
   have K:¬f=[]:=fun e=>m1 (by have:=b0.o;rw[e]at this;exact this.symm)
   have P1:¬(a:Int)=0:=by omega
   obtain⟨o0,z,h0⟩:=M1.o
   have Q0:(ZO f.length 0 f).length=a:=by rw[Vj];exact b0.o
   rw[Q0]at z;obtain⟨g8,Q1,e8,f2,R1⟩:=z.form (by omega);injection e8 with e8 _ e9;subst e8 e9;have B0:M (wr.ownsRow wo.heap.size 208 4 (V (Z ⟨g8,0,Y⟩) a a0) a o0/\Xm zb wr (ZO f.length 0 f) o0):=⟨z,h0⟩;have r0:=Za Q0;clear z h0 Q0
   go_wp2_with (at_builtin;refine wpList_append_lies _ rfl (.tmp 46) (.tmp 47) 129 rfl w.heap.size 208 ii _ 4 48 Tryz.underlying129 c0 t0 w0 x0 rfl (by decide) (V va l.length vc) l.length xs rfl ?p1 ⟨g8,0,Y⟩ a a0 o0 rfl B0.o.1.1 ?p2 ?p3 (by omega) ?p4 ?p5 ?p6 _ rfl ?p7)
   case p1=>exact q.o.1
   case p2=>
    intro j u hu;have e:=B0.o.1.cells (g:=g8) rfl j u hu
    rwa [Yd,q0]at e
   case p3=>exact B0.o.2.ones
   case p4=>unfold maxLen;omega
   case p5=>omega
   intro g4 L w4 d c J _
   have C0:M (Z3 zb w4 w.heap.size (V (Z ⟨g4,0,Y⟩) (l.length+a) L) (l++ZO f.length 0 f)/\F0 w w4):=by
    refine⟨?_,P0.o.grown c (fun k hk=>T (q.o.1.lt k hk).1)⟩;have e:=Z3.grown (g:=g4) (cap:=L) (l':=ZO f.length 0 f) q.o.1 q.o.2 B0.o.2 c (by rw[r0.o];exact d);rw[r0.o]at e;exact e
   have o1:=C0.o.2.size;clear d c J;obtain⟨R0,S0,r1⟩:=C0.o.1;rw[lA,r0.o]at S0;have D0:M (w4.ownsRow w.heap.size 208 4 (V (Z ⟨g4,0,Y⟩) (l.length+a) L) (l.length+a) R0/\Xm zb w4 (l++ZO f.length 0 f) R0):=⟨S0,r1⟩;clear S0 r1;go_wp2_with fail;refine(Dj (HG.o.fr C0.o.2) i r y0.o).mono ?_;rintro e w5 ⟨⟨s,a1,b1,c1,k0,rfl,A,B⟩,F⟩;have l0:=Za A;have m0:=Za B;have n0:=Za F;have n1:w.heap.size<=w5.heap.size:=x2 o1 F.size;clear A B F
   go_wp2_with (at_builtin;refine wpList_append_lies _ rfl (.tmp 49) (.tmp 53) 129 rfl w.heap.size 208 ii _ 4 48 Tryz.underlying129 c0 t0 w0 x0 rfl (by decide) (V (Z ⟨g4,0,Y⟩) (l.length+a) L) (l.length+a) R0 rfl ?y1 ⟨w5.heap.size,0,Y⟩ 1 1 [I y8 s,V a1 b1 c1,I P i,I P 0] rfl rfl ?y2 ?y3 (by decide) ?y4 ?y5 ?y6 _ rfl ?y7)
   case y1=>exact(oF D0.o.1 n0.o).alloc _
   case y2=>exact z0 (aN w5 (O #[I y8 s,V a1 b1 c1,I P i,I P 0] 208))
   case y3=>simp[y9]
   case y4=>unfold maxLen;omega
   case y5=>omega
   case y6=>simp;omega
   intro g2 t w6 d c J _
   have C:M (Z3 zb w6 w.heap.size (V (Z ⟨g2,0,Y⟩) (l.length+a+1) t) ((l++ZO f.length 0 f)++[UK i r])/\F0 w w6):=by
    have hf:=n0.o.alloc (O #[I y8 s,V a1 b1 c1,I P i,I P 0] 208);rw[l0.o]
    have s0:(l++ZO f.length 0 f).length=l.length+a:=by rw[lA,r0.o]
    refine⟨?_,(C0.o.2.trans hf).grown c (fun k hk=>T (D0.o.1.lt k hk).1)⟩;have e:=Z3.grown (g:=g2) (cap:=t) (l:=l++ZO f.length 0 f) (l':=[⟨s,k0,i,0⟩]) (by rw[s0];exact oF D0.o.1 hf) (D0.o.2.keep (fun v n ys hv=>oF hv hf)) (Xm.one ⟨_,rfl,m0.o.alloc _⟩) c (by rw[s0];exact d);rw[s0]at e;exact e
   clear d c J;go_wp2_with fail;go_roundg (n-(k+1))
   case measure=>omega
   refine⟨k+1,(l++ZO f.length 0 f)++[UK i r],by omega,rfl,by go_num,⟨?_,C.o.2,?_,?_⟩⟩
   ·exact C.o.1
   ·have e:=S.o.eq
    rw[X.o,if_pos trivial,if_neg K]at e;rw[e];simp
   rw[lA,lA,r0.o]
   simp;omega
 have N1:k=n:=by omega
 subst N1
 have w1:¬(k:Int)<(k:Int):=by omega
 go_wp2_with (at_builtin;refine wpList_append_lies _ rfl (.tmp 60) (.tmp 62) 129 rfl w.heap.size 208 ii _ 4 48 Tryz.underlying129 c0 t0 w0 x0 rfl (by decide) (V va l.length vc) l.length xs rfl ?z1 ⟨wr.heap.size,0,Y⟩ 1 1 [I y8 6,V Y 0 0,I P 0,I P 0] rfl rfl ?z2 ?z3 (by decide) ?z4 ?z5 ?z6 _ rfl ?z7)
 case z1=>exact D.o.1.alloc _
 case z3=>simp[y9]
 case z4=>unfold maxLen;omega
 case z5=>omega
 case z6=>omega
 intro g2 t w6 d c J _
 have C:M (Z3 zb w6 w.heap.size (V (Z ⟨g2,0,Y⟩) (l.length+1) t) (l++[⟨6,[],0,0⟩])/\F0 w w6):=by
  have hf:=(Lt wr (O #[I y8 6,V Y 0 0,I P 0,I P 0] 208)).1;exact⟨Z3.grown (l':=[⟨6,[],0,0⟩]) (D.o.1.alloc _) (D.o.2.keep (fun v n ys hv=>hv.alloc _)) (Xm.one ⟨V Y 0 0,rfl,oZ _ _ _ _⟩) c d,(S.o.fr.trans hf).grown c (fun k hk=>T (D.o.1.lt k hk).1)⟩
 clear d c J;go_wp2_with fail;go_ret;refine⟨⟨_,rfl,?_⟩,C.o.2⟩;have e:=S.o.eq;rw[dL (by unfold Wb;simp)]at e;rw[HN.o,e];exact C.o.1
