import Derived.Lib.UnsafeStr
import Derived.Test.YtccikgogjfbpeaaGreatDoorAt
import Derived.Test.YtccikgogjfbpeaaGreatDoorAp
open Option renaming none->I,some->J
open Go.Value renaming slice->V,pointer->Z,string->E,oneCell'->z5,int->z8,bool->y1,pointer->y2,string->x2,slice->j0
open Go.Proofs.Tryz renaming prog->U
open Go.Ending renaming returned->K
open Go renaming World->O,Calls->H,Value->y5
open List renaming mem_append->G,append_nil->C,map_append->y8,length_append->x1,mem_singleton->x3,range->x7
open Go.World renaming news_of_block->M
open Go.Obj renaming cells->N
open Nat renaming le_trans->F,lt_or_ge->z0,mul_comm->z4,le_refl->z6,pow_pos->z7,div_eq_of_lt_le->y0,le_of_mul_le_mul_left->y3,lt_of_mul_lt_mul_left->y4,mul_div_cancel_left->y6,strongRecOn->y7,mul_le_mul_left->y9,le_of_lt->x0,mul_left_comm->x4,pow_add->x5,zero_le->x6,mul_assoc->x9,mul_succ->q0,succ_mul->q8,pow_one->q9,mod_lt->j4
open Or renaming inl->z9,inr->x8
namespace Go.Proofs.YtccikgogjfbpeaaGreatDoor
set_option maxRecDepth 30000
set_option maxHeartbeats 8000000
open Go.RowKit
def EI (w:O)(T:Nat):Prop:=∃a,w.cell? ⟨T,0,I⟩=J (Z (J ⟨a,0,I⟩))/\w.heap[a]?=J (N #[V I 0 0,V I 0 0] 89)
theorem EI.fr {w w' T}(h:EI w T)(a:F0 w w'):EI w' T:=by
 obtain⟨c,b,d⟩:=h;exact⟨c,(a.cell (p:=⟨T,0,I⟩) (bL w _ b)).trans b,a.whole d⟩
theorem Lf (w a)(h:w.cell? ⟨a,1,I⟩=J (V I 0 0)):H U 39 #[Z (J ⟨a,0,I⟩)] w fun e w'=>e=K (V I 0 0)/\w'=w:=by
 go_enter Tryz.func39,Tryz.ntmps39;go_wp2_with fail
 go_loopg [3,15] 0 (fun b v c wr=>b=0/\v=V I 0 0/\c=z8 .i64 0/\Hid (wr=w))
 case atStart=>exact⟨rfl,rfl,rfl,rfl⟩
 obtain⟨rfl,rfl,rfl,d⟩:=hrel;go_wp2_with fail;go_ret;exact⟨rfl,d.o⟩
theorem EJ (w a)(h:w.cell? ⟨a,1,I⟩=J (V I 0 0)):H U 140 #[Z (J ⟨a,0,I⟩)] w fun e w'=>e=K (V I 0 0)/\w'=w:=by
 go_enter Tryz.func140,Tryz.ntmps140;go_wp2_with fail
 go_loopg [3,11] 0 (fun b v c wr=>b=0/\v=V I 0 0/\c=z8 .i64 0/\Hid (wr=w))
 case atStart=>exact⟨rfl,rfl,rfl,rfl⟩
 obtain⟨rfl,rfl,rfl,d⟩:=hrel;go_wp2_with fail;go_ret;exact⟨rfl,d.o⟩
theorem Lg (w:O)(T:Nat)(h:EI w T):H U 20 #[Z (J ⟨T,0,I⟩)] w fun e w'=>e=K (V I 0 0)/\w'=w:=by
 obtain⟨b,f,c⟩:=h;have d:=Za (Lf w b (Zc c 1));go_enter Tryz.func20,Tryz.ntmps20;go_wp2_with fail;refine d.o.mono ?_;rintro e g ⟨rfl,a⟩;replace a:=a.symm;subst a;go_wp2_with fail;go_ret;exact⟨rfl,rfl⟩
theorem EK (w:O)(T:Nat)(h:EI w T):H U 89 #[Z (J ⟨T,0,I⟩)] w fun e w'=>e=K (V I 0 0)/\w'=w:=by
 obtain⟨b,f,c⟩:=h;have d:=Za (EJ w b (Zc c 1));go_enter Tryz.func89,Tryz.ntmps89;go_wp2_with fail;refine d.o.mono ?_;rintro e g ⟨rfl,a⟩;replace a:=a.symm;subst a;go_wp2_with fail;go_ret;exact⟨rfl,rfl⟩
theorem P8 (w b c):H U 59 #[Z (J ⟨b,0,I⟩),V I 0 c] w fun e w'=>e=K (.tuple #[])/\w'=w:=by
 go_enter Tryz.func59,Tryz.ntmps59;go_wp2_with fail
 go_loopg [8] 0 (fun a d wr=>a=0/\d=z8 .i64 0/\Hid (wr=w))
 case atStart=>exact⟨rfl,rfl,rfl⟩
 obtain⟨rfl,rfl,f⟩:=hrel;go_wp2_with fail
 go_end0
 exact⟨rfl,f.o⟩
theorem J7 (w b)(h:w.cell? ⟨b,1,I⟩=J (V I 0 0)):H U 61 #[Z (J ⟨b,0,I⟩)] w fun e w'=>e=K (E ⟨#[]⟩)/\F0 w w':=by
 have a:=fun w=>Lib.run_unsafeSliceData_nil (P:=U) w #[50] 201 0 0
 have c:=fun w=>Lib.run_unsafeString_none (P:=U) w 201 3 9 I
 go_enter Tryz.func61,Tryz.ntmps61;go_wp2_with fail
 go_region
 all_goals
  go_wp2_with fail;go_ret;exact⟨rfl,Zt.drew⟩
theorem EL (w d)(h:w.heap[d]?=J (N #[V I 0 0,V I 0 0] 89)):H U 33 #[Z (J ⟨d,0,I⟩)] w fun e w'=>e=K (E ⟨#[]⟩)/\F0 w w':=by
 have a:Hid (F0 w (w.alloc (N #[Z I,V I 0 0] 116))):=Zt.alloc _;have g:=Za (bC (aN w (N #[Z I,V I 0 0] 116)) 1 _ rfl);have f:=Za (a.o.whole h);have i:=Za (fun W b=>P8 W b 0);go_enter Tryz.func33,Tryz.ntmps33;go_upto_region 3 with fail;generalize w.alloc _=w0 at*;generalize w.heap.size=b at*;have p:=Zc f.o 0;have c1:=Zc f.o 1;go_wp2_with fail
 go_loopg [4,12] 0 (fun j v k wr=>j=0/\v=z8 .i64 0/\k=z8 .i64 0/\Hid (wr=w0))
 case atStart=>exact⟨rfl,rfl,rfl,rfl⟩
 obtain⟨rfl,rfl,rfl,l⟩:=hrel;have c:=l.o.symm;subst c;go_wp2_with fail;refine(i.o _ b).mono ?_;rintro e q ⟨rfl,c⟩;replace c:=c.symm;subst c;go_wp2_with fail;refine(J7 _ b g.o).mono ?_;rintro e w2 ⟨rfl,m⟩;have n:=Za (a.o.trans m);go_wp2_with fail;go_ret;exact⟨rfl,n.o⟩
theorem EM (w T)(h:EI w T):H U 17 #[Z (J ⟨T,0,I⟩)] w fun e w'=>e=K (E ⟨#[]⟩)/\F0 w w':=by
 obtain⟨a,g,b⟩:=h;have c:=Za (EL w a b);go_enter Tryz.func17,Tryz.ntmps17;go_wp2_with fail;refine c.o.mono ?_;rintro e i ⟨rfl,d⟩;have f:=Za d;go_wp2_with fail;go_ret;exact⟨rfl,f.o⟩
def LX (w:O)(T:Nat)(t:LR):Prop:=EI w T/\∃a b c d,w.cell? ⟨T,1,I⟩=J (Z (J ⟨a,0,I⟩))/\OV b w a t.rts c d t.nms t.prs t.root
theorem LX.fr {w w' T t}(h:LX w T t)(a:F0 w w'):LX w' T t:=by
 obtain⟨c,d,e,f,g,b,i⟩:=h;exact⟨c.fr a,d,e,f,g,(a.cell (p:=⟨T,1,I⟩) (bL w _ b)).trans b,i.fr a⟩
theorem DP {l t}(h:R8 l=J t):t.Ok:=by
 unfold R8 at h
 split at h
 ·cases h
 exact zO h
def Ps (t:LR):LR:=⟨t.rts,t.nms,t.prs,t.root.norm⟩
theorem K4 (t):XH (Ps t)=XH t:=by
 unfold XH Ps;rw[DL]
theorem xN {t}(h:t.Wr)(a:(Ps t).Ok):(Ps t).Wr:=⟨h.r6,h.rt,h.n8,h.nm,h.df,h.pl,h.pr,a.dp,a.lf⟩
theorem LW.ti {w T rts R}(h:LW w T rts R):vX w T (Wh rts R):=by
 obtain⟨a,b,c,d,e,f,g,_⟩:=h;exact⟨b,a,c,d,e,f.tg g⟩
theorem LX.ti {w T t}(h:LX w T t):vX w T t:=by
 obtain⟨_,a,b,c,d,e,f⟩:=h;exact⟨a,b,c,d,e,f⟩
theorem LX.same {w T rts R}(h:LX w T (Ps (Wh rts R)))(f:(Ps (Wh rts R)).Ok)(g:Yy rts R)(a c l)(b:Yf w a l)(i:l.length<=maxLen)(p)(j:p.pan.size<=maxLen):
  H U 19 #[Z (J ⟨T,0,I⟩),UL p,V a l.length c] w fun e w'=>e=K (OU (TV rts R p (Vk rts l)))/\F0 w w':=by
 obtain⟨_,k,m,o,r,s,t⟩:=h
 have e:=Hh w m T k rts o r _ _ _ a c l p (Qn R (YG (Zv R) (YY R p (Zy p.pan)) R.length)) ⟨s,t,uC f,b,i⟩ (fun u=>by
  obtain⟨q,v,x⟩:=Mx g p u;have d:=KT (dg:=IY (Zy p.pan)) (fun n=>j4 _ (by decide)) (Wh rts R).root 0;refine⟨q,?_,x⟩
  show(Wh rts R).prs[(Wh rts R).root.norm.find (IY (Zy p.pan)) 0]?=J q
  rw[d]
  exact v) j
 have y:=Kw (rts:=rts) (R:=R) p (Vk rts l);rw[<-y];exact e
theorem GI (a hi:Nat):∀(n k:Nat),k<=Sy a hi n k
 |0,k=>z6 _
 |n+1,k=>by
  unfold Sy
  split
  ·exact F (Nat.le_succ k) (GI a hi n (k+1))
  exact z6 _
theorem K5 {a hi m:Nat}(h:xm a hi m):∀(n k:Nat),m<=n+k->m<=Sy a hi n k
 |0,k,h2=>by simpa[Sy]using h2
 |n+1,k,h2=>by
  rcases z0 k m with b|b
  ·have e:=Nat.pow_le_pow_right (show 0<10 by omega) (show k+1<=m from b)
   have c:a/10^k % 10=0:=by
    obtain⟨j,d⟩:=h.1;rw[d,show m=k+(1+(m-(k+1)))from by omega,x5,x5,x9,x9,y6 _ (z7 (by omega)),q9,Nat.mul_mod_right]
   unfold Sy;rw[if_pos ⟨c,by have:=h.2;omega⟩];exact K5 h n (k+1) (by omega)
  exact F b (GI a hi _ k)
theorem OH {d hi:Nat}{q:Z5}(v:hi<10^d)(B:d<=6)(C:q.d<=d)(w:q.x*10^(d-q.d)+10^(d-q.d)<=hi+1):∀(n b:Nat),hi+1-b<=n->b<=q.x*10^(d-q.d)->ZI q (Yp d hi n b)=2
 |0,b,hn,hl=>by have:=z7 (n:=d-q.d) (show 0<10 by omega);omega
 |n+1,b,hn,hl=>by
  have D:=z7 (n:=d-q.d) (show 0<10 by omega)
  have c:b<=hi:=by omega
  have F:=AX c v;obtain⟨⟨j,g⟩,G⟩:=O9 c
  have i:=fun m (h:xm b hi m)=>K5 h 9 0
  change∀m,xm b hi m->m<=9+0->m<=SH b hi at i
  unfold Yp;rw[if_pos c];generalize SH b hi=k at*;have l:=z7 (n:=k) (show 0<10 by omega);unfold ZI
  split
  ·rfl
  rename_i r
  have s:b/10^k=j:=by rw[g,y6 _ l]
  have y:¬(q.x*10^(d-q.d)<b+10^k):=fun o=>by
   rcases z0 k (d-q.d)with z|z
   ·obtain⟨t,f⟩:10^k∣q.x*10^(d-q.d):=Nat.dvd_trans (Nat.pow_dvd_pow 10 (x0 z)) (Nat.dvd_mul_left _ _)
    have H:j<=t:=y3 (by rw[<-g,<-f];exact hl) l;have I:t<j+1:=y4 (a:=10^k) (by rw[<-f,q0,<-g];exact o)
    have E:t=j:=by omega
    have A:b=q.x*10^(d-q.d):=by rw[f,E];exact g
    have:=i (d-q.d) ⟨⟨q.x,by rw[A,z4]⟩,by rw[A];exact w⟩ (by omega);omega
   refine r (UO.2 ⟨by show d-k<=q.d;omega,?_⟩)
   show q.x/10^(q.d-(d-k))=b/10^k
   rw[s]
   have e:10^k=10^(d-q.d)*10^(q.d-(d-k)):=by rw[<-x5];congr 1;omega
   have u:10^(d-q.d)*(j*10^(q.d-(d-k)))<=10^(d-q.d)*q.x:=by rw[x4,<-e,z4 j,<-g,z4];exact hl
   have p:10^(d-q.d)*q.x<10^(d-q.d)*((j+1)*10^(q.d-(d-k))):=by rw[x4,<-e,z4 (j+1),q0,<-g,z4];exact o
   exact y0 (y3 u D) (y4 p)
  rw[if_neg ?_]
  ·exact OH v B C w n _ (by omega) (by omega)
  intro h
  obtain⟨u,p⟩:=UO.1 h
  change q.d<=d-k at u
  change b/10^k/10^(d-k-q.d)=q.x at p
  rw[<-Y5,show k+(d-k-q.d)=d-q.d from by omega]at p;have:=Nat.div_mul_le_self b (10^(d-q.d));rw[p]at this;omega
theorem Lh {q:Z5}:∀{a:List Z5},ZI q a=1->∃p,p∈a/\q.holds p=true
 |[],h=>by simp[ZI]at h
 |p::r,h=>by
  unfold ZI at h
  split at h
  ·omega
  split at h
  ·rename_i b
   exact⟨p,List.mem_cons_self,b⟩
  obtain⟨c,d,e⟩:=Lh h
  exact⟨c,List.mem_cons_of_mem _ d,e⟩
theorem EN {d lo hi q}(e:hi<10^d)(f:d<=6)(h:ZI q (YS d lo hi)=1):q.d<d/\(lo/10^(d-q.d)=q.x\/hi/10^(d-q.d)=q.x):=by
 have j:=N9 e f h;have m:=z7 (n:=d-q.d) (show 0<10 by omega);refine⟨j,?_⟩
 have w:¬(lo<=q.x*10^(d-q.d)/\q.x*10^(d-q.d)+10^(d-q.d)<=hi+1):=fun⟨a,b⟩=>by
  have:=OH e f (x0 j) b (hi+1-lo) lo (z6 _) a;unfold YS at h;omega
 obtain⟨y,o,r,g⟩:∃y,lo<=y/\y<=hi/\y/10^(d-q.d)=q.x:=by
  obtain⟨p,s,t⟩:=Lh h;have i:YT p (p.x*10^(6-p.d)):=Nat.mul_div_cancel _ (z7 (by omega));obtain⟨z,k⟩:=Ut e f _ _ s (c:=p.x*10^(6-p.d));have l:=IU t (by omega) i;refine⟨_,(k i).1,(k i).2,?_⟩;unfold YT at l;rw[<-Y5,show 6-d+(d-q.d)=6-q.d from by omega];exact l
 have u:=Nat.div_add_mod y (10^(d-q.d));have A:=j4 y m;rw[g,z4]at u;rcases z0 (q.x*10^(d-q.d)) lo with v|v
 ·exact .inl (y0 (by omega) (by rw[q8];omega))
 exact .inr (y0 (by omega) (by rw[q8];omega))
def Nf (d n:Nat)(q:Z5):Nat:=if q.d<d/\n/10^(d-q.d)=q.x then 1 else 0
def TG (f:Nat->Nat):Nat->Nat
 |0=>0
 |m+1=>TG f m+f m
theorem Li (f g:Nat->Nat):∀m,TG (fun k=>f k+g k) m=TG f m+TG g m
 |0=>rfl
 |m+1=>by simp only[TG];rw[Li f g m];omega
theorem J8 (d n:Nat)(q:Z5):∀m,m<=10->TG (fun k=>Nf d n (q.longer k)) m<=if q.d<d/\n/10^(d-q.d)=q.x/\n/10^(d-(q.d+1))% 10<m then 1 else 0
 |0,_=>x6 _
 |m+1,hm=>by
  have a:=J8 d n q m (by omega)
  show TG _ m+Nf d n (q.longer m)<=_
  generalize TG _ m=S at*;unfold Nf
  show S+(if q.d+1<d/\n/10^(d-(q.d+1))=q.x*10+m then 1 else 0)<=_
  rcases z0 (q.d+1) d with h|h
  ·rw[show d-q.d=(d-(q.d+1))+1 from by omega,Y5,q9]at a ⊢
   split at a<;>split<;>split<;>omega
  rw[if_neg (by omega)]
  split at a<;>split<;>omega
def G4 (R:List Ze)(q:Z5):Nat:=(R.map fun r=>Nf r.digits r.lo q+Nf r.digits r.hi q).sum
theorem GJ (q:Z5):∀R:List Ze,TG (fun k=>G4 R (q.longer k)) 10<=G4 R q
 |[]=>by simp[G4,TG]
 |r::R=>by
  have a:=J8 r.digits r.lo q 10 (z6 _);have b:=J8 r.digits r.hi q 10 (z6 _);have c:=GJ q R
  show TG (fun k=>Nf r.digits r.lo (q.longer k)+Nf r.digits r.hi (q.longer k)+G4 R (q.longer k)) 10<=Nf r.digits r.lo q+Nf r.digits r.hi q+G4 R q
  rw[Li (fun k=>Nf r.digits r.lo (q.longer k)+Nf r.digits r.hi (q.longer k)),Li (fun k=>Nf r.digits r.lo (q.longer k))];have d:TG (fun k=>Nf r.digits r.lo (q.longer k)) 10<=Nf r.digits r.lo q:=F a (by unfold Nf;split<;>split<;>omega);have e:TG (fun k=>Nf r.digits r.hi (q.longer k)) 10<=Nf r.digits r.hi q:=F b (by unfold Nf;split<;>split<;>omega);omega
theorem DQ {q:Z5}{r:Ze}(h:q.d<r.digits/\(r.lo/10^(r.digits-q.d)=q.x\/r.hi/10^(r.digits-q.d)=q.x)):∀{R:List Ze},r∈R->1<=G4 R q
 |x::R,a=>by
  show 1<=Nf x.digits x.lo q+Nf x.digits x.hi q+G4 R q
  rcases List.mem_cons.1 a with e|a
  ·subst e
   unfold Nf;rcases h.2 with b|b
   ·rw[if_pos ⟨h.1,b⟩];omega
   rw[if_pos (c:=q.d<r.digits/\r.hi/10^(r.digits-q.d)=q.x) ⟨h.1,b⟩];omega
  have:=DQ h a
  omega
theorem yj (q:Z5):∀R:List Ze,G4 R q<=2*R.length
 |[]=>by simp[G4]
 |r::R=>by
  have:=yj q R
  show Nf r.digits r.lo q+Nf r.digits r.hi q+G4 R q<=_
  unfold Nf;rw[List.length_cons]
  split<;>split<;>omega
theorem GK (W:Nat->List UInt8):∀m,((x7 m).flatMap W).length=TG (fun k=>(W k).length) m
 |0=>rfl
 |m+1=>by rw[List.range_succ,List.flatMap_append,x1,GK W m];simp[TG]
theorem DR {f g:Nat->Nat}:∀m,(∀k,k<m->f k<=g k)->TG f m<=TG g m
 |0,_=>z6 _
 |m+1,h=>Nat.add_le_add (DR m fun k a=>h k (by omega)) (h m (by omega))
theorem GL (c:Nat)(f:Nat->Nat):∀m,TG (fun k=>1+c*f k) m=m+c*TG f m
 |0=>by simp[TG]
 |m+1=>by simp only[TG];rw[GL c f m,Nat.mul_add];omega
theorem GM {f:Nat->List Nat->Tr×List Nat}{B:Nat->Nat}(b:∀d a,(f d a).1.wr.length<=B d):∀(k:Nat)(a:List Nat)(d:Nat),d<k->((YB f k a).1 d).wr.length<=B d
 |0,_,_,hd=>by omega
 |k+1,a,d,hd=>by
  by_cases e:d=k
  ·subst e
   simp only[YB,if_true];exact b d _
  simp only[YB,if_neg e]
  exact GM b k a d (by omega)
theorem GN {R:List Ze}(b:∀r,r∈R->Q0 r):∀(n:Nat)(q:Z5)(met op:Nat)(c:List Nat),7<=n+q.d->q.d<=6->(ZH R n q met op c).1.wr.length<=1+10*(6-q.d)*G4 R q
 |0,q,_,_,_,hn,hq=>by omega
 |n+1,q,met,op,c,hn,hq=>by
  simp only[ZH]
  split
  ·show(ZA 1 _).length<=_
   rw[Zi];omega
  rename_i h
  obtain⟨j,i⟩:=Nat.exists_testBit_of_ne_zero h;rcases(QZ R 0 (met,0) j).2.1 i with k|⟨r,_,l,_,m⟩
  ·simp at k
  have g:=mG l;have o:=EN (b r g).2 (b r g).1 m;have s:=(b r g).1;have t:=DQ o g
  have p:=GM (f:=fun d a=>ZH R n (q.longer d) (YA q op 0 R (met,0)).1 (YA q op 0 R (met,0)).2 a) (B:=fun d=>1+10*(5-q.d)*G4 R (q.longer d)) (fun d a=>by
   have:=GN b n (q.longer d) (YA q op 0 R (met,0)).1 (YA q op 0 R (met,0)).2 a (by show 7<=n+(q.d+1);omega) (by show q.d+1<=6;omega);rw[show 6-(q.longer d).d=5-q.d from by show 6-(q.d+1)=_;omega]at this
   exact this) 10 c
  show(ZA 1 0++(x7 10).flatMap fun d=>((YB _ 10 c).1 d).wr).length<=_
  have e:=F (Nat.le_of_eq (GK _ 10)) (DR 10 p);rw[GL]at e;rw[lA,Zi];have u:=y9 (10*(5-q.d)) (GJ q R)
  have v:10*(6-q.d)*G4 R q=10*(5-q.d)*G4 R q+10*G4 R q:=by rw[<-Nat.add_mul];congr 1;omega
  omega
theorem GO {rts R}(a:Yy rts R):(Wh rts R).root.wr.length<=1111:=by
 have h:=GN (R:=R) (fun r b=>⟨(a.rl r b).bn.1,(a.rl r b).bn.2.1⟩) 7 ⟨0,0⟩ 0 (2^R.length-1) [] (by simp) (by simp);have c:=yj ⟨0,0⟩ R;have d:=a.l8;have e:10*(6-0)*G4 R ⟨0,0⟩<=60*16:=y9 60 (by omega);exact F h (by dsimp only;omega)
def uE (t:Tk):Prop:=t.sort=0->WC t.text=true
theorem yl {s k}(h:k<s.size)(a:ZK (ZD s k)=true)(g:Y8 (s.extract k (k+ZN Zq s k))=false)(q:¬8<ZN Zq s k):WC (s.extract k (k+ZN Zq s k))=true:=by
 have i:=XK Zq s k h (by simp[Zq,a]);have r:=Wi Zq s k (by omega);have l:=SQ s k (k+ZN Zq s k) 0 (by omega)
 have m:(s.extract k (k+ZN Zq s k)).size=ZN Zq s k:=by simp;omega
 unfold WC;rw[g,l,Nat.add_zero,a,m];simp only[Bool.not_false,Bool.true_and,Bool.and_eq_true,decide_eq_true_eq,List.all_eq_true];refine⟨i,by omega,fun c b=>?_⟩;rw[Lib.extract_data]at b;obtain⟨j,n,e⟩:=List.getElem_of_mem b;rw[List.getElem_take,List.getElem_drop]at e;obtain⟨d,f,o⟩:=Qd Zq (s.data.toList.drop k) j (by show j<ZN Zq s k;simp at n;omega);rw[List.getElem?_drop]at f;obtain⟨_,p⟩:=iG.1 f;rw[<-e,p];exact o
theorem BP {s k a k' t}(h:k<s.size)(b:Zs s k a=.tok t k'):uE t:=by
 unfold Zs at b
 repeat' split at b
 all_goals first|contradiction|(injection b with c d;subst c;first|(intro e;simp at e;done)|exact fun _=>yl h (by assumption) (by simpa using‹¬Y8 _=true›) (by assumption))
theorem uF {s}:∀n k a c ts,s.size-k=n->(∀t,t∈c->uE t)->ZL s k a c=.ok ts->∀t,t∈ts->uE t:=by
 intro n
 induction n using y7 with
 |ind n i=>
  intro k a c ts j g h;by_cases d:k<s.size
  ·cases f:Zs s k a with
   |skip k' l'=>
    rw[YI d f]at h;have:=X5 d f;exact i (s.size-k') (by omega) k' l' c ts rfl g h
   |tok t k'=>
    rw[WH d f]at h;have:=WG d f;refine i (s.size-k') (by omega) k' a (c++[t]) ts rfl (fun u b=>?_) h;rcases G.1 b with b|b
    ·exact g u b
    simp at b;subst b;exact BP d f
   |bad=>rw[Xq d f]at h;cases h
  rw[WI d]at h
  injection h with h;subst h;intro u b;rcases G.1 b with b|b
  ·exact g u b
  simp at b;subst b;exact fun e=>by simp at e
def xO:Vu->Prop
 | .route e=>WC e.name.text=true
 | .rule e=>WC e.name.text=true/\(e.act.decline=true\/1<=e.act.routes.length)
theorem yn {ts c}:∀m i b l k,ts.length-i=m->XW ts i c b=.ok (l,k)->b.length<=l.length:=by
 intro m
 induction m using y7 with
 |ind m f=>
  intro i b l k o a;rw[XW]at a
  split at a
  ·rename_i g
   have h:=Up g
   split at a
   ·cases a
   rename_i t d j
   have e:=(Yt j).2.2;have:=f (ts.length-d) (by omega) d _ l k rfl a;simp at this;omega
  injection a with a
  injection a with n p;subst n;omega
theorem yo {ts i a l k}(h:Xl ts i a=.ok (l,k)):1<=l.length:=by
 rw[Qe]at h;obtain⟨t,j,_,b⟩:=bI h;exact yn _ j [t] l k rfl b
theorem xP {ts}(h:∀t,t∈ts->uE t){i e k}(g:ZV ts i=.ok (e,k)):xO e:=by
 have n:∀{i:Nat}{t:Tk}{k:Nat},Z9 ts i 0=.ok (t,k)->WC t.text=true:=fun{i t k} o=>by
  obtain⟨rfl,d,_⟩:=Yt o;unfold Zo at d ⊢;rw[gD]at d ⊢
  cases m:ts[i]? with
  |none=>rw[m]at d;simp at d
  |some t=>rw[m]at d;exact h t (mG m) d
 unfold ZV at g
 split at g
 ·obtain⟨r,j,f,d⟩:=bI g
  injection d with d;injection d with d _;subst d;unfold WJ at f;obtain⟨a,q,g1,f⟩:=bI f;obtain⟨b,p,g2,f⟩:=bI f;obtain⟨c,s,g3,f⟩:=bI f;injection f with f;injection f with f _;subst f;exact n g1
 obtain⟨_,j,f,g⟩:=bI g
 obtain⟨r,p,d,g⟩:=bI g;injection g with g;injection g with g _;subst g;unfold Wk at d;obtain⟨a,_,g1,d⟩:=bI d
 iterate 8 obtain⟨_,_,_,d⟩:=bI d
 obtain⟨b,_,g2,d⟩:=bI d;injection d with d;injection d with d _;subst d;refine⟨n g1,?_⟩;unfold Xi at g2
 split at g2
 ·injection g2 with g2;injection g2 with g2 _;subst g2;exact .inl rfl
 split at g2
 all_goals
  obtain⟨l,j,g3,g2⟩:=bI g2;injection g2 with g2;injection g2 with g2 _;subst g2;exact .inr (yo g3)
theorem xQ {ts}(h:∀t,t∈ts->uE t):∀m i c g k,ts.length-i=m->(∀x,x∈c->xO x)->Zr ts i c=.ok (g,k)->∀x,x∈g->xO x:=by
 intro m
 induction m using y7 with
 |ind m p=>
  intro i c g k s n a;by_cases d:(Zo ts i).sort=3
  ·rw[XD d]at a
   injection a with a;injection a with a _;subst a;exact n
  cases f:ZV ts i with
  |error l=>rw[YK d f]at a;cases a
  |ok r=>
   obtain⟨e,j⟩:=r
   cases b:ZF ts j Vd with
   |error l=>rw[Y9 d f b]at a;cases a
   |ok r=>
    obtain⟨u,o⟩:=r;rw[X6 d f b]at a;have v:=WY f;have w:=Yu b
    have y:i<ts.length:=Nat.lt_of_not_le fun q=>d (by unfold Zo;rw[gD,List.getElem?_eq_none q];rfl)
    refine p (ts.length-o) (by omega) o _ g k rfl (fun x b=>?_) a;rcases G.1 b with b|b
    ·exact n x b
    simp at b;subst b;exact xP h f
theorem DS {rs:List Zf}:∀(l:List Tk)(i:Nat)(ns:List Nat),i<=4->Zw rs i l=.ok ns->i+ns.length<=4/\ns.length=l.length
 |[],i,ns,hi,h=>by
  simp only[Zw]at h;injection h with h;subst h
  simpa using hi
 |t::r,i,ns,hi,h=>by
  simp only[Zw]at h
  split at h
  ·cases h
  split at h
  ·cases h
  cases a:Zw rs (i+1) r with
  |error f=>rw[a]at h;cases h
  |ok b=>
   rw[a]at h;injection h with h;subst h;have:=DS r (i+1) b (by omega) a;simp;omega
theorem Rk:∀{l:List ByteArray},YW l->∀(i j:Nat)(a b:ByteArray),l[i]?=J a->l[j]?=J b->j<i->(a.toList==b.toList)=false
 |x::xs,h,0,j,_,_,_,_,hl=>by omega
 |x::xs,h,i+1,0,a,b,hi,c,_=>by
  injection c with c;subst c;exact h.1 a (mG (l:=xs) (i:=i) (by simpa using hi))
 |x::xs,h,i+1,j+1,a,b,hi,c,hl=>Rk h.2 i j a b (by simpa using hi) (by simpa using c) (by omega)
structure yq (rts:List Zf)(R:List Ze):Prop where
 rt:∀t,t∈rts->WC t.name=true/\t.base<=1000000/\t.rate<=1000
 rn:YW (rts.map Zf.name)
 ru:∀r,r∈R->WC r.name=true/\(r.decline=true\/1<=r.routes.length/\r.routes.length<=4)
 un:YW (R.map Ze.name)
theorem J9:∀(c:List Vu)(rts:List Zf)(b:List Ze)(p:List Zf×List Ze),yq rts b->(∀x,x∈c->xO x)->ZS rts b c=.ok p->yq p.1 p.2
 |[],rts,b,p,hB,_,h=>by
  simp only[ZS]at h;injection h with h;subst h;exact hB
 | .route e::c,rts,b,p,hB,ho,h=>by
  have i:=ho (.route e) (by simp)
  cases a:ZE rts e with
  |error f=>rw[YQ (f:=f) (by simp only[Vv,a])]at h;cases h
  |ok t=>
   rw[Xn (p:=(rts++[t],b)) (by simp only[Vv,a])]at h;unfold ZE at a
   split at a
   ·cases a
   split at a
   ·cases a
   rename_i j
   split at a
   ·cases a
   split at a
   ·cases a
   injection a with a;subst a;refine J9 c _ b p ⟨fun u d=>?_,?_,hB.ru,hB.un⟩ (fun x k=>ho x (by simp[k])) h
   ·rcases G.1 d with d|d
    ·exact hB.rt u d
    simp at d;subst d;exact⟨i,by dsimp only;omega,by dsimp only;omega⟩
   rw[y8]
   exact TC hB.rn (Bool.eq_false_iff.2 fun a=>j ((PE e.name.text rts 0).2 a))
 | .rule e::c,rts,b,p,hB,ho,h=>by
  have i:=ho (.rule e) (by simp)
  cases a:Z8 rts b e with
  |error f=>rw[YQ (f:=f) (by simp only[Vv,a])]at h;cases h
  |ok t=>
   rw[Xn (p:=(rts,b++[t])) (by simp only[Vv,a])]at h
   obtain⟨l,m,j,n⟩:t.name=e.name.text/\t.decline=e.act.decline/\XI e.name.text b=false/\Zw rts 0 e.act.routes=.ok t.routes:=by
    unfold Z8 at a
    repeat' split at a
    all_goals first|contradiction|(injection a with a;subst a;exact⟨rfl,rfl,by simp_all,by assumption⟩)
   have o:=DS _ 0 _ (by omega) n;refine J9 c rts _ p ⟨hB.rt,hB.rn,fun r g=>?_,?_⟩ (fun x k=>ho x (by simp[k])) h
   ·rcases G.1 g with g|g
    ·exact hB.ru r g
    simp at g
    subst g;rw[l,m];exact⟨i.1,i.2.imp id fun h=>by omega⟩
   rw[y8]
   refine TC hB.un ?_;rw[l,<-Of];exact j
theorem yr {s p}(h:XG s=.ok p):yq p.1 p.2:=by
 unfold XG at h
 split at h
 ·cases h
 cases a:ZL s 0 1 []with
 |error l=>rw[a]at h;cases h
 |ok ts=>
  rw[a]at h
  dsimp only at h
  cases b:Zr ts 0 []with
  |error l=>rw[b]at h;cases h
  |ok r=>
   rw[b]at h;exact J9 _ [] [] p ⟨by simp,trivial,by simp,trivial⟩ (xQ (uF _ 0 1 [] ts rfl (by simp) a) _ 0 [] _ _ rfl (by simp) b) h
theorem Ia {rts R}(b:Yy rts R)(c:∀r,r∈R->Tg r)(hi:yq rts R):(Wh rts R).Wr/\(XH (Wh rts R)).length<=100000:=by
 have d:=yg b (fun r a=>⟨(c r a).m4,(c r a).mx,(c r a).c4,(c r a).cx,fun f e=>⟨(c r a).am f e,x0 ((b.rl r a).am f e).2⟩,(hi.ru r a).2,(b.rl r a).pl.2⟩) hi.rt (fun r a=>(hi.ru r a).1)
  (by rw[M9 (Rk hi.rn),M9 (Rk hi.un)];rfl)
 refine⟨d,yh d (fun l g=>?_) (GO b)⟩;obtain⟨m,h,rfl⟩:=List.mem_map.1 g;have i:=Sl R m (Wb R.length (Zx (Zv R) R.length))
 have j:(Wb R.length (Zx (Zv R) R.length)).length=R.length:=by simp[Wb]
 have k:=b.l8;omega
def GP (w:O)(a T:Nat)(rts:List Zf)(R:List Ze)(lo:Bool):Prop:=
 ∃b c,a<=T/\w.cell? ⟨T,0,I⟩=J (Z (J ⟨b,0,I⟩))/\w.cell? ⟨T,1,I⟩=J (Z (J ⟨c,0,I⟩))/\a<=b/\
  match lo with
  |true=>w.heap[b]?=J (N #[V I 0 0,V I 0 0] 89)/\∃d f g,Ez d w c (Ps (Wh rts R)) f g/\a<=c/\a<=d
  |false=>∃e h i,Bk w b e h rts R i/\Wc a w c e R (Zx (Zv R) R.length)
theorem GP.fr {w w' a T rts R lo S}(h:GP w a T rts R lo)(b:Fr S w w')(c:∀k,S k->k<a:=by simp):GP w' a T rts R lo:=by
 obtain⟨q,r,f,l,m,g,n⟩:=h
 have d:∀{k:Nat},a<=k->¬S k:=fun e s=>by have:=c _ s;omega
 refine⟨q,r,f,(b.cell (p:=⟨T,0,I⟩) (bL w _ l) (d f)).trans l,(b.cell (p:=⟨T,1,I⟩) (bL w _ m) (d f)).trans m,g,?_⟩
 cases lo with
 |true=>
  obtain⟨i,t,u,v,j,o,x⟩:=n;exact⟨b.whole i (d g),t,u,v,j.fr b (fun k e=>by have:=c k e;omega) (d o),o,x⟩
 |false=>
  obtain⟨y,z,A,i,j⟩:=n;exact⟨y,z,A,i.fr b (fun k e=>nL (c k e) g),j.fr b c⟩
def vY (c:Nat->Nat)(w:O)(a:Nat)(w0:O):Prop:=Fr (fun k=>k<a) w0 w/\∀k,a<=k->k<w0.heap.size->c k=0
theorem vY.keep {c f w w' w0 a S}(h:vY c w a w0)(i:Fr S w w')(j:Wz w c f)(l:∀k,S k->c k≠0):vY f w' a w0:=by
 refine⟨h.1.monoNew i fun k b=>?_,fun k b g=>(j k (nL g h.1.size)).trans (h.2 k b g)⟩;rcases z0 k a with d|d
 ·exact z9 d
 rcases z0 k w0.heap.size with e|e
 ·exact absurd (h.2 k d e) (l k b)
 exact x8 e
structure wI (rts:List Zf)(R:List Ze):Prop where
 bk:Yy rts R
 ar:∀r,r∈R->Tg r
 im:yq rts R
def LY (lo:Bool)(R:List Ze):List Ze:=match lo with
 |true=>[]
 |false=>R
def vZ (c:Nat->Nat)(w:O)(t:Nat)(a:TypeId)(s:Nat)(v:y5)(n:Nat)(d:List y5):Prop:=Cl c v t/\∃b,w.ownsRow b a s v n d
theorem vZ.keep {c a w w' t n s d v e S}(h:vZ c w t d s v n e)(f:Fr S w w')(g:Wz w c a)(i:∀k,S k->c k≠t):vZ a w' t d s v n e:=by
 obtain⟨j,b,l⟩:=h;obtain⟨m,o⟩:=XV l j f g i;exact⟨o,b,m⟩
def Uw (R:List Ze):List WF:=(TZ R).map fun o=>o.2.2
def LZ (R:List Ze):List y5:=(x7 R.length).map fun k=>Value.bool (!RE R k)
def K6 (c:Nat->Nat)(w:O)(R:List Ze)(d:Bool)(b a:y5):Prop:=
 (if d then vZ c w 10 35 4 b (Uw R).length (XU (Uw R))else b=V I 0 0)/\(a=V I 0 0\/∃D,a=V (J ⟨D,0,I⟩) R.length R.length/\vZ c w 11 4 1 a R.length (LZ R))
theorem K6.keep {c g w w' R a b d S}(h:K6 c w R a b d)(i:Fr S w w')(j:Wz w c g)(l:∀k,S k->c k≠10/\c k≠11):K6 g w' R a b d:=by
 obtain⟨m,n⟩:=h;refine⟨?_,n.imp id fun⟨D,e,h⟩=>⟨D,e,h.keep i j fun k f=>(l k f).2⟩⟩
 cases a with
 |false=>exact m
 |true=>exact vZ.keep m i j fun k f=>(l k f).1
def K7 (c:Nat->Nat)(w:O)(X:Nat):Prop:=
 ∃w0 a q g b T rts R lo d e f,(∃body,X9 w0 a q body rts R)/\GP g b T rts R lo/\wI rts R/\vY c w a w0/\vY c w b g/\c X=9/\
  w.heap[X]?=J (N #[Z (J ⟨T,0,I⟩),Z (J ⟨q,0,I⟩),y1 lo,y1 d,e,f] 97)/\K6 c w (LY lo R) d e f
theorem K7.cx {c w X}(h:K7 c w X):c X=9:=by
 obtain⟨_,_,_,_,_,_,_,_,_,_,_,_,_,_,_,_,_,h,_⟩:=h;exact h
theorem K7.keep {c m w w' X S}(h:K7 c w X)(j:Fr S w w')(l:Wz w c m)(f:∀k,S k->c k≠0/\c k≠10/\c k≠11/\k≠X):K7 m w' X:=by
 obtain⟨w0,a,q,o,b,T,rts,R,lo,d,g,i,p,r,s,t,u,v,n,x⟩:=h;exact⟨w0,a,q,o,b,T,rts,R,lo,d,g,i,p,r,s,t.keep j l fun k e=>(f k e).1,u.keep j l fun k e=>(f k e).1,(l X (iA.1 n).1).trans v,j.whole n fun y=>(f X y).2.2.2 rfl,x.keep j l fun k e=>⟨(f k e).2.1,(f k e).2.2.1⟩⟩
structure RF (c:Nat->Nat)(w:O)(L:Nat)(v nv ov mv kv:y5)(cnt:Nat)(xs:List Nat)(es fs:List Ie):Prop where
 bx:w.heap[L]?=J (G2 v nv ov mv kv cnt)
 bc:c L=1
 tv:w.ownsRow (L+1) 93 1 v xs.length (xs.map fun X=>y2 (J ⟨X,0,I⟩))
 tc:Cl c v 2
 few:xs.length<=20
 tb:∀X,X∈xs->K7 c w X
 n:LQ c w L 3 4 7 28 9 1 nv mv es []
 o:LQ c w L 5 6 8 41 44 6 ov kv fs []
theorem RF.keep {c e w w' L v f g i j a k es l}(h:RF c w L v f g i j a k es l)(b:F0 w w')(d:Wz w c e):RF e w' L v f g i j a k es l:=by
 obtain⟨m,p⟩:=XV h.tv h.tc b d (by simp);exact⟨b.whole h.bx,(d L (iA.1 h.bx).1).trans h.bc,m,p,h.few,fun X q=>(h.tb X q).keep b d (by simp),h.n.keep b d (by simp),h.o.keep b d (by simp)⟩
theorem K8 (w L v q r u x a)(h:w.heap[L]?=J (G2 v q r u x a))(S:a<=4611686018427387904):
  H U 136 #[Z (J ⟨L,0,I⟩)] w fun e w'=>(∃s:ByteArray,e=K (E s))/\w'.heap[L]?=J (G2 v q r u x (a+1))/\Fr (fun k=>k=L) w w':=by
 have T:=Zc h 6;have X:=bF h 6
 have A:Hid ((w.setCell ⟨L,6,I⟩ (z8 .i64 ((a:Int)+1))).heap[L]?=J (G2 v q r u x (a+1))):=by
  have e:=heap_setCell_same w L 6 _ _ (z8 .i64 ((a:Int)+1)) h
  show _=_
  simpa[G2]using e
 have B:Hid (Fr (fun k=>k=L) w (w.setCell ⟨L,6,I⟩ (z8 .i64 ((a:Int)+1)))):=(Fr.refl (fun k=>k=L) w).setCell (p:=⟨L,6,I⟩) (z9 rfl) _
 have C:(a:Int)<=4611686018427387904:=by omega
 clear h;go_enter Tryz.func136,Tryz.ntmps136;go_wp2_with fail;generalize w.setCell _ _=W at*
 go_loopg [3,4,5] 9 (fun m t n i wr=>∃k s c,k<=9/\m=9-k/\t=E s/\s.size<=1+k/\n=z8 .i64 (c:Nat)/\c<=4611686018427387905/\i=z8 .i64 (k:Nat)/\Hid (F0 W wr))
 case atStart=>exact⟨0,⟨#[35]⟩,a+1,by omega,rfl,rfl,by decide,by simp,by omega,rfl,Zt⟩
 obtain⟨k,s,c,Y,rfl,rfl,hs,rfl,D,rfl,b⟩:=hrel;by_cases F:k<9
 ·have y:(k:Int)<9:=by omega
  obtain⟨m,G⟩:∃m,c % 16=m:=⟨_,rfl⟩
  have f:m<16:=by omega
  have M:(c:Int).tmod 16=(m:Int):=by rw[Int.tmod_eq_emod_of_nonneg (by omega)];omega
  obtain⟨d,g⟩:∃d:UInt8,d=UInt8.ofNat (97+m):=⟨_,rfl⟩
  have l:(d.toNat:Int)=(97+(m:Int)):=by rw[g,UInt8.toNat_ofNat'];omega
  have O:=Hl m f;have z:=Za (b.o.alloc (N #[z8 .u8 (97+(m:Int))] 5))
  have Q:(convert 50 9 (V (J ⟨wr.heap.size,0,I⟩) 1 1)).run U (wr.alloc (N #[z8 .u8 (97+(m:Int))] 5))=.ok (E ⟨#[d]⟩) (wr.alloc (N #[z8 .u8 (97+(m:Int))] 5)):=by
   have e:=run_convert_bytes_back (P:=U) (wr.alloc (N #[z8 .u8 (97+(m:Int))] 5)) 50 9 5 ⟨wr.heap.size,0,I⟩ 1 [d] Tryz.underlying50 Tryz.underlying5 Tryz.underlying9 (by
    intro j R
    have:j=0:=by simpa using R
    subst this;rw[Yd]
    exact bC (heap_alloc_new wr _) 0 _ (by simp[l]))
   simpa using e
  clear G g l;go_wp2_with fail;go_roundg (9-(k+1))
  case measure=>omega
  exact⟨k+1,s++⟨#[d]⟩,c/16,by omega,rfl,rfl,by rw[ByteArray.size_append];show s.size+1<=_;omega,by congr 1,by omega,by go_num,z⟩
 have y:¬(k:Int)<9:=by omega
 go_wp2_with fail;go_ret;exact⟨⟨s,rfl⟩,b.o.whole A.o,B.o.trans (b.o.mono)⟩
theorem LQ.keepL {c l w w' L tn f m o p s q r es b S}(h:LQ c w L tn f m o p s q r es b)(i:Fr S w w')(j:Wz w c l)(t:∀k,S k->c k≠tn/\c k≠f)(y:∀e,e∈es++b->∀k,k<e.n->∀g,e.a=J ⟨g,0,I⟩->¬S g):LQ l w' L tn f m o p s q r es b:=by
 obtain⟨z,A⟩:=XV h.nm h.nc i j fun k d=>(t k d).1
 obtain⟨B,C⟩:=XV h.ma h.mc i j fun k d=>(t k d).2
 refine⟨z,A,B,C,fun e u k d=>?_⟩;obtain⟨g,v,D,E,x,F⟩:=h.el e u k d;exact⟨g,v,(j g (iA.1 x).1).trans D,E,i.whole x (y e u k d g v),F⟩
theorem Wz.refl (w c):Wz w c c:=fun _ _=>rfl
structure GQ (tn tm tl:Nat)(tR tE:TypeId)(s:Nat)(B:y5->y5->Obj)(c0:Nat->Nat)(w0:O)(L:Nat)(x:ByteArray)(c:Nat->Nat)(wr:O)(nv mv lv:y5)(n:Nat)(es pend:List Ie):Prop where
 ag:Wz w0 c0 c
 sh:LQ c wr L tn tm tl tR tE s nv mv es pend
 ls:yF c wr L tl tE s lv n x (es++pend)
 fq:SK [1,tn,tm,tl] c0 w0 wr
 bx:wr.heap[L]?=J (B nv mv)
 bc:c L=1
theorem Tx {w L}(u i):Fr (fun k=>k=L) w (w.setCell ⟨L,i,I⟩ u):=(Fr.refl (fun k=>k=L) w).setCell (p:=⟨L,i,I⟩) (z9 rfl) _
theorem GQ.box {tn e b o g s B h w0 L x c wr j l p n i u es a}(q:Wz w0 h c)(t:LQ c wr L tn e b o g s j l es a)(v:yF c wr L b g s p n x (es++a))(y:SK [1,tn,e,b] h w0 wr)(f:c L=1)(r:1≠tn/\1≠e/\1≠b)(z:(wr.setCell ⟨L,i,I⟩ u).heap[L]?=J (B j l)):
  GQ tn e b o g s B h w0 L x c (wr.setCell ⟨L,i,I⟩ u) j l p n es a:=by
 have m:=Tx (w:=wr) (L:=L) u i;exact⟨q,t.keep m (Wz.refl _ _) (fun k d=>by subst d;rw[f];exact r),v.keep m (Wz.refl _ _) (fun k d=>by subst d;rw[f];exact r.2.2),y.cls q m (fun k d=>by subst d;simp[f]),z,f⟩
theorem GQ.s1 {tn f g p y s B z w0 L x c w w2 j q n i es l cap g2 d o}(h:GQ tn f g p y s B z w0 L x c w j q (V l n cap) n es [])(m:tn≠f/\tn≠g/\1≠tn/\1≠f/\1≠g)(G:∀(W:O) a b u,W.heap[L]?=J (B a b)->(W.setCell ⟨L,i,I⟩ u).heap[L]?=J (B u b))(H:(w.alloc o).grownBy w2 j.ownBlock)(K:w2.ownsRow (L+1) p 1 (V (J ⟨g2,0,I⟩) (es.length+1) d) (es.length+1) (es.map Ie.val++[V l n cap]))(r:j.ownBlock=J g2\/w.heap.size<=g2):
  w2.heap[L]?=J (B j q)/\∃t,GQ tn f g p y s B z w0 L x t (w2.setCell ⟨L,i,I⟩ (V (J ⟨g2,0,I⟩) (es.length+1) d)) (V (J ⟨g2,0,I⟩) (es.length+1) d) q (V l n cap) n es [⟨l,n,cap,x⟩]:=by
 have A:=h.ls;rw[C]at A;obtain⟨t,D,M,v,E⟩:=h.sh.step1 A ⟨m.1,m.2.1⟩ H K r;have F:=E.whole h.bx (fun e=>m.2.2.1 (h.bc.symm.trans e));exact⟨F,t,GQ.box (h.ag.trans D h.fq.size) M v (h.fq.cls h.ag E fun k N=>by simp[N]) ((D L (Array.getElem?_eq_some_iff.1 h.bx).1).trans h.bc) m.2.2 (G _ _ _ _ F)⟩
theorem GQ.s2 {tn f g y z s B A w0 L x c w w2 p j D n i es q g2 d o}(h:GQ tn f g y z s B A w0 L x c w p j D n es [q])(K:q.m=x)(l:f≠tn/\f≠g/\1≠tn/\1≠f/\1≠g)(M:∀(W:O) a b u,W.heap[L]?=J (B a b)->(W.setCell ⟨L,i,I⟩ u).heap[L]?=J (B a u))(N:(w.alloc o).grownBy w2 j.ownBlock)(P:w2.ownsRow (L+1) 9 1 (V (J ⟨g2,0,I⟩) (es.length+1) d) (es.length+1) ((es.map fun e=>x2 e.m)++[E x]))(r:j.ownBlock=J g2\/w.heap.size<=g2):
  w2.heap[L]?=J (B p j)/\∃t,GQ tn f g y z s B A w0 L x t (w2.setCell ⟨L,i,I⟩ (V (J ⟨g2,0,I⟩) (es.length+1) d)) p (V (J ⟨g2,0,I⟩) (es.length+1) d) D n (es++[q]) []:=by
 obtain⟨t,F,Q,v,G⟩:=h.sh.step2 h.ls K ⟨l.1,l.2.1⟩ N P r;have H:=G.whole h.bx (fun e=>l.2.2.2.1 (h.bc.symm.trans e));exact⟨H,t,GQ.box (h.ag.trans F h.fq.size) Q (by rw[C];exact v) (h.fq.cls h.ag G fun k R=>by simp[R]) ((F L (Array.getElem?_eq_some_iff.1 h.bx).1).trans h.bc) l.2.2 (M _ _ _ _ H)⟩
theorem GQ.s3 {tn f b p d s B q w0 L x c w w2 r t n es g cap g2 a i}(h:GQ tn f b p d s B q w0 L x c w r t (V g n cap) n es [])(l:b≠tn/\b≠f/\1≠b)(A:(G3 s x).length=s)(D:w.ownsRow (L+1) d s (V g n cap) n i)(E:∀k j v,k<n->(G3 s x)[j]?=J v->i[k*s+j]?=J v)(F:w2.ownsRow (L+1) d s (V (J ⟨g2,0,I⟩) (n+1) a) (n+1) (i++G3 s x))(m:(g=J ⟨g2,0,I⟩/\Fr (fun k=>k=g2) w w2)\/(w.heap.size<=g2/\F0 w w2)):
  ∃o,GQ tn f b p d s B q w0 L x o w2 r t (V (J ⟨g2,0,I⟩) (n+1) a) (n+1) es []:=by
 obtain⟨_,_,_,G,u⟩:=h.ls;rw[C]at u;obtain⟨o,y,H,K,z⟩:=h.sh.step3 D E G u ⟨l.1,l.2.1⟩ A F m;exact⟨o,h.ag.trans y h.fq.size,H,by rw[C];exact K,h.fq.cls h.ag z fun k M=>by simp[M],z.whole h.bx (fun e=>l.2.2 (h.bc.symm.trans e)),(y L (Array.getElem?_eq_some_iff.1 h.bx).1).trans h.bc⟩
theorem TH:(U.info? 9).map (fun i=>(i.zero,i.size,i.bytes))=J (J (E ByteArray.empty),1,16):=by kernel_rfl
theorem Lj:(U.info? 28).map (fun i=>(i.zero,i.size,i.bytes))=J (J (V I 0 0),1,24):=by kernel_rfl
theorem RF.taken {c f w w' L v m n o p g d es r Q}(h:RF c w L v m n o p g d es r)(i:SK Q c w w')(j:Wz w c f)(a:2∉Q/\0∉Q/\9∉Q/\10∉Q/\11∉Q):
  (w'.ownsRow (L+1) 93 1 v d.length (d.map fun X=>y2 (J ⟨X,0,I⟩))/\Cl f v 2)/\∀X,X∈d->K7 f w' X:=by
 have q:∀{k t:Nat},c k∈Q->t∉Q->c k≠t:=fun s a e=>a (e▸s)
 refine⟨XV h.tv h.tc i j fun k b=>q b a.1,fun X l=>(h.tb X l).keep i j fun k b=>⟨q b a.2.1,q b a.2.2.2.1,q b a.2.2.2.2,fun e=>q b a.2.2.1 (e▸(h.tb X l).cx)⟩⟩
def uG (d:O)(L:Nat)(a:Option Addr)(n b:Nat)(x:ByteArray)(i:Nat)(wr:O):Prop:=
 ∃c,wr.ownsRow (L+1) 9 1 (V a n b) n c/\(∀k,k<i->c[k]?=J (E x))/\Fr (fun k=>(j0 a n b).ownBlock=J k) d wr
theorem uG.step {b wr L A n c x i}(h:uG b L (J ⟨A,0,I⟩) n c x i wr)(hi:i<n):uG b L (J ⟨A,0,I⟩) n c x (i+1) (wr.setCell ⟨A,i,I⟩ (E x))/\(∃u,wr.cell? ⟨A,i,I⟩=J u)/\wr.frozen? ⟨A,i,I⟩=false:=by
 obtain⟨j,a,d,f⟩:=h;have l:=a.1;obtain⟨g,_⟩:=a.stored i (E x);refine⟨⟨_,g,fun k m=>?_,f.setCell (p:=⟨A,i,I⟩) (z9 rfl) _⟩,?_,a.frozenAt i⟩
 ·by_cases e:k=i
  ·subst e
   rw[List.getElem?_set_self (by omega)]
  rw[List.getElem?_set_ne (by omega)]
  exact d k (by omega)
 rw[a.cellAt i (by omega),gE (by omega)]
 exact⟨_,rfl⟩
def O0 (w:O)(c:Nat->Nat)(w':O)(L:Nat)(v d e f g:y5)(a:Nat)(h:List Nat)(es i:List Ie):Prop:=∃b,Wz w c b/\RF b w' L v d e f g a h es i
theorem Lk (c w L v nv ov mv X r xs es fs la n c0 ys)(h:RF c w L v nv ov mv X r xs es fs)(hl:w.ownsRow (L+1) 9 1 (V la n c0) n ys)(k0:Cl c (V la n c0) 7)(l0:∀e,e∈es->∀k,k<e.n->∀g,e.a=J ⟨g,0,I⟩->(j0 la n c0).ownBlock≠J g)(hc:r<=4611686018427387904)(hE:(es.length+4)*24<=140737488355328)(hN:(n+4)*16<=140737488355328):
  H U 84 #[Z (J ⟨L,0,I⟩),V la n c0] w fun e w'=>e=K (.tuple #[])/\∃s y es',O0 w c w' L v s ov y X (r+1) xs es' fs/\es'.length=es.length+4/\(∀e,e∈es'->e∈es\/e.n<=8796093022208)/\SK [1,3,4,7] c w w':=by
 obtain⟨ii,A0,B0,C0,D0⟩:=info_parts Lj;obtain⟨ij,B,b0,d0,e0⟩:=info_parts TH;have HS:=Za h;have m0:=Za (K8 w L v nv ov mv X r h.bx hc);have HL:=Za hl;have R:=Za k0;have n0:=Za l0;have HE:=Za hE
 have V0:n<=8796093022204:=by omega
 have E0:=Za hN;clear h hl k0 l0 hc hE hN;go_enter Tryz.func84,Tryz.ntmps84;go_wp2_with fail;refine m0.o.mono ?_;rintro e w1 ⟨⟨x,rfl⟩,Y,f0⟩;have o0:=Za Y;have p0:=Za f0;have q0:Hid (uG w1 L la n c0 x 0 w1):=⟨ys,oF HL.o f0 (fun k l=>by omega),fun k l=>by omega,Zt⟩;clear Y f0 m0;go_wp2_with fail
 go_loopg [5] n (fun m X wr=>∃i,i<=n/\m=n-i/\X=z8 .i64 (i:Nat)/\Hid (uG w1 L la n c0 x i wr))
 case atStart=>exact⟨0,x6 _,rfl,rfl,q0⟩
 obtain⟨i,hi,rfl,rfl,HM⟩:=hrel;by_cases G0:i<n
 ·have H0:(i:Int)<(n:Int):=by omega
  obtain⟨_,h1,_⟩:=HM.o;obtain⟨A,_,e,_⟩:=h1.form (by omega);injection e with e _ e3;subst e e3;obtain⟨r0,⟨u,hu⟩,W0⟩:=HM.o.step G0;have I0:=Za r0;clear r0 h1;go_wp2_with fail;go_roundg (n-(i+1))
  case measure=>omega
  exact⟨i+1,by omega,rfl,by go_num,I0⟩
 have H0:¬(i:Int)<(n:Int):=by omega
 obtain rfl:i=n:=by omega
 have J0:Hid (GQ 3 4 7 28 9 1 (fun a b=>G2 v a ov b X (r+1)) c w L x c wr nv mv (V la i c0) i es []):=by
  obtain⟨zs,z1,z2,z3⟩:=HM.o;have D:=HS.o;have hF:=(p0.o.mono fun k l=>z9 l).trans (z3.mono fun k l=>x8 l);refine⟨Wz.refl _ _,D.n.keepL hF (Wz.refl _ _) (fun k l=>?_) (fun e he k l g eg=>?_),⟨zs,z1,fun k j u l hj=>?_,R.o,fun e he k l g e1 e2=>?_⟩,hF.mono fun k l=>?_,z3.whole o0.o fun e=>?_,D.bc⟩
  ·rcases l with e|e
   ·rw[e,D.bc];decide
   rw[R.o k e];decide
  ·rintro(e|e)
   ·obtain⟨g',k1,k2,_⟩:=D.n.el _ he k l
    rw[k1]at eg;injection eg with eg;injection eg with eg;rw[eg,e,D.bc]at k2
    cases k2
   exact n0.o _ (by simpa using he) k l g eg e
  ·have B:=(iG.1 hj).1
   obtain rfl:j=0:=by simpa[G3]using B
   have:x2 x=u:=by simpa[G3]using hj
   rw[<-this,Nat.mul_one];exact z2 k l
  ·exact absurd e2 (n0.o e (by simpa using he) k l g e1)
  ·rcases l with e|e
   ·rw[e,D.bc];decide
   rw[R.o k e];decide
  have:=R.o L e
  rw[D.bc]at this
  cases this
 clear HM q0 p0 o0;go_wp2_with fail
 go_loopg [1,6] 4 (fun m lv jv wr=>∃j c' es' s y,j<=4/\m=4-j/\jv=z8 .i64 (j:Nat)/\Hid (GQ 3 4 7 28 9 1 (fun a b=>G2 v a ov b X (r+1)) c w L x c' wr s y lv (i+j) es' [])/\Hid (es'.length=es.length+j/\∀e,e∈es'->e∈es\/e.n<=8796093022208))
 case atStart=>exact⟨0,c,es,nv,mv,by omega,rfl,rfl,J0,⟨rfl,fun e he=>z9 he⟩⟩
 obtain⟨j,c',es',s,y,hj,rfl,rfl,HT,F⟩:=hrel;by_cases X0:j<4
 ·have K0:(j:Int)<4:=by omega
  obtain⟨_,N,_⟩:=HT.o.ls;obtain⟨lb,cap,el⟩:=oL N;subst el;have S:=HT.o.sh.nm;rw[C]at S;obtain⟨na,nc,en⟩:=oL S;subst en;obtain⟨ma,mc,em⟩:=oL HT.o.sh.ma;subst em;have L0:=Za S
  have M0:(es'.length+1)*24<=140737488355328:=by have:=HE.o;have:=F.o.1;omega
  obtain⟨q,hq⟩:∃q,es'.length=q:=⟨_,rfl⟩;have HQ:=Za hq
  have c2:wr.cell? ⟨L,2,I⟩=J (V na q nc):=by rw[<-hq];exact Zc HT.o.bx 2
  have Y0:L+1<=wr.heap.size:=(iA.1 HT.o.bx).1
  have Z0:q<=5864062014805:=by omega
  rw[hq]at M0;clear N S hq
  go_wp2_with (at_builtin;refine wpList_append_lies _ rfl (.tmp 27) (.tmp 29) 55 rfl (L+1) 28 ii _ 1 24 Tryz.underlying55 A0 B0 C0 D0 rfl (by decide) (V na q nc) q (es'.map Ie.val) rfl ?h1 ⟨wr.heap.size,0,I⟩ 1 1 [V lb (i+j) cap] rfl rfl ?h2 ?h3 (by decide) ?h4 ?h5 ?h6 _ rfl ?h7)
  case h1=>rw[<-HQ.o];exact L0.o.alloc _
  case h2=>exact M (aN wr _)
  case h3=>simp[z5]
  case h4=>unfold maxLen;omega
  case h5=>omega
  case h6=>simp;omega
  intro g2 R0 w2 d f p _;rw[<-HQ.o]at d f p;obtain⟨g0,c1,s0⟩:=HT.o.s1 (i:=2) (by decide) (fun W a b u hW=>by have e:=heap_setCell_same W L 2 _ _ u hW;simpa[G2]using e) f d (p.imp id (by omega));have d2:=Zc g0 2;have N0:=bF g0 2;rw[HQ.o]at d2;have O:=Za s0;rw[HQ.o]at O;clear s0 d f p c2 g0;go_upto_region 9 with fail;generalize w2.setCell _ _=W3 at*;have c4:=Zc O.o.bx 4;have a1:L+1<=W3.heap.size:=(iA.1 O.o.bx).1;clear d2 N0
  go_wp2_with (at_builtin;refine wpList_append_lies _ rfl (.tmp 37) (.tmp 39) 28 rfl (L+1) 9 ij _ 1 16 Tryz.underlying28 B b0 d0 e0 rfl (by decide) (V ma q mc) q (es'.map fun e=>x2 e.m) rfl ?k1 ⟨W3.heap.size,0,I⟩ 1 1 [E x] rfl rfl ?k2 ?k3 (by decide) ?k4 ?k5 ?k6 _ rfl ?k7)
  case k1=>have e:=O.o.sh.ma;rw[HQ.o]at e;exact e.alloc _
  case k2=>exact M (aN W3 _)
  case k3=>simp[z5]
  case k4=>unfold maxLen;omega
  case k5=>omega
  case k6=>simp;omega
  intro g5 S0 w5 d f p _;rw[<-HQ.o]at d;obtain⟨h0,c5,t0⟩:=O.o.s2 (i:=4) rfl (by decide) (fun W a b u hW=>by have e:=heap_setCell_same W L 4 _ _ u hW;simpa[G2]using e) f d (p.imp id (by omega));have d4:=Zc h0 4;have P0:=bF h0 4;have P:=Za t0;rw[HQ.o]at P;clear t0 d f p c4 h0;go_upto_region 10 with fail;generalize w5.setCell _ _=W6 at*;have b1:L+1<=W6.heap.size:=(iA.1 P.o.bx).1;obtain⟨v0,N,w0,_⟩:=P.o.ls;have z:=Za (And.intro N w0)
  have T0:(i+j+1)*16<=140737488355328:=by have:=E0.o;omega
  have x0:Hid ((es'++[(⟨lb,i+j,cap,x⟩:Ie)]).length=es.length+(j+1)/\∀e,e∈es'++[(⟨lb,i+j,cap,x⟩:Ie)]->e∈es\/e.n<=8796093022208):=⟨by rw[x1,F.o.1];simp;omega,fun e he=>(G.1 he).elim (F.o.2 e) (fun h=>by rw[x3.1 h];exact x8 (by show i+j<=_;omega))⟩;clear d4 P0 N w0;rcases z.o.1.2.symm with⟨g,_,_,el,_⟩|⟨el,hz⟩
  ·injection el with el _ Q0
   subst el Q0
   go_wp2_with (at_builtin;refine Ts rfl (.tmp 43) (.tmp 45) 28 rfl (L+1) 9 ij _ 1 16 Tryz.underlying28 B b0 d0 e0 rfl g (i+j) cap v0 rfl ?q1 ⟨W6.heap.size,0,I⟩ 1 1 [E x] rfl rfl ?q2 ?q3 ?q4 ?q5 ?q6 _ rfl ?q7)
   case q1=>exact z.o.1.alloc _
   try case q2=>exact M (aN W6 _)
   case q3=>simp[z5]
   case q4=>unfold maxLen;omega
   try case q5=>omega
   case q6=>first|omega|(simp;omega)
   intro g8 y0 w8 d p
   obtain⟨c8,Q⟩:=P.o.s3 (by decide) rfl z.o.1 z.o.2 d (by
    rcases p with⟨e,hg⟩|⟨e,hg⟩
    ·exact z9 ⟨by rw[e],(Zt.alloc _).grown hg fun k l=>z9 (by injection l with l;omega)⟩
    exact x8 ⟨by omega,(Zt.alloc _).grown hg fun k l=>by cases l⟩)
   have i0:=Za Q;clear Q d p;go_wp2_with fail;go_roundg (4-(j+1))
   case measure=>omega
   exact⟨j+1,c8,_,_,_,by omega,rfl,by go_num,i0,x0⟩
  injection el with e1 e2 e3
  subst e1 e3;clear e2 hz
  go_wp2_with (at_builtin;refine wpList_append_lies _ rfl (.tmp 43) (.tmp 45) 28 rfl (L+1) 9 ij _ 1 16 Tryz.underlying28 B b0 d0 e0 rfl (by decide) (V I (i+j) 0) (i+j) v0 rfl ?p1 ⟨W6.heap.size,0,I⟩ 1 1 [E x] rfl rfl ?p2 ?p3 (by decide) ?p4 ?p5 ?p6 _ rfl ?p7)
  case p1=>exact z.o.1.alloc _
  case p2=>exact M (aN W6 _)
  case p3=>simp[z5]
  case p4=>unfold maxLen;omega
  case p5=>omega
  case p6=>simp;omega
  intro g8 y0 w8 d f p _
  have a0:((I:Option Addr)=J ⟨g8,0,I⟩/\Fr (fun k=>k=g8) W6 w8)\/(W6.heap.size<=g8/\F0 W6 w8):=by
   rcases p with e|e
   ·cases e
   exact x8 ⟨by omega,(Zt.alloc _).grown f fun k l=>by cases l⟩
  obtain⟨c8,Q⟩:=P.o.s3 (w2:=w8) (by decide) rfl z.o.1 z.o.2 d a0;have i0:=Za Q;clear Q d p f a0;go_wp2_with fail;go_roundg (4-(j+1))
  case measure=>omega
  exact⟨j+1,c8,_,_,_,by omega,rfl,by go_num,i0,x0⟩
 have K0:¬(j:Int)<4:=by omega
 obtain rfl:j=4:=by omega
 have z0:Hid (∃s y es',O0 w c wr L v s ov y X (r+1) xs es' fs/\es'.length=es.length+4/\(∀e,e∈es'->e∈es\/e.n<=8796093022208)/\SK [1,3,4,7] c w wr):=by
  have T:=HT.o;have D:=HS.o;obtain⟨⟨t1,t2⟩,t3⟩:=D.taken T.fq T.ag (by decide)
  have q:∀{k t:Nat},c k∈[1,3,4,7]->t∉[1,3,4,7]->c k≠t:=fun h1 h2 e=>h2 (e▸h1)
  exact⟨s,y,es',⟨c',T.ag,T.bx,T.bc,t1,t2,D.few,t3,T.sh,D.o.keep T.fq T.ag fun k l=>⟨q l (by decide),q l (by decide),q l (by decide)⟩⟩,F.o.1,F.o.2,T.fq⟩
 go_wp2_with fail
 go_end0
 exact⟨rfl,z0.o⟩
theorem K7.kq {c d w w' X Q}(h:K7 c w X)(f:SK Q c w w')(g:Wz w c d)(a:0∉Q/\9∉Q/\10∉Q/\11∉Q):K7 d w' X:=by
 have q:∀{k t:Nat},c k∈Q->t∉Q->c k≠t:=fun i a e=>a (e▸i)
 exact h.keep f g fun k b=>⟨q b a.1,q b a.2.2.1,q b a.2.2.2,fun e=>q b a.2.1 (e▸h.cx)⟩
theorem RF.more {c w d L X g cap v m p r s f a es x o}(h:RF c w L v m p r s f a es x)(A:K7 c w X)(B:(w.alloc o).grownBy d v.ownBlock)(C:d.ownsRow (L+1) 93 1 (V (J ⟨g,0,I⟩) (a.length+1) cap) (a.length+1) ((a.map fun X=>y2 (J ⟨X,0,I⟩))++[Z (J ⟨X,0,I⟩)]))(u:v.ownBlock=J g\/w.heap.size<=g)(D:a.length<20):
  d.heap[L]?=J (G2 v m p r s f)/\∃j,Wz w c j/\RF j (d.setCell ⟨L,0,I⟩ (V (J ⟨g,0,I⟩) (a.length+1) cap)) L (V (J ⟨g,0,I⟩) (a.length+1) cap) m p r s f (a++[X]) es x/\SK [1,2] c w (d.setCell ⟨L,0,I⟩ (V (J ⟨g,0,I⟩) (a.length+1) cap)):=by
 obtain⟨j,i,E,y⟩:=Po h.tc B u;have z:=y.whole h.bx (fun e=>by rw[h.bc]at e;cases e);have l:SK [1,2] c w (d.setCell ⟨L,0,I⟩ (V (J ⟨g,0,I⟩) (a.length+1) cap)):=(y.mono fun k b=>by simp[b]).trans ((Tx _ 0).mono fun k b=>by subst b;simp[h.bc])
 have q:∀{k t:Nat},c k∈[1,2]->t∉[1,2]->c k≠t:=fun F H e=>H (e▸F)
 refine⟨z,j,i,⟨?_,(i L (iA.1 h.bx).1).trans h.bc,?_,P1 E,by simp;omega,fun Y K=>?_,h.n.keep l i fun k b=>⟨q b (by decide),q b (by decide),q b (by decide)⟩,h.o.keep l i fun k b=>⟨q b (by decide),q b (by decide),q b (by decide)⟩⟩,l⟩
 ·have e:=heap_setCell_same d L 0 _ _ (V (J ⟨g,0,I⟩) (a.length+1) cap) z
  simpa[G2]using e
 ·rw[lA,y8]
  exact oB C (by simp) _
 exact((G.1 K).elim (h.tb Y) fun e=>x3.1 e▸A).kq l i (by decide)
theorem Qb (c w L v nv ov mv kv u F es fs s)(h:RF c w L v nv ov mv kv u F es fs):
  H U 25 #[Z (J ⟨L,0,I⟩),E s] w fun e w'=>e=K (y1 true)/\(∃v' x,O0 w c w' L v' nv ov mv kv u x es fs)/\SK [1,2] c w w':=by
 have HL:=Za h;obtain⟨ii,hi,e0,f0,g0⟩:=info_parts TW;go_enter Tryz.func25,Tryz.ntmps25;go_wp2_with fail;refine(Hc s w).mono ?_;intro e j G;have y:=Za (xi s j)
 cases z:XG s with
 |error f=>
  rw[z]at y;obtain⟨rfl,d⟩:=(Q8.err z).1 G;have HF:Hid (F0 w j):=Fr.of_below d;obtain⟨f1,f2⟩:=f
  as_aux_lemma=>
  go_wp2_with fail;refine y.o.mono ?_;intro e w2 G;obtain⟨rfl,d⟩:=(VW.err rfl).1 G;have a:=Za (HF.o.trans d);go_wp2;go_ret;exact⟨rfl,⟨v,F,c,Wz.refl _ _,HL.o.keep a.o (Wz.refl _ _)⟩,a.o.mono⟩
 |ok p=>
  rw[z]at y;have h0:=Za (wI.mk (NS z) (zJ z) (yr z));obtain⟨⟨T,O,P,Q,vl,ys,rfl,i0,j0,R,k0,l0,m0⟩,d⟩:=(Q8.ok z).1 G;have HF:Hid (F0 w j):=Fr.of_below d;have g:Hid (w.heap.size<=T/\j.cell? ⟨T,0,I⟩=J (Z (J ⟨O,0,I⟩))/\w.heap.size<=O/\Bk j O Q vl p.1 p.2 ys):=⟨i0,j0,k0,l0⟩;have A:Hid (j.cell? ⟨T,1,I⟩=J (Z (J ⟨P,0,I⟩))/\Wc w.heap.size j P Q p.2 (Zx (Zv p.2) p.2.length)):=⟨R,m0⟩
  as_aux_lemma=>
  go_wp2_with fail;refine y.o.mono ?_;intro e w2 G;obtain⟨⟨q,body,rfl,hq⟩,d⟩:=(VW.ok rfl).1 G;have a:=Za (HF.o.trans d);have HQ:=Za (hq.less HF.o.size);have m:Hid (w2.cell? ⟨T,0,I⟩=J (Z (J ⟨O,0,I⟩))/\Bk w2 O Q vl p.1 p.2 ys):=⟨(d.cell (p:=⟨T,0,I⟩) (bL j _ g.o.2.1)).trans g.o.2.1,g.o.2.2.2.fr d⟩;have r:Hid (w2.cell? ⟨T,1,I⟩=J (Z (J ⟨P,0,I⟩))/\Wc w.heap.size w2 P Q p.2 (Zx (Zv p.2) p.2.length)):=⟨(d.cell (p:=⟨T,1,I⟩) (bL j _ A.o.1)).trans A.o.1,A.o.2.fr d⟩;have b:=Za (HL.o.keep a.o (Wz.refl _ _));obtain⟨va,vc,hv⟩:=oL b.o.tv;subst hv;have c0:=Zc b.o.bx 0;have fz:=bF b.o.bx;obtain⟨n,hn⟩:∃n,F.length=n:=⟨_,rfl⟩;have y:=Za hn;rw[hn]at c0 b
  have t0:n<=20:=by have:=b.o.few;omega
  have n0:=Za ((iA.1 HL.o.bx).1);by_cases o0:n<20
  ·have W:(n:Int)<20:=by omega
   have w0:L+1<=w2.heap.size:=by have:=n0.o;have:=a.o.size;omega
   as_aux_lemma=>
   go_wp2_with (at_builtin;refine wpList_append_lies _ rfl (.tmp 52) (.tmp 57) 53 rfl (L+1) 93 ii _ 1 8 Tryz.underlying53 hi e0 f0 g0 rfl (by decide) (V va n vc) n (F.map fun X=>y2 (J ⟨X,0,I⟩)) rfl ?h1 ⟨w2.heap.size+1,0,I⟩ 1 1 [Z (J ⟨w2.heap.size,0,I⟩)] rfl rfl ?h2 ?h3 (by decide) ?h4 ?h5 ?h6 _ rfl ?h7)
   case h1=>have e:=b.o.tv;rw[y.o]at e;exact(e.alloc _).alloc _
   case h2=>exact M (by have e:=aN (w2.alloc (N #[Z (J ⟨T,0,I⟩),Z (J ⟨q,0,I⟩),y1 false,y1 false,V I 0 0,V I 0 0] 97)) (N #[Z (J ⟨w2.heap.size,0,I⟩)] 93);simpa using e)
   case h3=>simp[z5]
   case h4=>unfold maxLen;omega
   case h5=>omega
   case h6=>simp;omega
   intro g2 t w8 Y B p0 _;generalize C:w2.alloc _=W3 at*;have l:=F2 (S:=fun _=>False) C;have hX:=B1 C
   have D:Wz w c fun k=>if k=w2.heap.size then 9 else if w.heap.size<=k then 0 else c k:=fun k hk=>by
    have:=a.o.size
    dsimp only
    rw[if_neg (by omega),if_neg (by omega)]
   have v0:Wz W3 (fun k=>if k=w2.heap.size then 9 else if w.heap.size<=k then 0 else c k) (fun k=>if k=w2.heap.size then 9 else if w.heap.size<=k then 0 else c k):=Wz.refl _ _;have q0:=HL.o.keep (a.o.trans l) D
   have a0:K7 (fun k=>if k=w2.heap.size then 9 else if w.heap.size<=k then 0 else c k) W3 w2.heap.size:=by
    have hz:vY (fun k=>if k=w2.heap.size then 9 else if w.heap.size<=k then 0 else c k) W3 w.heap.size w2:=⟨l.mono,fun k h1 h2=>by dsimp only;rw[if_neg (by omega),if_pos h1]⟩;exact⟨w2,w.heap.size,q,w2,w.heap.size,T,p.1,p.2,false,false,V I 0 0,V I 0 0,⟨body,HQ.o⟩,⟨O,P,g.o.1,m.o.1,r.o.1,g.o.2.2.1,Q,vl,ys,m.o.2,r.o.2⟩,h0.o,hz,hz,if_pos rfl,hX,rfl,z9 rfl⟩
   have hn:=y.o;subst hn;obtain⟨e1,c',r0,b0,s0⟩:=q0.more a0 B Y (p0.imp id fun h=>by have:=uQ C;first|omega|(rw[h];simp)) o0;have c0:=Zc e1 0;have fz:=bF e1;have d0:Hid ((∃v' x,O0 w c (w8.setCell ⟨L,0,I⟩ (V (J ⟨g2,0,I⟩) (F.length+1) t)) L v' nv ov mv kv u x es fs)/\SK [1,2] c w (w8.setCell ⟨L,0,I⟩ (V (J ⟨g2,0,I⟩) (F.length+1) t))):=⟨⟨_,_,c',D.trans r0 (a.o.trans l).size,b0⟩,SK.cls ((a.o.trans l).mono) D s0 fun i hi=>hi⟩;go_wp2;go_ret;exact⟨rfl,d0.o⟩
  have W:¬(n:Int)<20:=by omega
  as_aux_lemma=>
  go_wp2;go_ret;exact⟨rfl,⟨_,_,c,Wz.refl _ _,b.o⟩,a.o.mono⟩
def BQ (w:O)(T:Nat)(rts:List Zf)(R:List Ze):Prop:=LW w T rts R/\(∃a b c d,w.cell? ⟨T,0,I⟩=J (Z (J ⟨a,0,I⟩))/\Bk w a b c rts R d)/\Yy rts R/\∀r,r∈R->Tg r
theorem BQ.fr {w w' T rts R}(h:BQ w T rts R)(a:F0 w w'):BQ w' T rts R:=by
 obtain⟨c,⟨d,e,f,g,b,i⟩,j⟩:=h;exact⟨c.fr a,⟨d,e,f,g,(a.cell (p:=⟨T,0,I⟩) (bL w _ b)).trans b,i.fr a⟩,j⟩
def L0 (R:List Ze):List ByteArray:=WR R R.length
theorem BR (w T rts R)(h:BQ w T rts R):
  H U 89 #[Z (J ⟨T,0,I⟩)] w fun e w'=>(∃v,e=K v/\w'.ownsRow w.heap.size 9 1 v (L0 R).length (SB (L0 R))/\(L0 R=[]->v=V I 0 0))/\F0 w w':=by
 obtain⟨_,⟨g,q,s,t,u,b⟩,d,i⟩:=h;obtain⟨j,c,e,a⟩:=b.rules;have f:=b.c1;rw[e]at f;have k:=Za (Br w g j c R.length R rts.length f a rfl d.l8 (fun r a=>⟨d.rl r a,i r a⟩));go_enter Tryz.func89,Tryz.ntmps89
 go_wp2_with (go_at_call 140;refine k.o.mono ?_;rintro e x ⟨⟨v,rfl,l⟩,m⟩;have n:=Za l;have p:=Za m)
 go_ret;exact⟨⟨v,rfl,n.o⟩,p.o⟩
def tA (w:O)(a:Option Addr)(l:List xE):Prop:=∀k x,l[k]?=J x->∃g,a=J ⟨g,0,I⟩/\∀j v,(OD x)[j]?=J v->w.cell? ⟨g,k*6+j,I⟩=J v
theorem Ll:∀(l:List xE)(k:Nat)(x:xE),l[k]?=J x->∀(j:Nat)(v:y5),(OD x)[j]?=J v->(XF l)[k*6+j]?=J v
 |[],k,x,h=>by simp at h
 |y::r,0,x,h=>by
  simp at h;subst h;intro j v a;have b:=(iG.1 a).1
  show(OD y++XF r)[0*6+j]?=J v
  rw[List.getElem?_append_left (by omega),Nat.zero_mul,Nat.zero_add];exact a
 |y::r,k+1,x,h=>by
  intro j v a;have l:(OD y).length=6:=rfl
  show(OD y++XF r)[(k+1)*6+j]?=J v
  rw[aR (by omega),l,show(k+1)*6+j-6=k*6+j from by omega];exact Ll r k x (by simpa using h) j v a
theorem yt {w base t v l}(h:w.ownsRow base t 6 v l.length (XF l)):∃a c,v=V a l.length c/\tA w a l:=by
 obtain⟨a,c,e⟩:=oL h;subst e;refine⟨a,c,rfl,fun k x d=>?_⟩;have o:=(iG.1 d).1;obtain⟨g,cap,e,_,_⟩:=h.form (by omega);injection e with i p m;subst i m;refine⟨g,rfl,fun j v n=>?_⟩;have f:=h.cells (g:=g) rfl _ _ (Ll l k x d j v n)
 have b:∀k,(⟨g,0,I⟩:Addr).add k=⟨g,k,I⟩:=fun k=>by unfold Addr.add;split<;>simp_all
 rw[b]at f;exact f
theorem yu {W:O}{base n c j t a l x}(h:W.ownsRow base t 6 (V a n c) n (XF l))(b:l.length=n)(d:l[j]?=J x):∃g,a=J ⟨g,0,I⟩/\∀o v,(OD x)[o]?=J v->W.cell? ⟨g,j*6+o,I⟩=J v:=by
 subst b;obtain⟨i,k,e,f⟩:=yt h;injection e with e _ _;subst e;exact f j x d
theorem L4 (w T rts R)(h:BQ w T rts R)(j:QS w):
  H U 20 #[Z (J ⟨T,0,I⟩)] w fun e w'=>(∃v,e=K v/\w'.ownsRow w.heap.size 44 6 v (TZ R).length (XF (TZ R)))/\F0 w w':=by
 obtain⟨_,⟨k,A,B,C,D,d⟩,i,l⟩:=h;obtain⟨m,c,e,b⟩:=d.rules
 have n:R.length<=c:=by
  have a:=d.lo;rw[e]at a;rcases a.2 with⟨f,p⟩|⟨g,cap,q,f,_,_,p,_⟩
  ·injection f with _ _ s
   omega
  injection f with _ _ s
  omega
 have a:=d.c1;rw[e]at a;have t:=Za (LP w k m c R.length R rts.length a b rfl i.l8 n (fun r b=>⟨i.rl r b,l r b⟩) j);go_enter Tryz.func20,Tryz.ntmps20
 go_wp2_with (go_at_call 39;refine t.o.mono ?_;rintro e E ⟨⟨v,rfl,u⟩,x⟩;have y:=Za u;have z:=Za x)
 go_ret;exact⟨⟨v,rfl,y.o⟩,z.o⟩
def EO (w:O)(T:Nat)(rts:List Zf)(R:List Ze):Bool->Prop
 |true=>LX w T (Ps (Wh rts R))
 |false=>BQ w T rts R
section
variable {w W:O} {a T q:Nat} {rts:List Zf} {R:List Ze} {lo:Bool}
theorem GP.tq (h:GP w a T rts R lo)(c:wI rts R):EO w T rts R lo:=by
 obtain⟨i,j,_,k,l,_,m⟩:=h
 cases lo with
 |true=>
  obtain⟨b,n,d,f,g,_,_⟩:=m;exact⟨⟨i,k,b⟩,j,n,d,f,l,g.1⟩
 |false=>
  obtain⟨q,o,p,b,g⟩:=m;obtain⟨d,f,e⟩:=oL b.ro;subst e;exact⟨⟨a,j,d,f,l,g,oS b.ro (x6 _),c.bk⟩,⟨i,_,o,p,k,b⟩,c.bk,c.ar⟩
theorem EO.fr (h:EO w T rts R lo)(a:F0 w W):EO W T rts R lo:=by
 cases lo<;>exact h.fr a
def GR (rts:List Zf)(R:List Ze):ByteArray:=⟨(WW (XH (Wh rts R))).toArray⟩
theorem wI.load (h:wI rts R):R8 (GR rts R).data.toList=J (Ps (Wh rts R)):=by
 obtain⟨a,b⟩:=Ia h.bk h.ar h.im;exact EB a (by omega)
theorem EO.overlaps (h:EO w T rts R lo)(a:QS w):H U 20 #[Z (J ⟨T,0,I⟩)] w fun e w'=>(∃v,e=K v/\w'.ownsRow w.heap.size 44 6 v (TZ (LY lo R)).length (XF (TZ (LY lo R))))/\F0 w w':=by
 cases lo with
 |true=>exact(Lg w T h.1).mono fun e w' ⟨b,c⟩=>⟨⟨_,b,oZ _ _ _ _⟩,c▸Zt⟩
 |false=>exact L4 w T rts R h a
theorem EO.dead (h:EO w T rts R lo):H U 89 #[Z (J ⟨T,0,I⟩)] w fun e w'=>(∃v,e=K v/\w'.ownsRow w.heap.size 9 1 v (L0 (LY lo R)).length (SB (L0 (LY lo R))))/\F0 w w':=by
 cases lo with
 |true=>exact(EK w T h.1).mono fun e w' ⟨a,b⟩=>⟨⟨_,a,oZ _ _ _ _⟩,b▸Zt⟩
 |false=>exact(BR w T rts R h).mono fun e w' ⟨⟨v,a,b,_⟩,c⟩=>⟨⟨v,a,b⟩,c⟩
theorem EO.text (h:EO w T rts R lo)(a:QS w):H U 17 #[Z (J ⟨T,0,I⟩)] w fun e w'=>e=K (E (ZR (if lo then[]else VI rts R)))/\F0 w w':=by
 cases lo with
 |true=>exact EM w T h.1
 |false=>
  obtain⟨_,⟨b,c,d,f,g,i⟩,j,_⟩:=h;exact CF w T b c d rts R f g i j a
theorem EO.decide (h:EO w T rts R lo)(d:wI rts R)(b c l)(a:Yf w b l)(f:l.length<=maxLen)(p)(g:p.pan.size<=maxLen):
  H U 19 #[Z (J ⟨T,0,I⟩),UL p,V b l.length c] w fun e w'=>e=K (OU (TV rts R p (Vk rts l)))/\F0 w w':=by
 cases lo with
 |true=>exact LX.same h (DP d.load) d.bk b c l a f p g
 |false=>exact LW.decide h.1 b c l a f p g
theorem EO.image (h:EO w T rts R lo)(a:wI rts R)(b:LU w):H U 23 #[Z (J ⟨T,0,I⟩)] w fun e w'=>e=K (E (GR rts R))/\F0 w w':=by
 obtain⟨c,d⟩:=Ia a.bk a.ar a.im
 cases lo with
 |true=>
  have e:=K3 w T _ (LX.ti h) (xN c (DP a.load)) (by rw[K4];omega) b;rw[K4]at e;exact e
 |false=>exact K3 w T _ (LW.ti h.1) c (by omega) b
end
theorem K7.now {c w X}(h:K7 c w X):∃T q rts R lo e i j,wI rts R/\w.heap[X]?=J (N #[Z (J ⟨T,0,I⟩),Z (J ⟨q,0,I⟩),y1 lo,y1 e,i,j] 97)/\c X=9/\K6 c w (LY lo R) e i j/\(∀W,Fr (fun k=>k=X) w W->EO W T rts R lo/\∃a body,X9 W a q body rts R)/\
  (∀W l d f g,Fr (fun k=>k=X) w W->Wz w c l->W.heap[X]?=J (N #[Z (J ⟨T,0,I⟩),Z (J ⟨q,0,I⟩),y1 lo,y1 d,f,g] 97)->K6 l W (LY lo R) d f g->K7 l W X)/\
  ∀W l p b Y r,F0 w W->Wz w c l->GP p b r rts R true->vY l W b p->l Y=9->W.heap[Y]?=J (N #[Z (J ⟨r,0,I⟩),Z (J ⟨q,0,I⟩),y1 true,y1 false,V I 0 0,V I 0 0] 97)->K7 l W Y:=by
 obtain⟨w0,a,q,p,b,T,rts,R,lo,e,i,j,⟨body,u⟩,y,s,v,z,x,A,B⟩:=h
 have t:∀k,k=X->c k≠0:=fun k n=>by rw[n,x];decide
 refine⟨T,q,rts,R,lo,e,i,j,s,A,x,B,fun W m=>?_,fun W l d f g m o C D=>⟨w0,a,q,p,b,T,rts,R,lo,d,f,g,⟨body,u⟩,y,s,v.keep m o t,z.keep m o t,(o X (iA.1 A).1).trans x,C,D⟩,fun W l w2 E Y r m o g1 g2 g3 F=>⟨w0,a,q,w2,E,r,rts,R,true,false,V I 0 0,V I 0 0,⟨body,u⟩,g1,s,v.keep m o (by simp),g2,g3,F,rfl,z9 rfl⟩⟩;exact⟨(y.fr (z.keep m (Wz.refl _ _) t).1 fun k n=>n).tq s,a,body,u.frS (v.keep m (Wz.refl _ _) t).1 fun k n=>n⟩
theorem K7.both {c w W X}(h:K7 c w X)(p)(m:p.pan.size<=maxLen)(i:F0 w W):∃T q,∃f:List ByteArray->Nat×ByteArray×ByteArray,
  W.cell? ⟨X,0,I⟩=J (Z (J ⟨T,0,I⟩))/\W.cell? ⟨X,1,I⟩=J (Z (J ⟨q,0,I⟩))/\
  (∀a b c l,F0 W a->Yf a b l->l.length<=maxLen->H U 19 #[Z (J ⟨T,0,I⟩),UL p,V b l.length c] a fun e w'=>e=K (OU (f l))/\F0 a w')/\
  (∀a b c l,F0 W a->Yf a b l->l.length<=maxLen->H U 56 #[Z (J ⟨q,0,I⟩),UL p,V b l.length c] a fun e w'=>e=K (OU (f l))/\F0 a w'):=by
 obtain⟨T,q,rts,R,_,_,_,_,n,o,_,_,r,_⟩:=h.now;obtain⟨s,_,_,t⟩:=r w Zt;have g:=i.whole o;exact⟨T,q,fun l=>TV rts R p (Vk rts l),Zc g 0,Zc g 1,fun a b c l j d k=>(s.fr (i.trans j)).decide n b c l d k p m,fun a b c l j d k=>Hk a q rts R b c l p ((Sm.of t).fr (i.trans j)) n.bk m d k⟩
theorem RF.tells {c g w W L X v j l m p b r es s}(h:RF c w L v j l m p b r es s)(u:c X=9)(d:Fr (fun k=>k=X) w W)(f:Wz w c g)(x:K7 g W X):RF g W L v j l m p b r es s:=by
 have q:∀{k t:Nat},k=X->t≠9->c k≠t:=fun e i y=>i (by rw[<-y,e,u])
 obtain⟨z,i⟩:=XV h.tv h.tc d f fun k a=>q a (by decide)
 refine⟨d.whole h.bx fun e=>q e (by decide) h.bc,(f L (iA.1 h.bx).1).trans h.bc,z,i,h.few,fun Y A=>?_,h.n.keep d f fun k a=>⟨q a (by decide),q a (by decide),q a (by decide)⟩,h.o.keep d f fun k a=>⟨q a (by decide),q a (by decide),q a (by decide)⟩⟩;by_cases e:Y=X
 ·rw[e];exact x
 exact(h.tb Y A).keep d f fun k a=>⟨q a (by decide),q a (by decide),q a (by decide),fun B=>e (B.symm.trans a)⟩
