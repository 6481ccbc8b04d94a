import Derived.Test.YtccikgogjfbpeaaGreatDoorAu
import Derived.Test.YtccikgogjfbpeaaGreatDoorAw
import Derived.Laws.IdiomStrings
import Derived.Laws.OwnMore
open Option renaming some->I,none->Y
open Go.Value renaming int->J,string->Z,slice->O,bool->z3,bool->q5,pointer->q7,int->j4,agg->j6
open Go.IntKind renaming i64->V,u8->k9
open Go.RowKit renaming Hid->U
open Or renaming inr->D,inl->y1
open Go.Proofs.Tryz renaming prog->G
open Go.Ending renaming returned->L,returned->z9
open Nat renaming le_refl->C,zero_le->z8,max_eq_left->q8,min_eq_left->q9,mul_le_mul_right->j2,zero_add->j3,max_eq_right->j7,min_eq_right->j8,le_trans->k4,mul_comm->k6,add_mul->k7,pow_pos->k8
open Go renaming Calls->z4,Value->j1,World->k3
open Go.Obj renaming cells->z5
open _root_.ByteArray renaming empty->z6
open Bool renaming and_eq_true->z7,false_or->q3,true_and->q4,true_or->q6,eq_iff_iff->j0,false_eq_true->j5,or_eq_true->j9,false_and->k0
namespace Go.Proofs.YtccikgogjfbpeaaGreatDoor
set_option maxRecDepth 30000
set_option maxHeartbeats 8000000
open Go.RowKit
theorem Hl (x r n):Ul (x::r) n=(((x:Int)==n)||Ul r n):=by
 unfold Ul;rw[List.any_cons]
 congr 1
theorem zw (x r s):JE (x::r) s=((x.toList==s.toList)||JE r s):=by
 unfold JE;rw[List.any_cons]
 congr 1
 exact BEq.comm
theorem Rp (w a c l)(n:Int)(h:Zu w a l)(t:l.length<=4000):
  z4 G 139 #[O a l.length c,J V n] w fun e w'=>e=L (z3 (Ul l n))/\w'=w:=by
 have u:=Za h;obtain⟨m,j⟩:∃m,l.length=m:=⟨_,rfl⟩;have p:=Za j;rw[j]at t ⊢;go_enter Tryz.func139,Tryz.ntmps139;go_wp2_with fail
 go_loop [5] (fun i=>∃k:Nat,k<=m/\i=J V k/\U (Ul l n=Ul (l.drop k) n)) (fun i=>m-(intOf i).toNat)
 case atStart=>exact⟨0,z8 _,rfl,rfl⟩
 obtain⟨k,B,rfl,q⟩:=hrel;by_cases v:k<m
 ·have f:(k:Int)<(m:Int):=by omega
  obtain⟨x,r⟩:∃x,l[k]?=I x:=⟨_,gE (by have:=p.o;omega)⟩;obtain⟨g,rfl,C⟩:=u.o k x r
  have d:U (Ul l n=(((x:Int)==n)||Ul (l.drop (k+1)) n)):=by
   obtain⟨y,z⟩:=iG.1 r
   show _=_
   rw[q.o,dC y,z,Hl]
  cases s:((x:Int)==n)with
  |true=>
   rw[s,q6]at d;go_wp2_with fail;go_ret;exact⟨congrArg (fun b=>z9 (q5 b)) d.o.symm,rfl⟩
  |false=>
   rw[s,q3]at d;go_wp2_with fail;exact⟨⟨k+1,by omega,by go_num,d⟩,by simp[intOf];omega⟩
 have f:¬(k:Int)<(m:Int):=by omega
 have A:U (Ul l n=false):=by show _=_;rw[q.o,dL (by have:=p.o;omega)];rfl
 go_wp2_with fail;go_ret;exact⟨congrArg (fun b=>z9 (q5 b)) A.o.symm,rfl⟩
theorem Hm (w a c l s)(h:Ye w a l)(j:l.length<=maxLen):
  z4 G 101 #[O a l.length c,Z s] w fun e w'=>e=L (z3 (JE l s))/\w'=w:=by
 have u:=Za h;unfold maxLen at j;obtain⟨m,n⟩:∃m,l.length=m:=⟨_,rfl⟩;have p:=Za n;rw[n]at j ⊢
 have v:(m:Int)<=9223372036854775807:=by omega
 go_enter Tryz.func101,Tryz.ntmps101;go_wp2_with fail
 go_loop [5] (fun i=>∃k:Nat,k<=m/\i=J V k/\U (JE l s=JE (l.drop k) s)) (fun i=>m-(intOf i).toNat)
 case atStart=>exact⟨0,z8 _,rfl,rfl⟩
 obtain⟨k,C,rfl,q⟩:=hrel;by_cases y:k<m
 ·have f:(k:Int)<(m:Int):=by omega
  obtain⟨x,r⟩:∃x,l[k]?=I x:=⟨_,gE (by have:=p.o;omega)⟩;obtain⟨g,o,rfl,D⟩:=u.o k x r
  have d:U (JE l s=((x.toList==s.toList)||JE (l.drop (k+1)) s)):=by
   obtain⟨z,A⟩:=iG.1 r
   show _=_
   rw[q.o,dC z,A,zw]
  cases t:(x.toList==s.toList)with
  |true=>
   rw[t,q6]at d;go_wp2_with fail;go_ret;exact⟨congrArg (fun b=>z9 (q5 b)) d.o.symm,rfl⟩
  |false=>
   rw[t,q3]at d;go_wp2_with fail;exact⟨⟨k+1,by omega,by go_num,d⟩,by simp[intOf];omega⟩
 have f:¬(k:Int)<(m:Int):=by omega
 have B:U (JE l s=false):=by show _=_;rw[q.o,dL (by have:=p.o;omega)];rfl
 go_wp2_with fail;go_ret;exact⟨congrArg (fun b=>z9 (q5 b)) B.o.symm,rfl⟩
theorem Pc (w p)(u:p.pan.size<=maxLen):
  z4 G 86 #[UI p] w fun e w'=>e=L (z3 (Y5 p))/\F0 w w':=by
 obtain⟨g,c⟩:=Vx w (Rv p);unfold Rv at g c;unfold UI;unfold maxLen at u
 have v:(p.pan.size:Int)<=9223372036854775807:=by omega
 go_enter Tryz.func86,Tryz.ntmps86;go_upto_region 1 with fail;generalize w.alloc _=W at*;generalize w.heap.size=X at*;have F:=Zc c.o 0;have H:=Zc c.o 1;have I:=Zc c.o 2;have K:=Zc c.o 3;go_wp2_with fail
 go_loop [3] (fun i=>∃k:Nat,k<=p.pan.size/\i=J V k/\U (Xt p.pan 0=Xt p.pan k)) (fun i=>p.pan.size-(intOf i).toNat)
 case atStart=>exact⟨0,z8 _,rfl,rfl⟩
 obtain⟨k,M,rfl,h⟩:=hrel;by_cases d:k<p.pan.size
 ·have j:(k:Int)<(p.pan.size:Int):=by omega
  have l:=fun w=>VH (P:=G) Tryz.underlying9 p.pan k (k:Int) rfl d w
  have m:=Za (Q4 p.pan k d);obtain⟨b,n⟩:∃b,ZC p.pan k=b:=⟨_,rfl⟩;rw[n]at l m
  have a:(b<48\/¬b<48/\57<b)\/¬b<48/\¬57<b:=by omega
  rcases a with n|⟨f,q⟩
  ·have x:U (Y5 p=false):=by
    show _=_
    rw[Xu,show XP p.pan=false from ?_]
    ·rfl
    show(decide (6<=p.pan.size)&&(decide (p.pan.size<=19)&&Xt p.pan 0))=false
    rw[h.o,m.o];simp[iD];omega
   rcases n with f|⟨f,q⟩
   all_goals
    go_wp2_with fail;go_ret;exact⟨congrArg (fun b=>z9 (q5 b)) x.o.symm,g.o⟩
  have r:U (Xt p.pan 0=Xt p.pan (k+1)):=by
   show _=_
   rw[h.o,m.o,show iD b=true from by simp[iD];omega,q4]
  go_wp2_with fail;exact⟨⟨k+1,by omega,by go_num,r⟩,by simp[intOf];omega⟩
 have j:¬(k:Int)<(p.pan.size:Int):=by omega
 have s:U (Xt p.pan 0=true):=by show _=_;rw[h.o];exact Os p.pan k (by omega)
 have t:U (Y5 p=((decide (6<=p.pan.size)&&(decide (p.pan.size<=19)&&true))&&(VX p.mcc 9999&&(VX p.am 1000000000&&VX p.cur 999)))):=by
  show _=_
  rw[Xu,<-s.o];rfl
 have a:¬(6:Int)<=(p.pan.size:Int)\/(6:Int)<=(p.pan.size:Int)/\(¬(p.pan.size:Int)<=19\/(p.pan.size:Int)<=19/\(¬0<=p.mcc\/0<=p.mcc/\(¬p.mcc<=9999\/p.mcc<=9999/\(¬0<=p.am\/0<=p.am/\(¬p.am<=1000000000\/p.am<=1000000000/\(¬0<=p.cur\/0<=p.cur/\(¬p.cur<=999\/p.cur<=999))))))):=by omega
 rcases a with c1|⟨c1,y|⟨y,z|⟨z,A|⟨A,B|⟨B,C|⟨C,D|⟨D,E|E⟩⟩⟩⟩⟩⟩⟩
 all_goals
  go_wp2_with fail;go_ret;exact⟨by rw[t.o];simp[VX];omega,g.o⟩
theorem Ec {s}(h:XP s=true)(d)(l:d<=6):Dg (s.extract 0 d)/\Yu (s.extract 0 d).data.toList=Zy s/10^(6-d):=by
 obtain⟨m,_,a⟩:=UM h
 have c:(s.extract 0 d).data.toList=s.data.toList.take d:=by rw[Lib.extract_data];simp
 have f:s.data.toList.length=s.size:=by simp
 refine⟨⟨?_,fun k g=>?_⟩,?_⟩
 ·rw[ByteArray.size_extract]
  omega
 ·have b:k<(s.extract 0 d).data.toList.length:=by simpa using g
  unfold ZC;rw[gD,gE b,Option.getD_some];have j:(s.extract 0 d).data.toList[k]∈s.data.toList:=List.mem_of_mem_take (i:=d) (by rw[<-c];exact List.getElem_mem b);have:=a _ j;omega
 rw[c]
 unfold Zy;have e:=Qk a (6-d) d (by omega);rw[show d+(6-d)=6 from by omega]at e;exact e.symm
def V4 (r:Ze)(p:WC):Bool:=decide (r.lo<=Zy p.pan/10^(6-r.digits))&&(decide (Zy p.pan/10^(6-r.digits)<=r.hi)&&V9 r p)
def uL (r:Ze)(a:Option Addr)(b:Nat)(c:Option Addr)(d:Nat)(e:Option Addr)(f:Nat):List j1:=
 [Z r.name,J V (r.rank:Nat),J V (r.digits:Nat),J V (r.lo:Nat),J V (r.hi:Nat),O a r.mcc.length b,O c r.cur.length d,z3 r.am.isSome,J V ((r.am.getD (0,0)).1:Nat),J V ((r.am.getD (0,0)).2:Nat),O e r.routes.length f,z3 r.decline,z3 r.cheapest]
theorem Qm (w g o r A T B cc pa pc n p)(hc:∀j v,(uL r A T B cc pa pc)[j]?=I v->w.cell? ⟨g,o+j,Y⟩=I v)(hm:Zu w A r.mcc)(hu:Zu w B r.cur)(ho:Tc n r)(hp:XP p.pan=true):
  z4 G 87 #[q7 (I ⟨g,o,Y⟩),UI p] w fun e w'=>e=L (z3 (V4 r p))/\F0 w w':=by
 obtain⟨HF,HX⟩:=Vx w (Rv p);unfold Rv at HF HX;unfold UI;obtain⟨a0,k⟩:=Ec hp r.digits ho.bn.1;obtain⟨c,E⟩:∃c,Zy p.pan/10^(6-r.digits)=c:=⟨_,rfl⟩;rw[E]at k
 have b0:U (∀W,z4 G 133 #[Z (p.pan.extract 0 r.digits)] W fun e w'=>e=L (J V (c:Nat))/\w'=W):=fun W=>by rw[<-k];exact UX _ W a0
 have F:U (∀W,F0 w W->z4 G 139 #[O A r.mcc.length T,J V p.mcc] W fun e w'=>e=L (z3 (Ul r.mcc p.mcc))/\w'=W):=fun W t=>Rp W A T r.mcc p.mcc (hm.fr t) ho.mc.1
 have H:U (∀W,F0 w W->z4 G 139 #[O B r.cur.length cc,J V p.cur] W fun e w'=>e=L (z3 (Ul r.cur p.cur))/\w'=W):=fun W t=>Rp W B cc r.cur p.cur (hu.fr t) ho.cu.1
 obtain⟨f,K⟩:∃f,r.am.getD (0,0)=f:=⟨_,rfl⟩
 have HB:U (V4 r p=(decide ((r.lo:Int)<=(c:Int))&&(decide ((c:Int)<=(r.hi:Int))&&((decide (r.mcc.length=0)||Ul r.mcc p.mcc)&&((!r.am.isSome||(decide ((f.1:Int)<=p.am)&&decide (p.am<=(f.2:Int))))&&(decide (r.cur.length=0)||Ul r.cur p.cur)))))):=by
  show _=_
  unfold V4 V9 Mi;rw[E]
  have e1:decide (r.lo<=c)=decide ((r.lo:Int)<=(c:Int)):=by congr 1;apply propext;omega
  have e2:decide (c<=r.hi)=decide ((c:Int)<=(r.hi:Int)):=by congr 1;apply propext;omega
  have e3:decide (r.mcc=[])=decide (r.mcc.length=0):=by congr 1;apply propext;exact List.length_eq_zero_iff.symm
  have e4:decide (r.cur=[])=decide (r.cur.length=0):=by congr 1;apply propext;exact List.length_eq_zero_iff.symm
  rw[e1,e2,e3,e4,<-K]
  cases r.am with
  |none=>rfl
  |some f=>rfl
 have M:=fun j v N=>(HF.o.cell (p:=⟨g,o+j,Y⟩) (bL w _ (hc j v N))).trans (hc j v N)
 have d0:=(UM hp).1;have e0:=ho.bn.1;obtain⟨h,P⟩:∃b,r.am.isSome=b:=⟨_,rfl⟩;obtain⟨u,l⟩:∃u,r.mcc.length=u:=⟨_,rfl⟩;obtain⟨x,m⟩:∃x,r.cur.length=x:=⟨_,rfl⟩;obtain⟨bm,Q⟩:∃b,Ul r.mcc p.mcc=b:=⟨_,rfl⟩;obtain⟨bc,R⟩:∃b,Ul r.cur p.cur=b:=⟨_,rfl⟩;rw[P,l,m,Q,R]at HB;rw[l,Q]at F;rw[m,R]at H
 have i:U (∀d,F0 (w.alloc (z5 #[Z p.pan,J V p.mcc,J V p.am,J V p.cur] 35)) d->d.cell? ⟨w.heap.size,0,Y⟩=I (Z p.pan)/\d.cell? ⟨w.heap.size,1,Y⟩=I (J V p.mcc)/\d.cell? ⟨w.heap.size,2,Y⟩=I (J V p.am)/\d.cell? ⟨w.heap.size,3,Y⟩=I (J V p.cur)/\d.cell? ⟨g,o+2,Y⟩=I (J V (r.digits:Nat))/\d.cell? ⟨g,o+3,Y⟩=I (J V (r.lo:Nat))/\d.cell? ⟨g,o+4,Y⟩=I (J V (r.hi:Nat))/\d.cell? ⟨g,o+5,Y⟩=I (O A u T)/\d.cell? ⟨g,o+6,Y⟩=I (O B x cc)/\d.cell? ⟨g,o+7,Y⟩=I (z3 h)/\d.cell? ⟨g,o+8,Y⟩=I (J V (f.1:Nat))/\d.cell? ⟨g,o+9,Y⟩=I (J V (f.2:Nat))):=by
  intro d t;have e:=t.whole HX.o
  have a:=fun j v N=>(t.cell (p:=⟨g,o+j,Y⟩) (bL _ _ (M j v N))).trans (M j v N)
  rw[<-P,<-l,<-m,<-K];exact⟨Zc e 0,Zc e 1,Zc e 2,Zc e 3,a 2 _ rfl,a 3 _ rfl,a 4 _ rfl,a 5 _ rfl,a 6 _ rfl,a 7 _ rfl,a 8 _ rfl,a 9 _ rfl⟩
 go_enter Tryz.func87,Tryz.ntmps87;go_upto_region 1 with fail;generalize w.alloc _=W at*;generalize w.heap.size=X at*;obtain⟨x0,x1,x2,x3,v2,v3,v4,v5,v6,v7,v8,v9⟩:=i.o W Zt
 have f0:(r.digits:Int)<=(p.pan.size:Int):=by omega
 go_quiet ((go_at_call 133;exact Calls.quiet_of_same (b0.o _)))
 have q:U (F0 W (W.drewN nq)):=⟨rfl,rfl,rfl,C _,fun _ _ _=>rfl⟩;obtain⟨x0,x1,x2,x3,v2,v3,v4,v5,v6,v7,v8,v9⟩:=i.o _ q.o;generalize W.drewN nq=W1 at*;go_upto_region 2 with fail
 go_quiet ((go_at_call 139;exact Calls.quiet_of_same (F.o _ ((HF.o.trans q.o).trans ⟨rfl,rfl,rfl,C _,fun _ _ _=>rfl⟩))))
 have s:U (F0 W (W1.drewN nq)):=q.o.trans ⟨rfl,rfl,rfl,C _,fun _ _ _=>rfl⟩;obtain⟨x0,x1,x2,x3,v2,v3,v4,v5,v6,v7,v8,v9⟩:=i.o _ s.o;generalize W1.drewN nq=W2 at*;go_upto_region 3 with fail
 go_quiet ((go_at_call 139;exact Calls.quiet_of_same (H.o _ ((HF.o.trans s.o).trans ⟨rfl,rfl,rfl,C _,fun _ _ _=>rfl⟩))))
 have S:U (F0 W (W2.drewN nq)):=s.o.trans ⟨rfl,rfl,rfl,C _,fun _ _ _=>rfl⟩;obtain⟨x0,x1,x2,x3,v2,v3,v4,v5,v6,v7,v8,v9⟩:=i.o _ S.o;generalize W2.drewN nq=W3 at*;go_upto_region 4 with fail
 have c0:¬(r.lo:Int)<=(c:Int)\/((r.lo:Int)<=(c:Int)/\¬(c:Int)<=(r.hi:Int))\/((r.lo:Int)<=(c:Int)/\(c:Int)<=(r.hi:Int)/\bm=false/\((u:Int)==0)=false/\¬u=0)\/((r.lo:Int)<=(c:Int)/\(c:Int)<=(r.hi:Int)/\(bm=true\/bm=false/\u=0)/\(bc=false/\(((x:Int)==0)=false/\¬x=0)\/(bc=true\/bc=false/\x=0)/\(h=false\/h=true/\(¬(f.1:Int)<=p.am\/(f.1:Int)<=p.am/\(p.am<=(f.2:Int)\/¬p.am<=(f.2:Int)))))):=by
  cases bm<;>cases bc<;>cases h<;>simp<;>omega
 rcases c0 with a1|⟨a1,a2⟩|⟨a1,a2,rfl,z,y⟩|⟨a1,a2,rfl|⟨rfl,rfl⟩,⟨rfl,z,y⟩|⟨rfl|⟨rfl,rfl⟩,rfl|⟨rfl,q1|⟨q1,q2|q2⟩⟩⟩⟩
 all_goals
  go_quiet (fail)
  go_wp2_with fail;go_ret;exact⟨by rw[HB.o];simp;try first|omega|(intros;omega),(HF.o.trans S.o).trans ⟨rfl,rfl,rfl,C _,fun _ _ _=>rfl⟩⟩
structure Sm (w:k3)(q:Nat)(rts:List Zf)(R:List Ze):Prop where
 c1:∃ra rc,w.cell? ⟨q,1,Y⟩=I (O ra rts.length rc)/\∀i t,rts[i]?=I t->∃g,ra=I ⟨g,0,Y⟩/\w.cell? ⟨g,i*3,Y⟩=I (Z t.name)/\w.cell? ⟨g,i*3+1,Y⟩=I (J V (t.base:Nat))/\w.cell? ⟨g,i*3+2,Y⟩=I (J V (t.rate:Nat))
 c2:∃la lc,w.cell? ⟨q,2,Y⟩=I (O la R.length lc)/\∀i r,R[i]?=I r->∃g ma mc ca cc pa pc,la=I ⟨g,0,Y⟩/\(∀j v,(uL r ma mc ca cc pa pc)[j]?=I v->w.cell? ⟨g,i*13+j,Y⟩=I v)/\Zu w ma r.mcc/\Zu w ca r.cur/\Zu w pa r.routes
theorem Sm.fr {w w' q rts R}(h:Sm w q rts R)(a:F0 w w'):Sm w' q rts R:=by
 have k:∀{X o:Nat}{v:j1},w.cell? ⟨X,o,Y⟩=I v->w'.cell? ⟨X,o,Y⟩=I v:=fun{X o v} b=>(a.cell (p:=⟨X,o,Y⟩) (bL w _ b)).trans b
 obtain⟨l,m,n,s⟩:=h.c1;obtain⟨u,x,y,z⟩:=h.c2;refine⟨⟨l,m,k n,fun i t hi=>?_⟩,⟨u,x,k y,fun i r hi=>?_⟩⟩
 ·obtain⟨g,c,d,e,f⟩:=s i t hi
  exact⟨g,c,k d,k e,k f⟩
 obtain⟨g,A,B,C,D,E,F,c,d,e,f,G⟩:=z i r hi
 exact⟨g,A,B,C,D,E,F,c,fun j v b=>k (d j v b),e.fr a,f.fr a,G.fr a⟩
theorem TB.at' {base:Nat}{w:k3}:∀{rs:List Xa}{a:List j1}{j:Nat}{r:Xa},TB base w rs a->rs[j]?=I r->∃c,wk base w r c/\∀o v,c[o]?=I v->a[j*13+o]?=I v
 |[],_,j,_,_,hj=>by simp at hj
 |r::rs,a,0,r',⟨c,rest,e,h1,h2⟩,hj=>by
  simp at hj;subst hj;refine⟨c,h1,fun o v b=>?_⟩;have:=(iG.1 b).1;rw[e,Nat.zero_mul,j3,List.getElem?_append_left this];exact b
 |r::rs,a,j+1,r',⟨c,rest,e,h1,h2⟩,hj=>by
  rw[List.getElem?_cons_succ]at hj;obtain⟨d,f,g⟩:=TB.at' h2 hj;refine⟨d,f,fun o v b=>?_⟩
  have i:c.length=13:=by obtain⟨k,l,m,h,_⟩:=h1;rw[h];rfl
  rw[e,aR (by omega),show(j+1)*13+o-c.length=j*13+o from by omega];exact g o v b
theorem Sm.of {w B q body rts R}(h:X9 w B q body rts R):Sm w q rts R:=by
 obtain⟨U,V,W,X,_,k,l,a,b,m⟩:=h.row;obtain⟨n,p,s⟩:=oL a;subst s;obtain⟨u,x,y⟩:=oL b;subst y;refine⟨⟨n,p,k,fun i t hi=>?_⟩,⟨u,x,l,fun i r hi=>?_⟩⟩
 ·have z:=(iG.1 hi).1
  obtain⟨g,cap,e,_,A⟩:=a.form (by omega);injection e with e _ _;subst e;obtain⟨C,D,E⟩:=TI rts i t hi
  have d:∀o v,(Yh rts)[o]?=I v->w.cell? ⟨g,o,Y⟩=I v:=fun o v F=>by
   have:=a.cells (g:=g) rfl o v F;rw[Yc,j3]at this;exact this
  exact⟨g,rfl,d _ _ C,d _ _ D,d _ _ E⟩
 have z:=(iG.1 hi).1
 obtain⟨g,cap,e,_,A⟩:=b.form (by omega);injection e with e _ _;subst e;obtain⟨c,⟨Z,vc,vp,rfl,g1,g2,g3⟩,f⟩:=m.at' (j:=i) (r:=r.ref) (by rw[List.getElem?_map,hi];rfl);obtain⟨G,H,J⟩:=oL g1;subst J;obtain⟨K,L,M⟩:=oL g2;subst M;obtain⟨N,O,P⟩:=oL g3;subst P
 have Q:UH r.ref.routes=Zg r.routes:=by unfold UH Zg Ze.ref;simp
 have S:r.ref.routes.length=r.routes.length:=by unfold Ze.ref;simp
 rw[Q]at g3;rw[S]at g3 f;refine⟨g,G,H,K,L,N,O,rfl,fun j v T=>?_,Zu.of g1,Zu.of g2,Zu.of g3⟩;have:=b.cells (g:=g) rfl (i*13+j) v (f j v T);rw[Yc,j3]at this;exact this
theorem Tn (R p i r)(h:R[i]?=I r):YX R p (Zy p.pan) i=V4 r p:=by
 unfold YX V4;rw[h]
theorem Pd (w q rts R p)(h:Sm w q rts R)(hb:Yx rts R)(hp:XP p.pan=true):
  z4 G 100 #[q7 (I ⟨q,0,Y⟩),UI p] w fun e w'=>e=L (J V (VW (YF (Zv R) (YX R p (Zy p.pan)) R.length)))/\F0 w w':=by
 obtain⟨HF,HX⟩:=Vx w (Rv p);have HH:U (Sm (w.alloc (Rv p)) q rts R):=h.fr HF.o;have a0:=Za hb;have HP:U (XP p.pan=true):=hp;obtain⟨n,hn⟩:∃n,R.length=n:=⟨_,rfl⟩;have HN:=Za hn
 have j0:n<=8:=by have:=hb.l8;omega
 unfold Rv at HF HX HH;unfold UI;rw[hn];go_enter Tryz.func100,Tryz.ntmps100;go_upto_region 1 with fail;generalize w.alloc _=W at*;generalize w.heap.size=X at*;go_wp2_with fail
 go_loopg [5,6,7] n (fun m bb i _ wr=>∃k b,k<=n/\m=n-k/\bb=J V (VW b)/\i=J V (k:Nat)/\U (YF (Zv R) (YX R p (Zy p.pan)) k=b)/\U (F0 W wr))
 case atStart=>exact⟨0,Y,z8 _,rfl,rfl,rfl,rfl,Zt⟩
 obtain⟨k,b,hk,rfl,rfl,rfl,A,f⟩:=hrel;obtain⟨la,lc,P,h3⟩:=(HH.o.fr f.o).c2;rw[HN.o]at P;by_cases k0:k<n
 ·have b0:(k:Int)<(n:Int):=by omega
  obtain⟨r,Q⟩:∃r,R[k]?=I r:=⟨_,gE (by have:=HN.o;omega)⟩;obtain⟨g,ma,mc,ca,cc,pa,pc,rfl,l,c0,d0,l0⟩:=h3 k r Q
  have D:U (∀i r,R[i]?=I r->wr.cell? ⟨g,i*13+1,Y⟩=I (J V (Zv R i:Nat))):=fun i r' hi=>by
   obtain⟨g',m0,n0,o0,p0,q0,r0,e,e0,_⟩:=h3 i r' hi;injection e with e;injection e with e _ _;subst e
   have e2:Zv R i=r'.rank:=by unfold Zv;rw[hi];rfl
   rw[e2];exact e0 1 _ rfl
  have E:U (∀s,U (F0 wr s)->z4 G 87 #[q7 (I ⟨g,k*13,Y⟩),j6 #[Z p.pan,J V p.mcc,J V p.am,J V p.cur]] s fun e w'=>e=L (z3 (YX R p (Zy p.pan) k))/\U (F0 wr w')/\w'.cell? ⟨q,2,Y⟩=I (O (I ⟨g,0,Y⟩) n lc)/\w'.cell? ⟨X,0,Y⟩=I (Z p.pan)/\w'.cell? ⟨X,1,Y⟩=I (J V p.mcc)/\w'.cell? ⟨X,2,Y⟩=I (J V p.am)/\w'.cell? ⟨X,3,Y⟩=I (J V p.cur)):=by
   intro s S;rw[Tn R p k r Q];refine(Qm s g (k*13) r ma mc ca cc pa pc rts.length p (fun j v hv=>((S.o.cell (p:=⟨g,k*13+j,Y⟩) (bL wr _ (l j v hv))).trans (l j v hv))) (c0.fr S.o) (d0.fr S.o) (a0.o.rl r (mG Q)) HP.o).mono ?_;rintro e w' ⟨he,h4⟩;have h5:=S.o.trans h4;have t:=(f.o.trans h5).whole HX.o;exact⟨he,h5,(h5.cell (p:=⟨q,2,Y⟩) (bL wr _ P)).trans P,Zc t 0,Zc t 1,Zc t 2,Zc t 3⟩
  have t:=f.o.whole HX.o;have hS:wr.cell? ⟨q,2,Y⟩=I (O (I ⟨g,0,Y⟩) n lc)/\wr.cell? ⟨X,0,Y⟩=I (Z p.pan)/\wr.cell? ⟨X,1,Y⟩=I (J V p.mcc)/\wr.cell? ⟨X,2,Y⟩=I (J V p.am)/\wr.cell? ⟨X,3,Y⟩=I (J V p.cur):=⟨P,Zc t 0,Zc t 1,Zc t 2,Zc t 3⟩;have s0:U (F0 wr wr.drew):=Zt.drew;have f0:U (R[k]?=I r):=Q;obtain⟨T,F⟩:∃T,VW b=T:=⟨_,rfl⟩;have x:=Za F;rw[F];obtain⟨mt,H⟩:∃mt,YX R p (Zy p.pan) k=mt:=⟨_,rfl⟩;have d:U (YX R p (Zy p.pan) k=mt):=H;rw[H]at E;go_upto_region 5 with fail
  go_region_held3 (fun s=>s.cell? ⟨q,2,Y⟩=I (O (I ⟨g,0,Y⟩) n lc)/\s.cell? ⟨X,0,Y⟩=I (Z p.pan)/\s.cell? ⟨X,1,Y⟩=I (J V p.mcc)/\s.cell? ⟨X,2,Y⟩=I (J V p.am)/\s.cell? ⟨X,3,Y⟩=I (J V p.cur)) (first|assumption|go_keep) (first
   |(go_at_call 87;refine(E.o _ (by assumption)).mono ?_;rintro e B ⟨rfl,z,g0⟩))
  have l2:=g0.1
  have r1:B.cell? ⟨g,k*13+1,Y⟩=I (J V (Zv R k:Nat)):=by
   have e:=D.o k r f0.o;exact(z.o.cell (p:=⟨g,k*13+1,Y⟩) (bL wr _ e)).trans e
  have u:=Za (f.o.trans z.o)
  cases mt with
  |false=>
   have a:U (YF (Zv R) (YX R p (Zy p.pan)) (k+1)=b):=by show _=_;unfold YF;rw[d.o,A.o];simp
   go_upto_region 6 with fail
   go_quiet (fail)
   have c:U (F0 W (B.drewN nq)):=u.o.trans ⟨rfl,rfl,rfl,C _,fun _ _ _=>rfl⟩;go_wp2_with fail;go_roundg (n-(k+1))
   case measure=>omega
   exact⟨k+1,b,by omega,rfl,by rw[x.o],by go_num,a,c⟩
  |true=>
   cases b with
   |none=>
    have a:U (YF (Zv R) (YX R p (Zy p.pan)) (k+1)=I k):=by show _=_;unfold YF;rw[d.o,A.o];simp
    have e1:T= -1:=x.o.symm;subst e1;go_upto_region 6 with fail
    go_quiet (fail)
    have c:U (F0 W (B.drewN nq)):=u.o.trans ⟨rfl,rfl,rfl,C _,fun _ _ _=>rfl⟩;go_wp2_with fail;go_roundg (n-(k+1))
    case measure=>omega
    exact⟨k+1,(I k),by omega,rfl,rfl,by go_num,a,c⟩
   |some y=>
    have e1:T=(y:Int):=x.o.symm;subst e1;have K:=Ur (Zv R) (YX R p (Zy p.pan)) k;rw[A.o]at K
    have t0:(y:Int)<(n:Int):=by have:=K.1;omega
    have v0:¬(y:Int)<0:=by omega
    obtain⟨ry,h0⟩:∃ry,R[y]?=I ry:=⟨_,gE (by have:=HN.o;omega)⟩
    have r2:B.cell? ⟨g,y*13+1,Y⟩=I (J V (Zv R y:Nat)):=by
     have e:=D.o y ry h0;exact(z.o.cell (p:=⟨g,y*13+1,Y⟩) (bL wr _ e)).trans e
    by_cases M:Zv R y<Zv R k
    ·have a:U (YF (Zv R) (YX R p (Zy p.pan)) (k+1)=I k):=by show _=_;unfold YF;rw[d.o,A.o];simp[M]
     have N:((Zv R y:Nat):Int)<((Zv R k:Nat):Int):=by omega
     generalize Zv R y=r8 at*;generalize Zv R k=r9 at*;go_upto_region 6 with fail
     go_quiet (fail)
     have c:U (F0 W (B.drewN nq)):=u.o.trans ⟨rfl,rfl,rfl,C _,fun _ _ _=>rfl⟩;go_wp2_with fail;go_roundg (n-(k+1))
     case measure=>omega
     exact⟨k+1,(I k),by omega,rfl,rfl,by go_num,a,c⟩
    have a:U (YF (Zv R) (YX R p (Zy p.pan)) (k+1)=I y):=by show _=_;unfold YF;rw[d.o,A.o];simp[M]
    have N:¬((Zv R y:Nat):Int)<((Zv R k:Nat):Int):=by omega
    generalize Zv R y=r8 at*;generalize Zv R k=r9 at*;go_upto_region 6 with fail
    go_quiet (fail)
    have c:U (F0 W (B.drewN nq)):=u.o.trans ⟨rfl,rfl,rfl,C _,fun _ _ _=>rfl⟩;go_wp2_with fail;go_roundg (n-(k+1))
    case measure=>omega
    exact⟨k+1,(I y),by omega,rfl,rfl,by go_num,a,c⟩
 have b0:¬(k:Int)<(n:Int):=by omega
 have i0:k=n:=by omega
 subst i0;go_wp2_with fail;go_ret;exact⟨ZO (by rw[A.o]),HF.o.trans f.o⟩
def O6 (rts:List Zf)(a:Int):Option Nat->Int
 |none=>0
 |some y=>XO rts a y
theorem Hn (w q rts R a c l p)(h:Sm w q rts R)(hb:Yx rts R)(hs:p.pan.size<=maxLen)(a1:Ye w a l)(hl:l.length<=maxLen):
  z4 G 56 #[q7 (I ⟨q,0,Y⟩),UI p,O a l.length c] w fun e w'=>e=L (OQ (TR rts R p (Vh rts l)))/\F0 w w':=by
 have HH:U (Sm w q rts R):=h;have E0:U (Yx rts R):=hb;have E1:U (Ye w a l):=a1;have F1:U (l.length<=maxLen):=hl
 have G1:U (∀W,z4 G 86 #[j6 #[Z p.pan,J V p.mcc,J V p.am,J V p.cur]] W fun e w'=>e=L (z3 (Y5 p))/\F0 W w'):=fun W=>Pc W p hs
 obtain⟨b1,F,i0⟩:=SA w (Rv p) (z5 #[J V 0,Z ⟨#[]⟩,Z ⟨#[]⟩] 38);unfold UI;unfold Rv at b1 F i0;obtain⟨ln,G0⟩:∃ln,l.length=ln:=⟨_,rfl⟩;have H1:U (l.length=ln):=G0;rw[G0];clear h hs hb a1 hl G0;go_enter Tryz.func56,Tryz.ntmps56;go_upto_region 1 with fail;generalize(w.alloc _).alloc _=W0 at*;obtain⟨P,hP⟩:∃P,w.heap.size=P:=⟨_,rfl⟩;have I1:U (w.heap.size=P):=hP;rw[hP]at F i0;rw[hP];clear hP;have x0:=Zc F.o 0;have x1:=Zc F.o 1;have x2:=Zc F.o 2;have x3:=Zc F.o 3;go_wp2_with fail;refine(G1.o _).mono ?_;rintro e w1 ⟨rfl,j0⟩;have H0:U (F0 w w1):=b1.o.trans j0;have a0:U (w1.heap[P]?=I (z5 #[Z p.pan,J V p.mcc,J V p.am,J V p.cur] 35)):=j0.whole F.o;have z:U (w1.heap[P+1]?=I (z5 #[J V 0,Z ⟨#[]⟩,Z ⟨#[]⟩] 38)):=j0.whole i0.o
 have n:w.heap.size<=P+1:=by have:=I1.o;omega
 clear j0 x0 x1 x2 x3 F i0
 cases I0:Y5 p with
 |false=>
  have HD:U (TR rts R p (Vh rts l)=(1,z6,z6)):=by show _=_;unfold TR;rw[if_neg (by rw[I0];simp)]
  have o0:=Zc z.o 0;have o1:=Zc z.o 1;have o2:=Zc z.o 2;have J0:=bF z.o 0;have K0:=bF z.o 1;have L0:=bF z.o 2;go_wp2_with fail;have B:=JH (v0:=J V 1) (v1:=Z ⟨#[]⟩) (v2:=Z ⟨#[]⟩) z.o;have s0:=Zc B 0;have s1:=Zc B 1;have s2:=Zc B 2;refine bodyPost_ret (v:=j6 #[J V 1,Z ⟨#[]⟩,Z ⟨#[]⟩]) (by simp[results,Tryz.results56,go_sem,s0,s1,s2]) rfl ⟨by rw[HD.o];rfl,?_⟩;exact((H0.o.setCell (p:=⟨P+1,0,Y⟩) (D n) _).setCell (p:=⟨P+1,1,Y⟩) (D n) _).setCell (p:=⟨P+1,2,Y⟩) (D n) _
 |true=>
  have l0:U (Y5 p=true):=I0
  have C0:XP p.pan=true:=by have e:=l0.o;rw[Xu,z7]at e;exact e.1
  have M0:U (0<=p.am/\p.am<=1000000000):=by
   have e:=l0.o;rw[Xu]at e;simp only[z7,VX,decide_eq_true_eq]at e;exact e.2.2.1
  obtain⟨H,N⟩:∃H,YF (Zv R) (YX R p (Zy p.pan)) R.length=H:=⟨_,rfl⟩;have m0:U (YF (Zv R) (YX R p (Zy p.pan)) R.length=H):=N
  have d1:U (z4 G 100 #[q7 (I ⟨q,0,Y⟩),j6 #[Z p.pan,J V p.mcc,J V p.am,J V p.cur]] w1 fun e w'=>e=L (J V (VW H))/\F0 w1 w'):=by
   rw[<-N];exact Pd w1 q rts R p (HH.o.fr H0.o) E0.o C0
  have x0:=Zc a0.o 0;have x1:=Zc a0.o 1;have x2:=Zc a0.o 2;have x3:=Zc a0.o 3;clear I0 C0 N;go_wp2_with fail;refine d1.o.mono ?_;rintro e w2 ⟨rfl,n0⟩;have p0:U (F0 w w2):=H0.o.trans n0;have f1:U (w2.heap[P]?=I (z5 #[Z p.pan,J V p.mcc,J V p.am,J V p.cur] 35)):=n0.whole a0.o;have C:U (w2.heap[P+1]?=I (z5 #[J V 0,Z ⟨#[]⟩,Z ⟨#[]⟩] 38)):=n0.whole z.o;clear n0 x0 x1 x2 x3 a0 z d1
  cases H with
  |none=>
   have HD:U (TR rts R p (Vh rts l)=(2,z6,z6)):=by show _=_;unfold TR;rw[if_pos l0.o,m0.o]
   unfold VW;have o0:=Zc C.o 0;have o1:=Zc C.o 1;have o2:=Zc C.o 2;have J0:=bF C.o 0;have K0:=bF C.o 1;have L0:=bF C.o 2;go_wp2_with fail;have B:=JH (v0:=J V 2) (v1:=Z ⟨#[]⟩) (v2:=Z ⟨#[]⟩) C.o;have s0:=Zc B 0;have s1:=Zc B 1;have s2:=Zc B 2;refine bodyPost_ret (v:=j6 #[J V 2,Z ⟨#[]⟩,Z ⟨#[]⟩]) (by simp[results,Tryz.results56,go_sem,s0,s1,s2]) rfl ⟨by rw[HD.o];rfl,?_⟩;exact((p0.o.setCell (p:=⟨P+1,0,Y⟩) (D n) _).setCell (p:=⟨P+1,1,Y⟩) (D n) _).setCell (p:=⟨P+1,2,Y⟩) (D n) _
  |some k=>
   have q0:=Ur (Zv R) (YX R p (Zy p.pan)) R.length;rw[m0.o]at q0;obtain⟨r,hr⟩:∃r,R[k]?=I r:=⟨_,gE q0.1⟩
   have g1:U (TR rts R p (Vh rts l)=A7 rts r (Vh rts l) p.am):=by
    show _=_
    unfold TR;rw[if_pos l0.o,m0.o];simp only[hr]
   have i1:U (Tc rts.length r):=E0.o.rl r (mG hr);obtain⟨la,lc,h2,h3⟩:=(HH.o.fr p0.o).c2;obtain⟨g,ma,mc,ca,cc,pa,pc,rfl,f,_,_,k1⟩:=h3 k r hr
   have Y1:(k:Int)<(R.length:Int):=by have:=q0.1;omega
   have Z1:¬(k:Int)<0:=by omega
   have v0:=f 0 _ rfl;have v1:=f 1 _ rfl;have v2:=f 2 _ rfl;have v3:=f 3 _ rfl;have v4:=f 4 _ rfl;have v5:=f 5 _ rfl;have v6:=f 6 _ rfl;have v7:=f 7 _ rfl;have v8:=f 8 _ rfl;have v9:=f 9 _ rfl;have J1:=f 10 _ rfl;have K1:=f 11 _ rfl;have L1:=f 12 _ rfl;rw[Nat.add_zero]at v0;obtain⟨c0,d0⟩:=Vx w2 (z5 #[Z r.name,J V (r.rank:Nat),J V (r.digits:Nat),J V (r.lo:Nat),J V (r.hi:Nat),O ma r.mcc.length mc,O ca r.cur.length cc,z3 r.am.isSome,J V ((r.am.getD (0,0)).1:Nat),J V ((r.am.getD (0,0)).2:Nat),O pa r.routes.length pc,z3 r.decline,z3 r.cheapest] 170);have M1:U (Zu (w2.alloc (z5 #[Z r.name,J V (r.rank:Nat),J V (r.digits:Nat),J V (r.lo:Nat),J V (r.hi:Nat),O ma r.mcc.length mc,O ca r.cur.length cc,z3 r.am.isSome,J V ((r.am.getD (0,0)).1:Nat),J V ((r.am.getD (0,0)).2:Nat),O pa r.routes.length pc,z3 r.decline,z3 r.cheapest] 170)) pa r.routes):=k1.fr c0.o;unfold VW;clear q0 h3 f k1 hr;go_upto_region 8 with fail;generalize w2.alloc _=W3 at*;obtain⟨X,hX⟩:∃X,w2.heap.size=X:=⟨_,rfl⟩;rw[hX]at d0;rw[hX];have K:U (W3.heap[P+1]?=I (z5 #[J V 0,Z ⟨#[]⟩,Z ⟨#[]⟩] 38)):=c0.o.whole C.o;have N1:U (W3.heap[P]?=I (z5 #[Z p.pan,J V p.mcc,J V p.am,J V p.cur] 35)):=c0.o.whole f1.o;have m1:U (F0 w W3):=p0.o.trans c0.o;have y0:=Zc d0.o 0;have N0:=Zc d0.o 11;clear v0 v1 v2 v3 v4 v5 v6 v7 v8 v9 J1 K1 L1 hX h2 c0 p0 C f1 m0
   cases e0:r.decline with
   |true=>
    have HD:U (TR rts R p (Vh rts l)=(3,r.name,z6)):=by show _=_;rw[g1.o];unfold A7;rw[if_pos e0]
    rw[e0]at N0;have o0:=Zc K.o 0;have o1:=Zc K.o 1;have o2:=Zc K.o 2;have J0:=bF K.o 0;have K0:=bF K.o 1;have L0:=bF K.o 2;go_wp2_with fail;have B:=JH (v0:=J V 3) (v1:=Z r.name) (v2:=Z ⟨#[]⟩) K.o;have s0:=Zc B 0;have s1:=Zc B 1;have s2:=Zc B 2;refine bodyPost_ret (v:=j6 #[J V 3,Z r.name,Z ⟨#[]⟩]) (by simp[results,Tryz.results56,go_sem,s0,s1,s2]) rfl ⟨by rw[HD.o];rfl,?_⟩;exact((m1.o.setCell (p:=⟨P+1,0,Y⟩) (D n) _).setCell (p:=⟨P+1,1,Y⟩) (D n) _).setCell (p:=⟨P+1,2,Y⟩) (D n) _
   |false=>
    obtain⟨s,f0⟩:∃s,YK r.cheapest (XO rts p.am) (Vh rts l) r.routes Y=s:=⟨_,rfl⟩;have n1:U (YK r.cheapest (XO rts p.am) (Vh rts l) r.routes Y=s):=f0
    have D0:U (TR rts R p (Vh rts l)=Mq rts r.name s):=by
     show _=_
     rw[g1.o];unfold A7;rw[if_neg (by rw[e0];simp),f0]
     cases s<;>rfl
    rw[e0]at N0;obtain⟨Q,O0⟩:∃Q,r.routes.length=Q:=⟨_,rfl⟩;have p1:U (r.routes.length=Q):=O0;rw[O0]at d0
    have a2:Q<=4000:=by have:=i1.o.pl.1;omega
    clear f0 O0 e0;go_wp2_with fail;clear y0 N0
    go_loopg [10,11,12,13,14,15] Q (fun m bb ff i _ _ _ wr=>∃j b,j<=Q/\m=Q-j/\bb=J V (VW b)/\ff=J V (O6 rts p.am b)/\i=J V (j:Nat)/\U (YK r.cheapest (XO rts p.am) (Vh rts l) (r.routes.drop j) b=s)/\U (F0 W3 wr)/\U (∀y,b=I y->y<rts.length))
    case atStart=>exact⟨0,Y,z8 _,rfl,rfl,rfl,rfl,n1,Zt,fun y h=>by cases h⟩
    obtain⟨j,b,hj,rfl,rfl,rfl,rfl,HB,b0,r0⟩:=hrel;have P0:=b0.o.whole d0.o;have y0:=Zc P0 0;have Q0:=Zc P0 10;have R0:=Zc P0 12;have T:U (F0 w wr):=m1.o.trans b0.o;obtain⟨ra,rc,c1,w0⟩:=(HH.o.fr T.o).c1;by_cases b2:j<Q
    ·have O1:(j:Int)<(Q:Int):=by omega
     obtain⟨x,hx⟩:∃x,r.routes[j]?=I x:=⟨_,gE (by have:=p1.o;omega)⟩;have S0:=i1.o.pl.2 x (mG hx);obtain⟨t,ht⟩:∃t,rts[x]?=I t:=⟨_,gE S0⟩;obtain⟨rg,rfl,t0,t1,t2⟩:=w0 x t ht;obtain⟨ga,rfl,hc⟩:=(M1.o.fr b0.o) j x hx
     have hd:r.routes.drop j=x::r.routes.drop (j+1):=by
      obtain⟨h1,h2⟩:=iG.1 hx;rw[dC h1,h2]
     rw[hd]at HB
     have P1:(x:Int)<(rts.length:Int):=by omega
     have q1:U (x<rts.length):=S0
     have Q1:U (Vh rts l x=JE l t.name):=by show _=_;unfold Vh;rw[ht]
     have A0:U (XO rts p.am x=(t.base:Int)+(t.rate:Int)*p.am):=by show _=_;unfold XO;rw[ht]
     have T0:=E0.o.rt t (mG ht)
     have R1:(t.base:Int)<1000000000:=by have:=T0.2.1;omega
     have S1:(0:Int)<=(t.rate:Int)*p.am:=Int.mul_nonneg (by omega) M0.o.1
     have T1:(t.rate:Int)*p.am<=1000000000000000000:=by
      have:=Int.mul_le_mul (a:=(t.rate:Int)) (b:=p.am) (c:=1000000000) (d:=1000000000) (by have:=T0.2.2;omega) M0.o.2 M0.o.1 (by omega);omega
     obtain⟨r1,y1⟩:=Vx wr (z5 #[Z t.name,J V (t.base:Nat),J V (t.rate:Nat)] 189)
     have V1:U (∀W',F0 wr W'->z4 G 101 #[O a ln c,Z t.name] W' fun e w'=>e=L (z3 (Vh rts l x))/\w'=W'):=fun W' hf=>by
      rw[Q1.o,<-H1.o];exact Hm W' a c l t.name (E1.o.fr (T.o.trans hf)) F1.o
     clear w0 hx S0 ht hd T0;obtain⟨bi,V0⟩:∃bi,VW b=bi:=⟨_,rfl⟩;have g0:U (VW b=bi):=V0;obtain⟨bf,X0⟩:∃bf,O6 rts p.am b=bf:=⟨_,rfl⟩;have B0:U (O6 rts p.am b=bf):=X0;rw[V0,X0];clear V0 X0;have l1:q<wr.heap.size:=bL wr _ c1;have l2:X<wr.heap.size:=bL wr _ Q0;have l3:rg<wr.heap.size:=bL wr _ t0;have l4:ga<wr.heap.size:=bL wr _ hc;go_upto_region 15 with fail
     go_region
     go_upto_region 16 with fail;have Y0:U (F0 wr (wr.alloc (z5 #[Z t.name,J V (t.base:Nat),J V (t.rate:Nat)] 189)).drew):=r1.o.drew;have Z0:U ((wr.alloc (z5 #[Z t.name,J V (t.base:Nat),J V (t.rate:Nat)] 189)).drew.heap[wr.heap.size]?=I (z5 #[Z t.name,J V (t.base:Nat),J V (t.rate:Nat)] 189)):=y1.o;clear r1 y1 l1 l2 l3 l4;generalize(wr.alloc _).drew=W5 at*;generalize wr.heap.size=Xo at*
     have k5:∀{A o:Nat}{v:j1},wr.cell? ⟨A,o,Y⟩=I v->W5.cell? ⟨A,o,Y⟩=I v:=fun{A o v} hv=>(Y0.o.cell (p:=⟨A,o,Y⟩) (bL wr _ hv)).trans hv
     have d2:=k5 Q0;have A1:=k5 R0;have zc:=k5 hc;have p2:wr.cell? ⟨P,2,Y⟩=I (J V p.am):=bC (b0.o.whole N1.o) 2 _ rfl;have zp:=k5 p2;have z0:=Zc Z0.o 0;have z1:=Zc Z0.o 1;have z2:=Zc Z0.o 2;have h0:U (F0 W3 W5):=b0.o.trans Y0.o;clear y0 Q0 R0 hc c1 t0 t1 t2 p2 k5;go_wp2_with fail;refine(V1.o _ Y0.o).mono ?_;rintro e w6 ⟨rfl,hw⟩;replace hw:=hw.symm;subst hw
     cases hq:Vh rts l x with
     |true=>
      have S:U (YK r.cheapest (XO rts p.am) (Vh rts l) (r.routes.drop (j+1)) b=s):=by have e:=HB.o;unfold YK at e;rw[hq,if_pos rfl]at e;exact e
      go_wp2_with fail;go_roundg (Q-(j+1))
      case measure=>omega
      exact⟨j+1,b,by omega,rfl,by rw[g0.o],by rw[B0.o],by go_num,S,h0,r0⟩
     |false=>
      have HQ:U (Vh rts l x=false):=hq;clear hq;go_upto_region 19 with fail;obtain⟨fx,B1⟩:∃fx,(t.base:Int)+(t.rate:Int)*p.am=fx:=⟨_,rfl⟩;rw[B1]at A0 ⊢;clear R1 S1 T1 z0 z1 z2 zp B1 P1
      cases b with
      |none=>
       have e1:bi= -1:=g0.o.symm;subst e1
       have M:U (YK r.cheapest (XO rts p.am) (Vh rts l) (r.routes.drop (j+1)) (I x)=s):=by have e:=HB.o;unfold YK at e;rw[HQ.o,if_neg (by simp)]at e;exact e
       clear HB;go_wp2_with fail;go_roundg (Q-(j+1))
       case measure=>omega
       exact⟨j+1,I x,by omega,rfl,rfl,by show j4 _ _=j4 _ (XO rts p.am x);rw[A0.o],by go_num,M,h0,fun y h=>by injection h with h;subst h;exact q1.o⟩
      |some y=>
       have M:U (YK r.cheapest (XO rts p.am) (Vh rts l) (r.routes.drop (j+1)) (if(r.cheapest&&decide (fx<bf))=true then I x else I y)=s):=by
        have e:=HB.o;unfold YK at e;rw[HQ.o,if_neg (by simp)]at e;have e2:bf=XO rts p.am y:=B0.o.symm;rw[e2,<-A0.o];exact e
       have W1:¬bi<0:=by have:bi=(y:Int):=g0.o.symm;omega
       clear HB;rcases Bool.eq_false_or_eq_true r.cheapest with u|u
       rotate_left
       ·rw[u]at A1
        have S:U (YK r.cheapest (XO rts p.am) (Vh rts l) (r.routes.drop (j+1)) (I y)=s):=by have e:=M.o;simp only[u,k0,j5,if_false]at e;rw[u];exact e
        clear u M;go_wp2_with fail;go_roundg (Q-(j+1))
        case measure=>omega
        exact⟨j+1,I y,by omega,rfl,by rw[g0.o],by rw[B0.o],by go_num,S,h0,r0⟩
       rw[u]at A1
       by_cases C1:fx<bf
       ·have S:U (YK r.cheapest (XO rts p.am) (Vh rts l) (r.routes.drop (j+1)) (I x)=s):=by have e:=M.o;simp only[u,q4,C1,decide_true,if_true]at e;rw[u];exact e
        clear u M;go_wp2_with fail;go_roundg (Q-(j+1))
        case measure=>omega
        exact⟨j+1,I x,by omega,rfl,rfl,by show j4 _ _=j4 _ (XO rts p.am x);rw[A0.o],by go_num,S,h0,fun y h=>by injection h with h;subst h;exact q1.o⟩
       have S:U (YK r.cheapest (XO rts p.am) (Vh rts l) (r.routes.drop (j+1)) (I y)=s):=by have e:=M.o;simp only[u,q4,C1,decide_false,j5,if_false]at e;rw[u];exact e
       clear u M;go_wp2_with fail;go_roundg (Q-(j+1))
       case measure=>omega
       exact⟨j+1,I y,by omega,rfl,by rw[g0.o],by rw[B0.o],by go_num,S,h0,r0⟩
    have O1:¬(j:Int)<(Q:Int):=by omega
    have X1:b=s:=by
     have e:=HB.o;rw[dL (by have:=p1.o;omega)]at e;exact e
    subst X1;have E:=b0.o.whole K.o;have f2:P+1<wr.heap.size:=(iA.1 E).1;have o0:=Zc E 0;have o1:=Zc E 1;have o2:=Zc E 2;have J0:=bF E 0;have K0:=bF E 1;have L0:=bF E 2;generalize O6 rts p.am b=bf at*
    cases b with
    |none=>
     have HD:U (TR rts R p (Vh rts l)=(4,r.name,z6)):=D0.o;unfold VW;go_wp2_with fail;have B:=JH (v0:=J V 4) (v1:=Z r.name) (v2:=Z ⟨#[]⟩) E;have s0:=Zc B 0;have s1:=Zc B 1;have s2:=Zc B 2;refine bodyPost_ret (v:=j6 #[J V 4,Z r.name,Z ⟨#[]⟩]) (by simp[results,Tryz.results56,go_sem,s0,s1,s2]) rfl ⟨by rw[HD.o];rfl,?_⟩;exact((T.o.setCell (p:=⟨P+1,0,Y⟩) (D n) _).setCell (p:=⟨P+1,1,Y⟩) (D n) _).setCell (p:=⟨P+1,2,Y⟩) (D n) _
    |some y=>
     have D1:=r0.o y rfl;obtain⟨t,ht⟩:∃t,rts[y]?=I t:=⟨_,gE D1⟩;obtain⟨rg,rfl,t0,_,_⟩:=w0 y t ht
     have HD:U (TR rts R p (Vh rts l)=(0,r.name,t.name)):=by show _=_;rw[D0.o];simp only[Mq,Mn,ht]
     have g2:(y:Int)<(rts.length:Int):=by omega
     have W1:¬(y:Int)<0:=by omega
     unfold VW;clear w0 ht D1 R0;go_upto_region 24 with fail
     go_region
     go_wp2_with fail;have B:=JH (v0:=J V 0) (v1:=Z r.name) (v2:=Z t.name) E;have s0:=Zc B 0;have s1:=Zc B 1;have s2:=Zc B 2;refine bodyPost_ret (v:=j6 #[J V 0,Z r.name,Z t.name]) (by simp[results,Tryz.results56,go_sem,s0,s1,s2]) rfl ⟨by rw[HD.o];rfl,?_⟩;exact(((T.o.setCell (p:=⟨P+1,0,Y⟩) (D n) _).setCell (p:=⟨P+1,1,Y⟩) (D n) _).setCell (p:=⟨P+1,2,Y⟩) (D n) _).drew
theorem Ho (m:Nat)(h:m<16):k9.wrap (97+(m:Int))=(97+(m:Int)):=by
 have:m=0\/m=1\/m=2\/m=3\/m=4\/m=5\/m=6\/m=7\/m=8\/m=9\/m=10\/m=11\/m=12\/m=13\/m=14\/m=15:=by omega
 rcases this with rfl|rfl|rfl|rfl|rfl|rfl|rfl|rfl|rfl|rfl|rfl|rfl|rfl|rfl|rfl|rfl<;>decide
theorem To {P w F v o a Q}(M:o.guard=Y)(s x t)(U:o.op=.call {callee:=.builtin .append,args:=#[s,x],argTypes:=#[t,t]})(base e i z f p)(T:P.underlying t=I (.slice e))(hi:P.info? e=I i)(V:i.zero=I z)(A:i.size=f)(DU:i.bytes=p)(N:z.cells.size=f)(g0 n b E)(W:a.eval s=.slice (I ⟨g0,0,Y⟩) n b)(l:w.ownsRow base e f (.slice (I ⟨g0,0,Y⟩) n b) n E)(G m c d)(X:a.eval x=.slice (I G) m c)(L:d.length=m*f)(q:∀j u,d[j]?=I u->w.cell? (G.add j)=I u)(Z:∀u∈d,u.oneCell'=true)(J:n+m<=maxLen)(r:(n+m)*p<=140737488355328)(B:base<=w.heap.size)(H)(hH:w.heap.size=H)(h:∀g cap w',w'.ownsRow base e f (.slice (I ⟨g,0,Y⟩) (n+m) cap) (n+m) (E++d)->((g=g0/\w.grownBy w' (I g0))\/(g=H/\w.grownBy w' Y))->wpList P F Q v (a.put o.dst (.slice (I ⟨g,0,Y⟩) (n+m) cap)) w'):wpList P F Q (o::v) a w:=by
 subst A DU hH
 have O:∃g cap w',(Builtin.append_ #[t,t] o.type #[.slice (I ⟨g0,0,Y⟩) n b,.slice (I G) m c]).run P w=.ok (.slice (I ⟨g,0,Y⟩) (n+m) cap) w'/\w'.ownsRow base e i.size (.slice (I ⟨g,0,Y⟩) (n+m) cap) (n+m) (E++d)/\((g=g0/\w.grownBy w' (I g0))\/(g=w.heap.size/\w.grownBy w' Y)):=by
  by_cases C:n+m<=b
  ·obtain⟨w',r1,r2,r3⟩:=run_append_fits w base t o.type e i i.size T hi rfl g0 n b E l G m c d L q Z C
   exact⟨g0,b,w',r1,r2,y1 ⟨rfl,r3⟩⟩
  have y:(E++d).length=(n+m)*i.size:=by rw[lA,l.1,L,k7]
  have R:=run_append_grow (P:=P) w t o.type e i z T hi V ⟨g0,0,Y⟩ n b E l.1 (l.cells (g:=g0) rfl) G m c d L q (by omega) (by simp only[maxLen]at J;omega) (growslice_fits (by omega) r);have S:=grownCap_ge w (n+m) b e;refine⟨_,_,_,R,⟨y,.inr ⟨w.heap.size,_,_,rfl,B,aN w.drew _,S,grownCap_le_maxLen w (n+m) b e J,?_,?_⟩⟩,D ⟨rfl,⟨rfl,rfl,rfl,by simp,fun k hk _=>heap_alloc_old w.drew _ hk⟩⟩⟩
  ·simp only[Array.size_append,List.size_toArray,size_zeroCells,N,l.1,L,<-k7]
   congr 1
   omega
  simp only[Array.toList_append,List.append_assoc]
  rw[<-List.append_assoc,<-y];exact List.take_left
 obtain⟨g,cap,w',R,h2,h3⟩:=O
 refine wpList_plain M fun K hK=>?_
 unfold Oper.wp execOp;simp only[U,resolve,invoke,builtin,Sem.run_bind,Sem.run_pure,Result.andThen_ok,List.map_toArray,List.map_cons,List.map_nil,W,X,R];exact hK _ _ (h g cap w' h2 h3)
structure J9 where
 a:Option Addr
 n:Nat
 c:Nat
 m:ByteArray
def J9.val (e:J9):j1:=O e.a e.n e.c

theorem Dt {P f a w E Q}(h:z4 P f a w fun e w'=>e=E/\w'=w)(k:Q E w):z4 P f a w Q:=cf h fun _ e=>e▸k
theorem Rq (n d R w)(c:d<=6)(f:n*10^(6-d)=R)(h:R<=1000000):
  z4 G 137 #[J V (n:Nat),J V (d:Nat)] w fun e w'=>e=L (J V (R:Nat))/\w'=w:=by
 have g:=Za f;have i:=Za h;go_enter Tryz.func137,Tryz.ntmps137;go_wp2_with fail
 go_loopg [0,1] (6-d) (fun m j l wr=>∃x k:Nat,k<=6/\m=6-k/\j=J V (x:Nat)/\l=J V (k:Nat)/\wr=w/\U (x*10^(6-k)=R))
 case atStart=>exact⟨n,d,c,rfl,rfl,rfl,rfl,g⟩
 obtain⟨x,k,r,rfl,rfl,rfl,rfl,a⟩:=hrel;have s:x<=1000000:=k4 (Nat.le_mul_of_pos_right _ (k8 (by decide))) (a.o▸i.o);by_cases p:k<6
 ·have b:(k:Int)<6:=by omega
  have q:U ((10*x)*10^(6-(k+1))=R):=by
   show _=_;rw[<-a.o,show 6-k=(6-(k+1))+1 from by omega,Nat.pow_succ]
   rw[k6 10 x,Nat.mul_assoc,k6 10]
  go_wp2_with fail;go_roundg (6-(k+1))
  case measure=>omega
  exact⟨10*x,k+1,by omega,rfl,by go_num,by go_num,rfl,q⟩
 have b:¬(k:Int)<6:=by omega
 have e:x=R:=by have:=a.o;rw[show 6-k=0 from by omega]at this;simpa using this
 subst e;go_wp2_with fail;go_ret;exact⟨rfl,rfl⟩
def Rs (w:k3)(b:Nat)(l:List (j1×List Nat)):Prop:=
 (∀p,p∈l->w.ownsRow b 3 1 p.1 p.2.length (Zg p.2))/\l.Pairwise fun p q=>∀k,p.1.ownBlock=I k->q.1.ownBlock≠I k
theorem Rs.turn {w w' b v v' l l' r}(h:Rs w b ((v,l)::r))(i:Fr (fun k=>v.ownBlock=I k) w w')(j:w'.ownsRow b 3 1 v' l'.length (Zg l'))(m:∀k,v'.ownBlock=I k->v.ownBlock=I k\/w.heap.size<=k):Rs w' b ((v',l')::r):=by
 obtain⟨f,a⟩:=h;rw[List.pairwise_cons]at a;refine⟨fun p c=>?_,List.pairwise_cons.2 ⟨fun q g k d e=>?_,a.2⟩⟩
 ·rcases List.mem_cons.1 c with rfl|c
  ·exact j
  exact oA (f p (List.mem_cons_of_mem _ c)) i (fun k d e=>a.1 p c k e d)
 rcases m k d with h|h
 ·exact a.1 q g k h e
 have:=((f q (List.mem_cons_of_mem _ g)).lt k e).2
 omega
theorem Rs.rot {w b p r}(h:Rs w b (p::r)):Rs w b (r++[p]):=
 have e:=List.perm_append_singleton p r
 ⟨fun q a=>h.1 q (e.mem_iff.1 a),(e.symm.pairwise_iff (fun h k c e=>h k e c)).1 h.2⟩
theorem Rs.fr {w w' b l S}(h:Rs w b l)(a:Fr S w w')(c:∀k,S k->k<b:=by simp):Rs w' b l:=⟨fun p d=>oF (h.1 p d) a c,h.2⟩
theorem Rs.grow {w e w2 b g n c v l l' r}(h:Rs w b ((v,l)::r))(i:Fr (fun k=>v.ownBlock=I k) w e)(j:e.grownBy w2 v.ownBlock)(m:w2.ownsRow b 3 1 (O (I ⟨g,0,Y⟩) n c) l'.length (Zg l'))(a:v.ownBlock=I g\/w.heap.size<=g):
  Rs w2 b ((O (I ⟨g,0,Y⟩) n c,l')::r)/\Fr (fun k=>v.ownBlock=I k) w w2:=by
 have f:=i.grown j (fun k d=>y1 d);refine⟨h.turn f m (fun k d=>?_),f⟩
 obtain rfl:k=g:=by simpa[Value.ownBlock]using d.symm
 exact a
theorem V5 (l)(n:Nat):Ul l (n:Int)=true↔n∈l:=by
 induction l with
 |nil=>simp[Ul]
 |cons x r a=>rw[Hl,j9,a,beq_iff_eq,List.mem_cons];exact or_congr_left ⟨fun h=>by omega,fun h=>by omega⟩
theorem C5 (w b v l r n m)(M:Int)(E:M=(m:Nat))(h:Rs w b ((v,l)::r))(z:l.length<=4000)(Q:n<=10000000000)(R:b<=w.heap.size):
  z4 G 182 #[v,J V (n:Nat),J V M] w fun e w'=>∃v' l',e=L v'/\Rs w' b ((v',l')::r)/\(l'=l/\(n<=m->n∈l)\/l'=l++[n]/\n<=m)/\Fr (fun k=>v.ownBlock=I k) w w':=by
 obtain⟨F,hi,s,t,u⟩:=info_parts Y2;have d:=Za (h.1 _ (List.mem_cons_self ..));obtain⟨A,c,e⟩:=oL d.o
 dsimp only at e d
 subst e E;have B:=Za (Rp w A c l n (Zu.of d.o) z);have q:=Za h;obtain⟨N,C⟩:∃N,l.length=N:=⟨_,rfl⟩;have H:=Za C;rw[C]at z B d q ⊢;go_enter Tryz.func182,Tryz.ntmps182;go_wp2_with fail;refine Dt B.o ?_
 have K:¬(n:Int)<0:=by omega
 cases x:Ul l (n:Int)with
 |true=>
  have P:=Za ((V5 l n).1 x);go_wp2_with fail;go_ret;exact⟨_,l,rfl,q.o,y1 ⟨rfl,fun _=>P.o⟩,Zt⟩
 |false=>
  by_cases f:n<=m
  ·have i:¬(m:Int)<(n:Int):=by omega
   go_wp2_with (at_builtin;refine wpList_append_lies _ rfl (.tmp 22) (.tmp 24) 25 rfl b 3 F _ 1 8 Tryz.underlying25 hi s t u rfl (by decide) (O A N c) N (Zg l) rfl ?a1 ⟨w.heap.size,0,Y⟩ 1 1 [J V (n:Nat)] rfl rfl ?a2 ?a3 (by decide) ?a4 ?a5 ?a6 _ rfl ?_)
   case a1=>exact d.o.alloc _
   case a2=>exact World.news_of_block (aN w (z5 #[J V (n:Nat)] 3))
   case a3=>simp[Value.oneCell']
   case a4=>unfold maxLen;omega
   case a5=>omega
   case a6=>simp;omega
   intro g cap w2 j a y _;have p:=Za (q.o.grow (Zt.alloc _) a (l':=l++[n]) (by rw[XU,lA,H.o];exact j) (y.imp id (by omega)));go_wp2_with fail;go_ret;exact⟨_,_,rfl,p.o.1,D ⟨rfl,f⟩,p.o.2⟩
  have i:(m:Int)<(n:Int):=by omega
  go_wp2_with fail;go_ret;exact⟨_,l,rfl,q.o,y1 ⟨rfl,fun h=>absurd h f⟩,Zt⟩
def Qn (a b:List Nat):Bool:=a.any (fun x=>Ul b (x:Int))||(a.isEmpty||b.isEmpty)
theorem Du (a b):Qn a b=true↔a=[]\/b=[]\/∃x,x∈a/\x∈b:=by
 simp only[Qn,j9,List.any_eq_true,V5,List.isEmpty_iff]
 constructor
 ·rintro(h|h|h)
  ·exact D (D h)
  ·exact y1 h
  exact D (y1 h)
 rintro(h|h|h)
 ·exact D (y1 h)
 ·exact D (D h)
 exact y1 h
theorem Oz (w a n c v l b)(h:Zu w a l)(p:Zu w n b)(F:l.length<=4000)(d:b.length<=4000):
  z4 G 138 #[O a l.length c,O n b.length v] w fun e w'=>e=L (z3 (Qn l b))/\w'=w:=by
 have H:=Za h;have y:=Za (fun x:Nat=>Rp w n v b x p d);obtain⟨m,z⟩:∃m,l.length=m:=⟨_,rfl⟩;have r:=Za z;obtain⟨s,f⟩:∃m,b.length=m:=⟨_,rfl⟩;have t:=Za f;rw[z]at F ⊢;rw[f]at d y ⊢;go_enter Tryz.func138,Tryz.ntmps138;go_wp2_with fail
 go_loopg [5] m (fun q i wr=>∃k:Nat,k<=m/\q=m-k/\i=J V k/\wr=w/\U (l.any (fun x=>Ul b (x:Int))=(l.drop k).any fun x=>Ul b (x:Int)))
 case atStart=>exact⟨0,z8 _,rfl,rfl,rfl,rfl⟩
 obtain⟨k,P,rfl,rfl,rfl,A⟩:=hrel;by_cases K:k<m
 ·have u:(k:Int)<(m:Int):=by omega
  obtain⟨x,B⟩:∃x,l[k]?=I x:=⟨_,gE (by have:=r.o;omega)⟩;obtain⟨g,rfl,Q⟩:=H.o k x B
  have j:U (l.any (fun x=>Ul b (x:Int))=(Ul b (x:Int)||(l.drop (k+1)).any fun x=>Ul b (x:Int))):=by
   obtain⟨M,p⟩:=iG.1 B
   show _=_;rw[A.o,dC M,p,List.any_cons]
  go_wp2_with fail;refine Dt (y.o x) ?_
  cases C:Ul b (x:Int)with
  |true=>
   rw[C,q6]at j;go_wp2_with fail;go_ret;exact⟨by rw[Qn,j.o,q6];rfl,rfl⟩
  |false=>
   rw[C,q3]at j;go_wp2_with fail;go_roundg (m-(k+1))
   case measure=>omega
   exact⟨k+1,by omega,rfl,by go_num,rfl,j⟩
 have u:¬(k:Int)<(m:Int):=by omega
 have D:U (Qn l b=(decide (m=0)||decide (s=0))):=by
  show _=_;rw[Qn,A.o,dL (by have:=r.o;omega),<-r.o,<-t.o]
  cases l<;>cases b<;>rfl
 by_cases E:m=0
 ·subst E
  have N:=D.o;go_wp2_with fail;go_ret;exact⟨rfl,rfl⟩
 have N:((m:Int)==0)=false:=by simp;omega
 have R:Qn l b=((s:Int)==0):=by
  rw[D.o,decide_eq_false E,q3];by_cases h:s=0
  ·subst h;rfl
  rw[decide_eq_false h];symm;simp;omega
 go_wp2_with fail;go_ret;exact⟨rfl,rfl⟩
theorem Ed {S w W o}(h:w.alloc o=W):Fr S w W:=h▸Zt.alloc _
theorem BW {w W:k3}{o}(h:w.alloc o=W):W.heap[w.heap.size]?=I o:=h▸aN w _
theorem vH {w:k3}{g o r a b c d e f}(h:∀j v,(uL r a d b e c f)[j]?=I v->w.cell? ⟨g,o+j,Y⟩=I v):
  w.cell? ⟨g,o,Y⟩=I (Z r.name)/\w.cell? ⟨g,o+1,Y⟩=I (J V (r.rank:Nat))/\w.cell? ⟨g,o+2,Y⟩=I (J V (r.digits:Nat))/\w.cell? ⟨g,o+3,Y⟩=I (J V (r.lo:Nat))/\w.cell? ⟨g,o+4,Y⟩=I (J V (r.hi:Nat))/\w.cell? ⟨g,o+5,Y⟩=I (O a r.mcc.length d)/\w.cell? ⟨g,o+6,Y⟩=I (O b r.cur.length e)/\w.cell? ⟨g,o+7,Y⟩=I (z3 r.am.isSome)/\w.cell? ⟨g,o+8,Y⟩=I (J V ((r.am.getD (0,0)).1:Nat))/\w.cell? ⟨g,o+9,Y⟩=I (J V ((r.am.getD (0,0)).2:Nat))/\w.cell? ⟨g,o+10,Y⟩=I (O c r.routes.length f)/\w.cell? ⟨g,o+11,Y⟩=I (z3 r.decline)/\w.cell? ⟨g,o+12,Y⟩=I (z3 r.cheapest):=
 ⟨h 0 _ rfl,h 1 _ rfl,h 2 _ rfl,h 3 _ rfl,h 4 _ rfl,h 5 _ rfl,h 6 _ rfl,h 7 _ rfl,h 8 _ rfl,h 9 _ rfl,h 10 _ rfl,h 11 _ rfl,h 12 _ rfl⟩
def sL (r:Ze):Nat:=r.lo*10^(6-r.digits)
def sH (r:Ze):Nat:=(r.hi+1)*10^(6-r.digits)
def aL (r:Ze):Nat:=(r.am.getD (0,1000000000)).1
def aH (r:Ze):Nat:=(r.am.getD (0,1000000000)).2
theorem MI {n r}(h:Tc n r):sL r<=1000000/\sH r<=1000000:=by
 obtain⟨a,b,c⟩:=h.bn
 have e:10^r.digits*10^(6-r.digits)=1000000:=by rw[<-Nat.pow_add,show r.digits+(6-r.digits)=6 from by omega]
 exact⟨e▸j2 _ (by omega),e▸j2 _ (by omega)⟩
def vI (r s:Ze):Bool:=decide (max (sL r) (sL s)<min (sH r) (sH s))&&(Qn r.mcc s.mcc&&(Qn r.cur s.cur&&decide (max (aL r) (aL s)<=min (aH r) (aH s))))
theorem JL (w q rts R i k r s)(h:Sm w q rts R)(K:Yx rts R)(hi:R[i]?=I r)(hk:R[k]?=I s):
  z4 G 85 #[q7 (I ⟨q,0,Y⟩),J V (i:Nat),J V (k:Nat)] w fun e w'=>e=L (z3 (vI r s))/\F0 w w':=by
 obtain⟨la,lc,M,h3⟩:=h.c2;obtain⟨g,ma,mc,ca,cc,pa,pc,rfl,hc,hm,hu,_⟩:=h3 i r hi;obtain⟨g',N,a0,O,b0,l0,m0,e,c0,d0,e0,_⟩:=h3 k s hk;injection e with e;injection e with e _ _;subst e
 have n0:(i:Int)<(R.length:Int):=by have:=(iG.1 hi).1;omega
 have o0:(k:Int)<(R.length:Int):=by have:=(iG.1 hk).1;omega
 have f:=Za (K.rl r (mG hi));have y:=Za (K.rl s (mG hk));obtain⟨v0,v1,v2,v3,v4,v5,v6,v7,v8,v9,f0,g0,h0⟩:=vH hc;have HC:=Za c0;have HM:=Za (And.intro hm (And.intro hu (And.intro d0 e0)));have H2:=Za M;go_enter Tryz.func85,Tryz.ntmps85;go_upto_region 2 with fail;generalize P:w.alloc _=W1 at*;have Q:U (F0 w W1):=Ed P;have i0:=Za (BW P)
 have kk:∀{X o:Nat}{v:j1},w.cell? ⟨X,o,Y⟩=I v->W1.cell? ⟨X,o,Y⟩=I v:=fun{X o v} hv=>(Q.o.cell (p:=⟨X,o,Y⟩) (bL w _ hv)).trans hv
 have p0:=kk H2.o
 obtain⟨v0,v1,v2,v3,v4,v5,v6,v7,v8,v9,f0,g0,h0⟩:=vH fun j v e=>kk (HC.o j v e)
 go_upto_region 3 with fail;generalize P:W1.alloc _=x at*;have S:U (F0 W1 x):=Ed P;have l:=Za (BW P);have m:=Za (S.o.whole i0.o);have C:=Za (Q.o.trans S.o);have z:U (Zu x ma r.mcc/\Zu x ca r.cur/\Zu x N s.mcc/\Zu x O s.cur):=⟨HM.o.1.fr C.o,HM.o.2.1.fr C.o,HM.o.2.2.1.fr C.o,HM.o.2.2.2.fr C.o⟩;have x2:=Zc m.o 2;have x3:=Zc m.o 3;have x4:=Zc m.o 4;have x5:=Zc m.o 5;have x6:=Zc m.o 6;have x7:=Zc m.o 7;have x8:=Zc m.o 8;have x9:=Zc m.o 9;have y2:=Zc l.o 2;have y3:=Zc l.o 3;have y4:=Zc l.o 4;have y5:=Zc l.o 5;have y6:=Zc l.o 6;have y7:=Zc l.o 7;have y8:=Zc l.o 8;have y9:=Zc l.o 9;have dr:=f.o.bn.1;have ds:=y.o.bn.1;have br:r.lo<=1000000000/\r.hi<=1000000000:=⟨by have:=f.o.lo.1;omega,by have:=f.o.hi.1;omega⟩;have bs:s.lo<=1000000000/\s.hi<=1000000000:=⟨by have:=y.o.lo.1;omega,by have:=y.o.hi.1;omega⟩;obtain⟨q0,r0⟩:=br;obtain⟨s0,t0⟩:=bs;have S1:=Za (Rq r.lo r.digits _ x dr rfl (MI f.o).1);have S2:=Za (Rq (r.hi+1) r.digits _ x dr rfl (MI f.o).2);have S3:=Za (Rq s.lo s.digits _ x ds rfl (MI y.o).1);have S4:=Za (Rq (s.hi+1) s.digits _ x ds rfl (MI y.o).2);have S5:=Za (Oz x ma N mc a0 _ _ z.o.1 z.o.2.2.1 f.o.mc.1 y.o.mc.1);have S6:=Za (Oz x ca O cc b0 _ _ z.o.2.1 z.o.2.2.2 f.o.cu.1 y.o.cu.1);obtain⟨a,ha⟩:∃a,r.lo*10^(6-r.digits)=a:=⟨_,rfl⟩;obtain⟨b,K⟩:∃a,(r.hi+1)*10^(6-r.digits)=a:=⟨_,rfl⟩;obtain⟨c,hc⟩:∃a,s.lo*10^(6-s.digits)=a:=⟨_,rfl⟩;obtain⟨d,hd⟩:∃a,(s.hi+1)*10^(6-s.digits)=a:=⟨_,rfl⟩;rw[ha]at S1;rw[K]at S2;rw[hc]at S3;rw[hd]at S4
 have t:U (vI r s=(decide (max a c<min b d)&&(Qn r.mcc s.mcc&&(Qn r.cur s.cur&&decide (max (aL r) (aL s)<=min (aH r) (aH s)))))):=by show _=_;rw[vI,sL,sL,sH,sH,ha,K,hc,hd]
 have HA:U (r.am.isSome=true->aL r=(r.am.getD (0,0)).1/\aH r=(r.am.getD (0,0)).2):=by show _->_;unfold aL aH;cases r.am<;>simp
 have W:U (r.am.isSome=false->aL r=0/\aH r=1000000000):=by show _->_;unfold aL aH;cases r.am<;>simp
 have HB:U (s.am.isSome=true->aL s=(s.am.getD (0,0)).1/\aH s=(s.am.getD (0,0)).2):=by show _->_;unfold aL aH;cases s.am<;>simp
 have Z:U (s.am.isSome=false->aL s=0/\aH s=1000000000):=by show _->_;unfold aL aH;cases s.am<;>simp
 have HH:U (aH r<=1000000000):=by
  show _<=_
  unfold aH
  cases e:r.am with
  |none=>simp
  |some ab=>have:=f.o.am ab e;simp;omega
 generalize(s.am.getD (0,0)).1=sl at*;generalize(s.am.getD (0,0)).2=sh at*;generalize(r.am.getD (0,0)).1=rl at*;generalize(r.am.getD (0,0)).2=rh at*;generalize r.am.isSome=ra at*;generalize s.am.isSome=sa at*
 have e1:∀n:Nat,((n+1:Nat):Int)=(n:Int)+1:=fun n=>by omega
 rw[e1]at S2 S4;go_wp2_with fail;refine Dt S1.o ?_;go_wp2_with fail;refine Dt S2.o ?_;go_wp2_with fail;refine Dt S3.o ?_
 go_upto_if 46 with fail
 go_cut [9] (fun u A=>u=J V ((max a c:Nat):Int)/\x=A)
 case first=>
  by_cases D:a<c
  ·have E:(a:Int)<(c:Int):=by omega
   go_wp2_with fail;refine Dt S3.o ?_;go_wp2_with fail;go_meet;exact⟨by rw[j7 (by omega)],rfl⟩
  have E:¬(a:Int)<(c:Int):=by omega
  go_wp2_with fail;go_meet;exact⟨by rw[q8 (by omega)],rfl⟩
 obtain⟨rfl,rfl⟩:=hcut;generalize max a c=F at*;go_wp2_with fail;refine Dt S4.o ?_
 go_upto_if 59 with fail
 go_cut [10] (fun u A=>u=J V ((min b d:Nat):Int)/\x=A)
 case first=>
  by_cases D:d<b
  ·have E:(d:Int)<(b:Int):=by omega
   go_wp2_with fail;refine Dt S4.o ?_;go_wp2_with fail;go_meet;exact⟨by rw[j8 (by omega)],rfl⟩
  have E:¬(d:Int)<(b:Int):=by omega
  go_wp2_with fail;go_meet;exact⟨by rw[q9 (by omega)],rfl⟩
 obtain⟨rfl,rfl⟩:=hcut;generalize min b d=T at*;go_wp2_with fail;refine Dt S5.o ?_;go_wp2_with fail;refine Dt S6.o ?_
 go_upto_if 77 with fail
 go_cut [13,14] (fun u v A=>u=J V ((aL r:Nat):Int)/\v=J V ((aH r:Nat):Int)/\x=A)
 case first=>
  cases ra with
  |true=>
   go_wp2_with fail;go_meet;exact⟨by rw[(HA.o (by simp)).1],by rw[(HA.o (by simp)).2],rfl⟩
  |false=>
   go_wp2_with fail;go_meet;exact⟨by rw[(W.o (by simp)).1];rfl,by rw[(W.o (by simp)).2];rfl,rfl⟩
 obtain⟨rfl,rfl,rfl⟩:=hcut;generalize aL r=H at*;generalize aH r=B at*
 cases sa
 case' false=>
  rw[(Z.o rfl).1,(Z.o rfl).2,q8 (z8 _),q9 HH.o]at t;go_upto_region 20 with fail;obtain⟨l2,rfl⟩:∃l2,l2=H:=⟨_,rfl⟩;obtain⟨M,rfl⟩:∃M,M=B:=⟨_,rfl⟩
 case' true=>
  rw[(HB.o rfl).1,(HB.o rfl).2]at t
  go_upto_if 89 with fail
  go_cut [13] (fun u A=>u=J V ((max H sl:Nat):Int)/\x=A)
  case first=>
   by_cases D:H<sl
   ·have E:(H:Int)<(sl:Int):=by omega
    go_wp2_with fail;go_meet;exact⟨by rw[j7 (by omega)],rfl⟩
   have E:¬(H:Int)<(sl:Int):=by omega
   go_wp2_with fail;go_meet;exact⟨by rw[q8 (by omega)],rfl⟩
  case' rest=>
   obtain⟨rfl,rfl⟩:=hcut;generalize max H sl=l2 at*
   go_upto_if 99 with fail
   go_cut [14] (fun u A=>u=J V ((min B sh:Nat):Int)/\x=A)
   case first=>
    by_cases D:sh<B
    ·have E:(sh:Int)<(B:Int):=by omega
     go_wp2_with fail;go_meet;exact⟨by rw[j8 (by omega)],rfl⟩
    have E:¬(sh:Int)<(B:Int):=by omega
    go_wp2_with fail;go_meet;exact⟨by rw[q9 (by omega)],rfl⟩
   case' rest=>
    obtain⟨rfl,rfl⟩:=hcut;generalize min B sh=M at*
 all_goals
  by_cases B:F<T
  ·have j0:(F:Int)<(T:Int):=by omega
   rw[decide_eq_true B,q4]at t;generalize Qn r.mcc s.mcc=c1 at*;generalize Qn r.cur s.cur=c2 at*
   cases c1 with
   |false=>
    go_wp2_with fail;go_ret;exact⟨by rw[t.o];rfl,C.o⟩
   |true=>
    cases c2 with
    |false=>
     go_wp2_with fail;go_ret;exact⟨by rw[t.o];rfl,C.o⟩
    |true=>
     go_wp2_with fail;go_ret;exact⟨by rw[t.o];rfl,C.o⟩
  have j0:¬(F:Int)<(T:Int):=by omega
  rw[decide_eq_false B,k0]at t;go_wp2_with fail;go_ret;exact⟨by rw[t.o];rfl,C.o⟩
theorem Ee {l:List Nat}(a:0∈l):∀c,∃b,b∈l/\b<=c/\∀x,x∈l->x<=c->x<=b
 |0=>⟨0,a,C _,fun _ _ h=>h⟩
 |c+1=>by
  by_cases h:c+1∈l
  ·exact⟨c+1,h,C _,fun _ _ h=>h⟩
  obtain⟨b,f,i,g⟩:=Ee a c
  exact⟨b,f,by omega,fun x d j=>g x d (by have:x≠c+1:=fun e=>h (e▸d);omega)⟩
def Nd (l:List Nat)(m n:Nat)(Q:Nat->Prop):Prop:=(∀x,x∈l->x<=m)/\l.length<=n/\∀x,Q x->x<=m->x∈l
theorem Nd.more {l l' m n x Q}(h:Nd l m n Q)(g:l'=l/\(x<=m->x∈l)\/l'=l++[x]/\x<=m):Nd l' m (n+1) fun y=>Q y\/y=x:=by
 obtain⟨c,i,d⟩:=h;rcases g with⟨rfl,f⟩|⟨rfl,f⟩
 ·exact⟨c,by omega,fun y a b=>a.elim (fun h=>d y h b) fun e=>e▸f (e▸b)⟩
 refine⟨fun y a=>?_,by simp;omega,fun y a b=>?_⟩
 ·rcases List.mem_append.1 a with h|h
  ·exact c y h
  simp at h;omega
 rcases a with h|h
 ·exact List.mem_append_left _ (d y h b)
 simp[h]
theorem Nd.weak {l m n a Q Q'}(h:Nd l m n Q)(b:n<=a)(c:∀x,Q' x->Q x):Nd l m a Q':=⟨h.1,k4 h.2.1 b,fun x d=>h.2.2 x (c x d)⟩
theorem xu {r c}:(decide (r.lo<=c/10^(6-r.digits))&&decide (c/10^(6-r.digits)<=r.hi))=(decide (sL r<=c)&&decide (c<sH r)):=by
 have a:0<10^(6-r.digits):=k8 (by decide);rw[sL,sH,decide_eq_decide.2 (Nat.le_div_iff_mul_le a),decide_eq_decide.2 (show c/10^(6-r.digits)<=r.hi↔_ from Nat.lt_succ_iff.symm.trans (Nat.div_lt_iff_lt_mul a))]
theorem Us (r p):V4 r p=((decide (sL r<=Zy p.pan)&&decide (Zy p.pan<sH r))&&V9 r p):=by rw[V4,<-Bool.and_assoc,xu]
structure zx (R:List Ze)(bs ms am cs:List Nat):Prop where
 b:∃n,Nd bs 999999 n fun x=>x=0\/∃r,r∈R/\(x=sL r\/x=sH r)
 a:∃n,Nd am 1000000000 n fun x=>x=0\/∃r,r∈R/\∃ab,r.am=I ab/\(x=ab.1\/x=ab.2+1)
 m:(∃o,o∈ms/\∀r,r∈R->o∉r.mcc)/\∃n,Nd ms 9999 n fun x=>∃r,r∈R/\x∈r.mcc
 c:(∃o,o∈cs/\∀r,r∈R->o∉r.cur)/\∃n,Nd cs 999 n fun x=>∃r,r∈R/\x∈r.cur
theorem wm {R:List Ze}{f:Ze->List Nat}{l M}(h:(∃o,o∈l/\∀r,r∈R->o∉f r)/\∃n,Nd l M n fun x=>∃r,r∈R/\x∈f r){n:Int}(c:0<=n)(i:n<=M):∃x,x∈l/\∀r,r∈R->Ul (f r) (x:Int)=Ul (f r) n:=by
 obtain⟨⟨o,d,e⟩,k,j,m,g⟩:=h;obtain⟨y,rfl⟩:=Int.eq_ofNat_of_zero_le c;by_cases a:∃r,r∈R/\y∈f r
 ·exact⟨y,g y a (by omega),fun _ _=>rfl⟩
 refine⟨o,d,fun r b=>?_⟩
 rw[j0,V5,V5];exact⟨fun h=>absurd h (e r b),fun h=>absurd ⟨r,b,h⟩ a⟩
theorem zx.cover {R bs w y z}(h:zx R bs w y z){p}(n:Y5 p=true):
  ∃b m a c,b∈bs/\m∈w/\a∈y/\c∈z/\∀d:WC,Zy d.pan=b->d.mcc=(m:Int)->d.am=(a:Int)->d.cur=(c:Int)->∀r,r∈R->V4 r d=V4 r p:=by
 rw[Xu]at n;simp only[z7,VX,decide_eq_true_eq]at n;obtain⟨A,⟨B,C⟩,⟨E,V⟩,F,G⟩:=n;obtain⟨_,W,_,o⟩:=h.b;obtain⟨_,X,_,q⟩:=h.a;obtain⟨x,s⟩:=Int.eq_ofNat_of_zero_le E;have Y:=JG A;obtain⟨b,H,I,k⟩:=Ee (o 0 (y1 rfl) (by decide)) (Zy p.pan);obtain⟨a,J,K,l⟩:=Ee (q 0 (y1 rfl) (by decide)) x;obtain⟨m,L,t⟩:=wm (f:=Ze.mcc) h.m B C;obtain⟨c,u,v⟩:=wm (f:=Ze.cur) h.c F G;refine⟨b,m,a,c,H,L,J,u,fun d M N O P r i=>?_⟩;rw[Us,Us,V9,V9,M,N,P,t r i,v r i]
 have Q:(decide (sL r<=b)&&decide (b<sH r))=(decide (sL r<=Zy p.pan)&&decide (Zy p.pan<sH r)):=by
  have S:sL r<=Zy p.pan->sL r<=b:=fun g=>k _ (o _ (D ⟨r,i,y1 rfl⟩) (by omega)) g
  have T:sH r<=Zy p.pan->sH r<=b:=fun g=>k _ (o _ (D ⟨r,i,D rfl⟩) (by omega)) g
  rw[j0];simp only[z7,decide_eq_true_eq];omega
 have U:Mi r d=Mi r p:=by
  unfold Mi
  cases e:r.am with
  |none=>rfl
  |some j=>
   have S:j.1<=x->j.1<=a:=fun g=>l _ (q _ (D ⟨r,i,j,e,y1 rfl⟩) (by omega)) g
   have T:j.2+1<=x->j.2+1<=a:=fun g=>l _ (q _ (D ⟨r,i,j,e,D rfl⟩) (by omega)) g
   dsimp only
   rw[O,s,j0];simp only[z7,decide_eq_true_eq];omega
 rw[Q,U]
def xw (R:List Ze)(S:List WC):Prop:=S.length<=400000/\(∀p,p∈S->Y5 p=true)/\∀p,Y5 p=true->∃a,a∈S/\∀r,r∈R->V4 r a=V4 r p
def XQ (S:List WC):List j1:=S.flatMap fun p=>[Z p.pan,J V p.mcc,J V p.am,J V p.cur]
def Qo (R:List Ze)(p:WC):Option Nat:=YF (Zv R) (YX R p (Zy p.pan)) R.length
theorem OA {rk:Nat->Nat}{f g:Nat->Bool}:∀n,(∀i,i<n->f i=g i)->YF rk f n=YF rk g n
 |0,_=>rfl
 |n+1,h=>by
  unfold YF;rw[OA n fun i hi=>h i (by omega),h n (by omega)]
theorem xw.best {R S}(h:xw R S)(k):(∃p,p∈S/\Qo R p=I k)↔∃p,Y5 p=true/\Qo R p=I k:=by
 refine⟨fun⟨p,a,e⟩=>⟨p,h.2.1 p a,e⟩,fun⟨p,a,e⟩=>?_⟩;obtain⟨b,c,d⟩:=h.2.2 p a;refine⟨b,c,?_⟩;rw[<-e];unfold Qo
 refine OA _ fun i hi=>?_
 rw[Tn R b i _ (gE hi),Tn R p i _ (gE hi)];exact d _ (List.getElem_mem hi)
