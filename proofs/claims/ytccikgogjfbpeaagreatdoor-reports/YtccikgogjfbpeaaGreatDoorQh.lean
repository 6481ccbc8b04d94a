import Derived.Test.YtccikgogjfbpeaaGreatDoorQf
open Go.IntKind renaming i64->I
open Go.Value renaming int->J,string->S,oneCell'->G,slice->M,pointer->N,agg->R,int->T
open Option renaming none->P,some->V
open Go.RowKit renaming Hid->Y
open List renaming eq_nil_of_length_eq_zero->Z
open Go.Proofs.Tryz renaming prog->U
open Go.Ending renaming returned->K
open Go renaming World->O,Calls->H,Value->D
open Go.Obj renaming cells->E
namespace Go.Proofs.YtccikgogjfbpeaaGreatDoor
set_option maxRecDepth 30000
set_option maxHeartbeats 8000000
open Go.RowKit
theorem ML (a b:Tk)(w:O)(l:Int)(t:Dg a.text)(u:Dg b.text)(z:l=(1000000000:Nat)):
  H U 322 #[Uy (a,b),J I l] w fun e w'=>Vu (Ze a) (Ze b) b.line e/\F0 w w':=by
 have X:=QN a t;have Z:=QN b u
 have HA:Y (∀W,H U 316 #[R #[J I a.sort,S a.text,J I a.line],J I l] W fun e w'=>e=K (J I (Ze a))/\F0 W w'):=fun W=>Sj a W 1000000000 l t (by omega) z
 have HB:Y (∀W,H U 316 #[R #[J I b.sort,S b.text,J I b.line],J I l] W fun e w'=>e=K (J I (Ze b))/\F0 W w'):=fun W=>Sj b W 1000000000 l u (by omega) z
 have HC:Y (∀W,H U 320 #[R #[J I a.sort,S a.text,J I a.line,J I b.sort,S b.text,J I b.line]] W fun e w'=>Vu (Ze a) (Ze b) b.line e/\F0 W w'):=fun W=>LI a b W t u
 clear t u z X Z;generalize Ze a=x at*;generalize Ze b=y at*;unfold Uy;go_enter Tryz.func322,Tryz.ntmps322;go_wp2_with fail;have m:Y (((w.alloc (E #[J I a.sort,S a.text,J I a.line,J I b.sort,S b.text,J I b.line] 293)).alloc (E #[J I 0,J I 0] 118)).heap[w.heap.size]?=_):=((Fr.refl (fun _=>False) _).alloc _).whole (aN w _) (by simp);have n:Y (((w.alloc (E #[J I a.sort,S a.text,J I a.line,J I b.sort,S b.text,J I b.line] 293)).alloc (E #[J I 0,J I 0] 118)).heap[w.heap.size+1]?=_):=Vt w _ _;have q:Y (F0 w ((w.alloc (E #[J I a.sort,S a.text,J I a.line,J I b.sort,S b.text,J I b.line] 293)).alloc (E #[J I 0,J I 0] 118))):=((Fr.refl _ _).alloc _).alloc _;refine(HA.o _).mono ?_;rintro e w1 ⟨rfl,f⟩;have c:=f.whole m.o (by simp);have r:=f.whole n.o (by simp);have A:=Za (q.o.trans f);clear m n q f;have B:=bC c 0 _ rfl;have C:=bC c 1 _ rfl;have D:=bC c 2 _ rfl;have F:=bC c 3 _ rfl;have G:=bC c 4 _ rfl;have L:=bC c 5 _ rfl;have i:=Za c;have j:=Za r;clear c r;go_wp2_with fail;refine(HB.o _).mono ?_;rintro e w2 ⟨rfl,f⟩;have d:=f.whole i.o (by simp);have M:=Za (f.whole j.o (by simp));have s:=Za (A.o.trans f);clear f B C D F G L i j;have B:=bC d 0 _ rfl;have C:=bC d 1 _ rfl;have D:=bC d 2 _ rfl;have F:=bC d 3 _ rfl;have G:=bC d 4 _ rfl;have L:=bC d 5 _ rfl;clear d;go_wp2_with fail;refine(HC.o _).mono ?_;rintro e N ⟨Q,f⟩;by_cases g:x<=y
 ·obtain rfl:=(Vu.ok g).1 Q
  have h:=f.whole M.o (by simp);have T:=Za (s.o.trans f);have r0:=bC h 0 _ rfl;have r1:=bC h 1 _ rfl;have rf:=bF h;clear Q f h B C D F G L;simp only[RG];go_wp2;have hW:Fr (fun k=>w.heap.size<=k) N ((N.setCell ⟨w.heap.size+1,0,P⟩ (J I x)).setCell ⟨w.heap.size+1,1,P⟩ (J I y)):=((Fr.refl (fun k=>w.heap.size<=k) N).setCell (p:=⟨w.heap.size+1,0,P⟩) (Or.inl (Nat.le_succ _)) _).setCell (p:=⟨w.heap.size+1,1,P⟩) (Or.inl (Nat.le_succ _)) _;exact bodyPost_ret (v:=RG x y) (by simp[results,Tryz.results322,go_sem,RG, *]) rfl ⟨(Vu.ok g).2 rfl,T.o.monoNew hW (fun k hk=>Or.inr hk)⟩
 ·have V:=(Vu.bad g).1 Q
  unfold Zj at V;subst V;exact⟨rfl,(Vu.bad g).2 rfl,s.o.trans f⟩
def Zr (a:Nat):Nat->List Tk->Except (Nat×Nat) (List Nat)
 |_,[]=>.ok []
 |i,t::r=>if i=4 then .error (6,t.line)else if a<Ze t then .error (5,t.line)else
  match Zr a (i+1) r with
  | .error f=>.error f
  | .ok ns=>.ok (Ze t::ns)
def Zg (ns:List Nat):List D:=ns.map fun n:Nat=>T I (n:Int)
theorem YZ:(U.info? 3).map (fun i=>(i.zero,i.size,i.bytes))=V (V (J I 0),1,8):=by kernel_rfl
def Wh (r:Except (Nat×Nat) (List Nat))(w:O)(e:Ending)(w':O):Prop:=
 match r with
 | .ok ns=>(∃v,e=K v/\w'.ownsRow w.heap.size 3 1 v ns.length (Zg ns))/\F0 w w'
 | .error f=>e=Zj f.1 f.2/\F0 w w'
theorem Wh.ok {r:Except (Nat×Nat) (List Nat)}{w w':O}{e:Ending}{ns:List Nat}(h:r=.ok ns):Wh r w e w'↔(∃v,e=K v/\w'.ownsRow w.heap.size 3 1 v ns.length (Zg ns))/\F0 w w':=by subst h;exact Iff.rfl
theorem Wh.err {r:Except (Nat×Nat) (List Nat)}{w w':O}{e:Ending}{f:Nat×Nat}(h:r=.error f):Wh r w e w'↔e=Zj f.1 f.2/\F0 w w':=by subst h;exact Iff.rfl
def Xy (a:Nat)(b:List Nat)(i:Nat)(l:List Tk):Except (Nat×Nat) (List Nat):=
 match Zr a i l with
 | .error f=>.error f
 | .ok ns=>.ok (b++ns)
theorem MM (a:Nat)(b:List Nat)(i:Nat):Xy a b i []=.ok b:=by simp[Xy,Zr]
theorem Nu {a:Nat}{b:List Nat}{t:Tk}{r:List Tk}:Xy a b 4 (t::r)=.error (6,t.line):=by simp[Xy,Zr]
theorem MN {a:Nat}{b:List Nat}{i:Nat}{t:Tk}{r:List Tk}(h:i≠4)(c:a<Ze t):Xy a b i (t::r)=.error (5,t.line):=by simp[Xy,Zr,h,c]
theorem LJ {a:Nat}{b:List Nat}{i:Nat}{t:Tk}{r:List Tk}(h:i≠4)(c:¬a<Ze t):Xy a b i (t::r)=Xy a (b++[Ze t]) (i+1) r:=by
 simp only[Xy,Zr,if_neg h,if_neg c]
 cases Zr a (i+1) r<;>simp
theorem Pw {ts:List Tk}{j:Nat}{t:Tk}(b:ts[j]?=V t):ts.drop j=t::ts.drop (j+1):=by
 obtain⟨a,c⟩:=iG.1 b;rw[dC a,c]
theorem Xl (ns:List Nat)(n:Nat):Zg (ns++[n])=Zg ns++[J I n]:=by simp[Zg]
theorem Qg:∀(ts:List Tk)(j:Nat)(t:Tk),ts[j]?=V t->(Yb ts)[j*3]?=V (J I t.sort)/\(Yb ts)[j*3+1]?=V (S t.text)/\(Yb ts)[j*3+2]?=V (J I t.line)
 |[],j,t,h=>by simp at h
 |x::r,0,t,h=>by simp at h;subst h;exact⟨rfl,rfl,rfl⟩
 |x::r,j+1,t,h=>by
  have:=Qg r j t (by simpa using h)
  have e:Yb (x::r)=Pv x++Yb r:=by simp[Yb]
  have l:(Pv x).length=3:=rfl;rw[e];refine⟨?_,?_,?_⟩
  ·rw[aR (by omega),l,show(j+1)*3-3=j*3 from by omega];exact this.1
  ·rw[aR (by omega),l,show(j+1)*3+1-3=j*3+1 from by omega];exact this.2.1
  ·rw[aR (by omega),l,show(j+1)*3+2-3=j*3+2 from by omega];exact this.2.2
theorem QO {w:O}{base:Nat}{v:D}{ts:List Tk}(h:w.ownsRow base 263 3 v ts.length (Yb ts))(f:0<ts.length):
  ∃g cap,v=M (V ⟨g,0,P⟩) ts.length cap/\base<=g/\g<w.heap.size/\∀j t,ts[j]?=V t->w.cell? ⟨g,j*3,P⟩=V (J I t.sort)/\w.cell? ⟨g,j*3+1,P⟩=V (S t.text)/\w.cell? ⟨g,j*3+2,P⟩=V (J I t.line):=by
 obtain⟨g,cap,rfl,i,l⟩:=h.form f;refine⟨g,cap,rfl,i,l,fun j t m=>?_⟩;obtain⟨a,b,c⟩:=Qg ts j t m
 have d:∀k,(⟨g,0,P⟩:Addr).add k=⟨g,k,P⟩:=fun k=>by unfold Addr.add;split<;>simp_all
 have e:=h.cells (g:=g) rfl;exact⟨by have:=e _ _ a;rwa [d]at this,by have:=e _ _ b;rwa [d]at this,by have:=e _ _ c;rwa [d]at this⟩
theorem QP (w:O)(base:Nat)(v:D)(ts:List Tk)(a:Nat)(i1:Int)(h:w.ownsRow base 263 3 v ts.length (Yb ts))(L:∀t,t∈ts->Dg t.text)(d0:ts.length<=4000)(e1:i1=a):
  H U 321 #[v,J I i1] w (Wh (Zr a 0 ts) w):=by
 subst e1
 have HM:Y (Zr a 0 ts=Xy a [] 0 ts):=by show _=_;unfold Xy;cases Zr a 0 ts<;>simp
 obtain⟨ii,hi,N,Q,R⟩:=info_parts YZ;by_cases hn:0<ts.length
 ·obtain⟨g,cap,rfl,hb,S,d⟩:=QO h hn
  have HR:=Za d;have HD:=Za L;clear h d L hn;go_enter Tryz.func321,Tryz.ntmps321;go_wp2_with fail
  go_loopg [5,6,7,10] ts.length (fun m o _ _ c wr=>∃j b,j<=ts.length/\m=ts.length-j/\c=J I j/\Y (wr.ownsRow w.heap.size 3 1 o b.length (Zg b))/\Y (b.length=j)/\Y (F0 w wr)/\Y (Zr a 0 ts=Xy a b j (ts.drop j)))
  case atStart=>exact⟨0,[],Nat.zero_le _,rfl,rfl,oZ _ _ _ _,rfl,Fr.refl _ _,HM.o⟩
  case round=>
   obtain⟨j,b,hj,rfl,rfl,HO,HA,q,B⟩:=hrel;by_cases T:j<ts.length
   ·obtain⟨t,C⟩:∃t,ts[j]?=V t:=⟨_,gE T⟩
    have HT:=Za C;obtain⟨r0,r1,r2⟩:=HR.o j t C;rw[<-q.o.cell (p:=⟨g,j*3,P⟩) S (by simp)]at r0;rw[<-q.o.cell (p:=⟨g,j*3+1,P⟩) S (by simp)]at r1;rw[<-q.o.cell (p:=⟨g,j*3+2,P⟩) S (by simp)]at r2
    have W:(j:Int)<(ts.length:Int):=by omega
    have f:Y (ts.drop j=t::ts.drop (j+1)):=Pw C;clear C;by_cases h4:j=4
    ·have X:((j:Int)==4)=true:=by simp;omega
     have E:=Za h4;clear h4;go_wp2_with fail;refine(YC t 6 _ _ (by rfl)).mono ?_;rintro e s ⟨u,r⟩;unfold Zj at u;subst u;exact⟨rfl,(Wh.err (by rw[B.o,f.o,E.o];exact Nu)).2 ⟨rfl,(q.o.alloc _).trans r⟩⟩
    ·have X:((j:Int)==4)=false:=by simp;omega
     have E:=Za h4;clear h4;by_cases F:a<Ze t
     ·have x:=Za F
      clear F;go_wp2_with fail;refine(RF t _ a _ (HD.o t (mG HT.o)) x.o (by rfl)).mono ?_;rintro e s ⟨u,r⟩;unfold Zj at u;subst u;exact⟨rfl,(Wh.err (by rw[B.o,f.o];exact MN E.o x.o)).2 ⟨rfl,(q.o.alloc _).trans r⟩⟩
     ·have x:=Za F
      clear F;go_wp2_with fail;refine(Sj t _ a _ (HD.o t (mG HT.o)) (Nat.le_of_not_lt x.o) (by rfl)).mono ?_;rintro e s ⟨rfl,r⟩;have y:Y (F0 w s):=(q.o.alloc _).trans r;have z:Y (s.ownsRow w.heap.size 3 1 u5 b.length (Zg b)):=oF (HO.o.alloc _) r (by simp);have a0:Y (Zr a 0 ts=Xy a (b++[Ze t]) (j+1) (ts.drop (j+1))):=B.o.trans (by rw[f.o];exact LJ E.o x.o)
      have e0:b.length<=ts.length:=by have:=HA.o;omega
      have g0:=y.o.size;clear r r0 r1 r2;generalize Ze t=n at*
      go_wp2_with (at_builtin;refine wpList_append_lies _ rfl (.tmp 19) (.tmp 23) 25 rfl w.heap.size 3 ii _ 1 8 Tryz.underlying25 hi N Q R rfl (by decide) u5 b.length (Zg b) rfl ?h1 ⟨s.heap.size,0,P⟩ 1 1 [J I n] rfl rfl ?h2 ?h3 (by decide) ?h4 ?h5 ?h6 _ rfl ?h7)
      case h1=>exact z.o.alloc _
      case h2=>exact World.news_of_block (aN s _)
      case h3=>simp[G]
      case h4=>unfold maxLen;omega
      case h5=>omega
      case h6=>simp;omega
      case h7=>
       intro g2 f0 w4 l i _ _
       have d:∀k,u5.ownBlock=V k->w.heap.size<=k:=fun k hk=>(z.o.lt k hk).1
       have b0:=Za l;have c0:Y (F0 w w4):=(y.o.alloc _).grown i (fun k hk=>Or.inr (d k hk));clear i l d;go_wp2;go_roundg (ts.length-(j+1))
       case measure=>omega
       case rel=>
        refine⟨j+1,b++[n],by omega,rfl,by go_num,?_,?_,c0,a0⟩
        ·show World.ownsRow _ _ _ _ _ _ _
         rw[Xl,lA];exact b0.o
        ·show _=_
         have:=HA.o;simp;omega
   ·have W:¬(j:Int)<(ts.length:Int):=by omega
    have A:Y (Wh (Zr a 0 ts) w (K u5) wr):=by
     show Wh _ _ _ _
     refine(Wh.ok (ns:=b) ?_).2 ⟨⟨u5,rfl,HO.o⟩,q.o⟩;rw[B.o,dL (by omega)];exact MM _ _ _
    go_wp2;go_ret;exact A.o
 ·have hz:ts=[]:=Z (by omega)
  subst hz;rcases h.2 with⟨rfl,_⟩|⟨g,cap,h0,rfl,_⟩
  all_goals
   clear h L;go_enter Tryz.func321,Tryz.ntmps321;go_wp2_with fail
   go_loopg [5,6,7,10] 1 (fun m o _ _ c wr=>m=1/\o=M P 0 0/\c=J I 0/\wr=w)
   case atStart=>exact⟨rfl,rfl,rfl,rfl⟩
   case round=>
    obtain⟨rfl,rfl,rfl,rfl⟩:=hrel;go_wp2;go_ret;exact(Wh.ok (ns:=[]) rfl).2 ⟨⟨_,rfl,oZ _ _ _ _⟩,Fr.refl _ _⟩
structure Zd where
 name:ByteArray
 base:Nat
 rate:Nat
def Sk (r:Zd):List D:=[S r.name,J I r.base,J I r.rate]
def YU (rs:List Zd):List D:=rs.flatMap Sk
theorem PU (rs:List Zd)(r:Zd):YU (rs++[r])=YU rs++Sk r:=by simp[YU]
theorem U9:∀(rs:List Zd)(j:Nat)(r:Zd),rs[j]?=V r->(YU rs)[j*3]?=V (S r.name)/\(YU rs)[j*3+1]?=V (J I r.base)/\(YU rs)[j*3+2]?=V (J I r.rate)
 |[],j,t,h=>by simp at h
 |x::r,0,t,h=>by simp at h;subst h;exact⟨rfl,rfl,rfl⟩
 |x::r,j+1,t,h=>by
  have:=U9 r j t (by simpa using h)
  have e:YU (x::r)=Sk x++YU r:=by simp[YU]
  have l:(Sk x).length=3:=rfl;rw[e];refine⟨?_,?_,?_⟩
  ·rw[aR (by omega),l,show(j+1)*3-3=j*3 from by omega];exact this.1
  ·rw[aR (by omega),l,show(j+1)*3+1-3=j*3+1 from by omega];exact this.2.1
  ·rw[aR (by omega),l,show(j+1)*3+2-3=j*3+2 from by omega];exact this.2.2
theorem SZ {w:O}{base:Nat}{v:D}{rs:List Zd}(h:w.ownsRow base 148 3 v rs.length (YU rs))(f:0<rs.length):
  ∃g cap,v=M (V ⟨g,0,P⟩) rs.length cap/\base<=g/\g<w.heap.size/\∀j r,rs[j]?=V r->w.cell? ⟨g,j*3,P⟩=V (S r.name)/\w.cell? ⟨g,j*3+1,P⟩=V (J I r.base)/\w.cell? ⟨g,j*3+2,P⟩=V (J I r.rate):=by
 obtain⟨g,cap,rfl,i,l⟩:=h.form f;refine⟨g,cap,rfl,i,l,fun j t m=>?_⟩;obtain⟨a,b,c⟩:=U9 rs j t m
 have d:∀k,(⟨g,0,P⟩:Addr).add k=⟨g,k,P⟩:=fun k=>by unfold Addr.add;split<;>simp_all
 have e:=h.cells (g:=g) rfl;exact⟨by have:=e _ _ a;rwa [d]at this,by have:=e _ _ b;rwa [d]at this,by have:=e _ _ c;rwa [d]at this⟩
def Zk (a:ByteArray):Nat->List Zd->Int
 |_,[]=> -1
 |i,r::rs=>if(r.name.toList==a.toList)=true then(i:Int)else Zk a (i+1) rs
theorem PV (w:O)(B base:Nat)(v:D)(rs:List Zd)(b:ByteArray)(l:w.cell? ⟨B,0,P⟩=V v)(h:w.ownsRow base 148 3 v rs.length (YU rs))(x:rs.length<=6):
  H U 315 #[N (V ⟨B,0,P⟩),S b] w fun e w'=>e=K (J I (Zk b 0 rs))/\F0 w w':=by
 by_cases y:0<rs.length
 ·obtain⟨g,cap,rfl,Q,n,d⟩:=SZ h y
  have A:=Za d;clear h d y;go_enter Tryz.func315,Tryz.ntmps315;go_wp2_with fail
  go_loopg [5,6,12] rs.length (fun m _ _ c wr=>∃j,j<=rs.length/\m=rs.length-j/\c=J I j/\Y (F0 w wr)/\Y (Zk b 0 rs=Zk b j (rs.drop j)))
  case atStart=>exact⟨0,Nat.zero_le _,rfl,rfl,Fr.refl _ _,rfl⟩
  case round=>
   obtain⟨j,R,rfl,rfl,f,q⟩:=hrel;by_cases s:j<rs.length
   ·obtain⟨r,t⟩:∃r,rs[j]?=V r:=⟨_,gE s⟩
    obtain⟨C,E,F⟩:=A.o j r t;rw[<-f.o.cell (p:=⟨g,j*3,P⟩) n (by simp)]at C;rw[<-f.o.cell (p:=⟨g,j*3+1,P⟩) n (by simp)]at E;rw[<-f.o.cell (p:=⟨g,j*3+2,P⟩) n (by simp)]at F
    have u:(j:Int)<(rs.length:Int):=by omega
    have a:Y (rs.drop j=r::rs.drop (j+1)):=by
     obtain⟨i,G⟩:=iG.1 t
     show _=_
     rw[dC i,G]
    clear t l
    cases z:(r.name.toList==b.toList)with
    |true=>
     have k:Y (Zk b 0 rs=(j:Int)):=by show _=_;rw[q.o,a.o];simp only[Zk];rw[if_pos z]
     go_wp2;go_ret;exact⟨ZH k.o.symm,f.o.alloc _⟩
    |false=>
     have k:Y (Zk b 0 rs=Zk b (j+1) (rs.drop (j+1))):=by show _=_;rw[q.o,a.o];simp only[Zk];rw[if_neg (by simp[z])]
     go_wp2;go_roundg (rs.length-(j+1))
     case measure=>omega
     case rel=>exact⟨j+1,by omega,rfl,by go_num,f.o.alloc _,k⟩
   ·have u:¬(j:Int)<(rs.length:Int):=by omega
    have k:Y (Zk b 0 rs= -1):=by show _=_;rw[q.o,dL (by omega)];rfl
    clear l;go_wp2;go_ret;exact⟨ZH k.o.symm,f.o⟩
 ·have L:rs=[]:=Z (by omega)
  subst L;rcases h.2 with⟨rfl,_⟩|⟨g,cap,M,rfl,_⟩
  all_goals
   clear h;go_enter Tryz.func315,Tryz.ntmps315;go_wp2_with fail
   go_loopg [5,6,12] 1 (fun m _ _ c wr=>m=1/\c=J I 0/\wr=w)
   case atStart=>exact⟨rfl,rfl,rfl⟩
   case round=>
    obtain⟨rfl,rfl,rfl⟩:=hrel;clear l;go_wp2;go_ret;exact⟨rfl,Fr.refl _ _⟩
theorem TD (a:ByteArray):∀(rs:List Zd)(i:Nat),Zk a i rs= -1\/((i:Int)<=Zk a i rs/\Zk a i rs<(i:Int)+rs.length)
 |[],_=>.inl rfl
 |r::rs,i=>by
  simp only[Zk]
  split
  ·right;simp;omega
  ·rcases TD a rs (i+1)with h|h
   ·exact .inl h
   ·right
    simp at h ⊢;omega
def ZC (rs:List Zd):Nat->List Tk->Except (Nat×Nat) (List Nat)
 |_,[]=>.ok []
 |i,t::r=>if i=4 then .error (6,t.line)else if Zk t.text 0 rs<0 then .error (4,t.line)else
  match ZC rs (i+1) r with
  | .error f=>.error f
  | .ok ns=>.ok ((Zk t.text 0 rs).toNat::ns)
def Wy (rs:List Zd)(a:List Nat)(i:Nat)(l:List Tk):Except (Nat×Nat) (List Nat):=
 match ZC rs i l with
 | .error f=>.error f
 | .ok ns=>.ok (a++ns)
theorem LK (rs:List Zd)(a:List Nat)(i:Nat):Wy rs a i []=.ok a:=by simp[Wy,ZC]
theorem MO {rs:List Zd}{a:List Nat}{t:Tk}{r:List Tk}:Wy rs a 4 (t::r)=.error (6,t.line):=by simp[Wy,ZC]
theorem LL {rs:List Zd}{a:List Nat}{i:Nat}{t:Tk}{r:List Tk}(h:i≠4)(b:Zk t.text 0 rs<0):Wy rs a i (t::r)=.error (4,t.line):=by simp[Wy,ZC,h,b]
theorem Js {rs:List Zd}{a:List Nat}{i:Nat}{t:Tk}{r:List Tk}(h:i≠4)(b:¬Zk t.text 0 rs<0):Wy rs a i (t::r)=Wy rs (a++[(Zk t.text 0 rs).toNat]) (i+1) r:=by
 simp only[Wy,ZC,if_neg h,if_neg b]
 cases ZC rs (i+1) r<;>simp
theorem Jt (w:O)(B base f:Nat)(v vr:D)(ts:List Tk)(rs:List Zd)(hB:w.cell? ⟨B,0,P⟩=V vr)(z:w.ownsRow f 148 3 vr rs.length (YU rs))(s:rs.length<=6)
  (h:w.ownsRow base 263 3 v ts.length (Yb ts))(h0:ts.length<=4000):
  H U 323 #[N (V ⟨B,0,P⟩),v] w (Wh (ZC rs 0 ts) w):=by
 have HM:Y (ZC rs 0 ts=Wy rs [] 0 ts):=by show _=_;unfold Wy;cases ZC rs 0 ts<;>simp
 have A:B<w.heap.size:=bL w _ hB
 have HP:Y (∀W nm,F0 w W->H U 315 #[N (V ⟨B,0,P⟩),S nm] W fun e w'=>e=K (J I (Zk nm 0 rs))/\F0 W w'):=
  fun W nm i=>PV W B f vr rs nm (by rw[i.cell (p:=⟨B,0,P⟩) A (by simp)];exact hB) (oF z i (by simp)) s
 have H6:=Za s;clear hB z A s;obtain⟨ii,hi,b0,c0,d0⟩:=info_parts YZ;by_cases y:0<ts.length
 ·obtain⟨g,cap,rfl,hb,hl,b⟩:=QO h y
  have HR:=Za b;clear h b y;go_enter Tryz.func323,Tryz.ntmps323;go_wp2_with fail
  go_loopg [5,6,7,8,11] ts.length (fun m o _ _ _ c wr=>∃j a,j<=ts.length/\m=ts.length-j/\c=J I j/\Y (wr.ownsRow w.heap.size 3 1 o a.length (Zg a))/\Y (a.length=j)/\Y (F0 w wr)/\Y (ZC rs 0 ts=Wy rs a j (ts.drop j)))
  case atStart=>exact⟨0,[],Nat.zero_le _,rfl,rfl,oZ _ _ _ _,rfl,Fr.refl _ _,HM.o⟩
  case round=>
   obtain⟨j,a,hj,rfl,rfl,HO,HA,u,HN⟩:=hrel;by_cases e0:j<ts.length
   ·obtain⟨t,ht⟩:∃t,ts[j]?=V t:=⟨_,gE e0⟩
    obtain⟨r0,r1,r2⟩:=HR.o j t ht;rw[<-u.o.cell (p:=⟨g,j*3,P⟩) hl (by simp)]at r0;rw[<-u.o.cell (p:=⟨g,j*3+1,P⟩) hl (by simp)]at r1;rw[<-u.o.cell (p:=⟨g,j*3+2,P⟩) hl (by simp)]at r2
    have C:(j:Int)<(ts.length:Int):=by omega
    have d:Y (ts.drop j=t::ts.drop (j+1)):=Pw ht;clear ht;by_cases h4:j=4
    ·have F:((j:Int)==4)=true:=by simp;omega
     have H4:=Za h4;clear h4;go_wp2_with fail;refine(YC t 6 _ _ (by rfl)).mono ?_;rintro e L ⟨Q,i⟩;unfold Zj at Q;subst Q;exact⟨rfl,(Wh.err (by rw[HN.o,d.o,H4.o];exact MO)).2 ⟨rfl,(u.o.alloc _).trans i⟩⟩
    ·have F:((j:Int)==4)=false:=by simp;omega
     have H4:=Za h4;clear h4;go_wp2_with fail;refine(HP.o _ t.text (by exact u.o.alloc _)).mono ?_;rintro e L ⟨rfl,i⟩;have x:Y (F0 w L):=(u.o.alloc _).trans i;have R:Y (L.ownsRow w.heap.size 3 1 u5 a.length (Zg a)):=oF (HO.o.alloc _) i (by simp);have hT:=i.whole (aN wr (E #[J I t.sort,S t.text,J I t.line] 263)) (by simp);clear r0 r1 r2 i;have t0:=bC hT 0 _ rfl;have t1:=bC hT 1 _ rfl;have t2:=bC hT 2 _ rfl;clear hT;have T:=TD t.text rs 0;by_cases hv:Zk t.text 0 rs<0
     ·have HQ:Y (ZC rs 0 ts=.error (4,t.line)):=HN.o.trans (by rw[d.o];exact LL H4.o hv)
      generalize Zk t.text 0 rs=q at*;clear T;go_wp2_with fail;refine(YC t 4 _ _ (by rfl)).mono ?_;rintro e w4 ⟨Q,i⟩;unfold Zj at Q;subst Q;exact⟨rfl,(Wh.err HQ.o).2 ⟨rfl,x.o.trans i⟩⟩
     ·have X:Y (ZC rs 0 ts=Wy rs (a++[(Zk t.text 0 rs).toNat]) (j+1) (ts.drop (j+1))):=HN.o.trans (by rw[d.o];exact Js H4.o hv)
      obtain⟨n,y⟩:∃n:Nat,Zk t.text 0 rs=(n:Int):=⟨(Zk t.text 0 rs).toNat,by omega⟩
      have i0:a.length<=ts.length:=by have:=HA.o;omega
      have k0:=x.o.size;clear T t0 t1 t2 hv;rw[y,Int.toNat_natCast]at X;rw[y];clear y
      have l0:¬(n:Int)<0:=by omega
      clear F C
      go_wp2_with (at_builtin;refine wpList_append_lies _ rfl (.tmp 28) (.tmp 30) 25 rfl w.heap.size 3 ii _ 1 8 Tryz.underlying25 hi b0 c0 d0 rfl (by decide) u5 a.length (Zg a) rfl ?h1 ⟨L.heap.size,0,P⟩ 1 1 [J I n] rfl rfl ?h2 ?h3 (by decide) ?h4 ?h5 ?h6 _ rfl ?h7)
      case h1=>exact R.o.alloc _
      case h2=>exact World.news_of_block (aN L _)
      case h3=>simp[G]
      case h4=>unfold maxLen;omega
      case h5=>omega
      case h6=>simp;omega
      case h7=>
       intro g2 j0 w4 r l _ _
       have b:∀k,u5.ownBlock=V k->w.heap.size<=k:=fun k hk=>(R.o.lt k hk).1
       have f0:=Za r;have g0:=Za ((x.o.alloc _).grown l (fun k hk=>Or.inr (b k hk)));clear l r b;go_wp2;go_roundg (ts.length-(j+1))
       case measure=>omega
       case rel=>
        refine⟨j+1,a++[n],by omega,rfl,by go_num,?_,?_,g0,X⟩
        ·show World.ownsRow _ _ _ _ _ _ _
         rw[Xl,lA];exact f0.o
        ·show _=_
         have:=HA.o;simp;omega
   ·have C:¬(j:Int)<(ts.length:Int):=by omega
    have a0:Y (Wh (ZC rs 0 ts) w (K u5) wr):=by
     show Wh _ _ _ _
     refine(Wh.ok (ns:=a) ?_).2 ⟨⟨u5,rfl,HO.o⟩,u.o⟩;rw[HN.o,dL (by omega)];exact LK _ _ _
    go_wp2;go_ret;exact a0.o
 ·have hz:ts=[]:=Z (by omega)
  subst hz;rcases h.2 with⟨rfl,_⟩|⟨g,cap,m0,rfl,_⟩
  all_goals
   clear h;go_enter Tryz.func323,Tryz.ntmps323;go_wp2_with fail
   go_loopg [5,6,7,8,11] 1 (fun m o _ _ _ c wr=>m=1/\o=M P 0 0/\c=J I 0/\wr=w)
   case atStart=>exact⟨rfl,rfl,rfl,rfl⟩
   case round=>
    obtain⟨rfl,rfl,rfl,rfl⟩:=hrel;go_wp2;go_ret;exact(Wh.ok (ns:=[]) rfl).2 ⟨⟨_,rfl,oZ _ _ _ _⟩,Fr.refl _ _⟩
