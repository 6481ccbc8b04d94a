import Derived.Test.YtccikgogjfbpeaaGreatDoorAg
import Derived.Laws.IdiomStrings
open Go.Value renaming string->I,int->V,bool->z6
open Go.IntKind renaming i64->J
open Go.Proofs.Tryz renaming prog->Y
open Option renaming none->Z,some->K
open Go.Ending renaming returned->U
open Go.Obj renaming cells->O
open List renaming length_pos_iff->E,length_cons->M,drop_left->X,take_append_drop->A,all_eq_true->C,length_take->F,drop_zero->z4,take_left->z5
open Nat renaming le_refl->H,le_of_eq->z7
open Go.RowKit renaming Hid->B
open Or renaming inr->D
open _root_.ByteArray renaming empty->R
open Go renaming Calls->T
open Go.Proofs.Tryz
namespace Go.Proofs.YtccikgogjfbpeaaGreatDoor
set_option linter.defProp false
set_option maxRecDepth 30000
set_option maxHeartbeats 8000000
def dT (w:List UInt8)(a:Nat):Tk:=⟨1,bs w,a⟩
def xu:List (List UInt8)->List UInt8
 |[]=>[]
 |[w]=>w
 |w::v::r=>w++(44::32::xu (v::r))
def pI (b:ByteArray)(a:List (List UInt8)):List UInt8:=if a=[]then[]else 32::(b.data.toList++(32::xu a))
def pW:Option (List UInt8×List UInt8)->List UInt8
 |none=>[]
 |some a=>32::(Z9.data.toList++(32::(a.1++(46::46::a.2))))
def pX (a b c:List UInt8):List UInt8:=[114,111,117,116,101,32]++(a++(32::(b++(32::(c++[59])))))
def KC (n w:Nat):List UInt8:=if _h:n=0/\w=0 then[]else KC (n/10) (w-1)++[UInt8.ofNat (48+n % 10)]
 termination_by n+w
 decreasing_by omega
open Go.RowKit
def Pg:ByteArray:=⟨#[32]⟩
def xw:∀(a r:List UInt8),32∉a->Lib.indexByte (a++32::r) 32=(a.length:Int)
 |[],r,_=>by simp[Lib.indexByte]
 |x::a,r,h=>by
  have b:¬(x==32)=true:=fun e=>h (by rw[eq_of_beq e];simp)
  have c:=xw a r (fun e=>h (by simp[e]));have d:¬((a.length:Int)== -1)=true:=y
  show Lib.indexByte (x::(a++32::r)) 32=_
  rw[Lib.indexByte,if_neg b,c,if_neg d];simp
def GP:∀(a:List UInt8),32∉a->Lib.indexByte a 32= -1
 |[],_=>rfl
 |x::a,h=>by
  have b:¬(x==32)=true:=fun e=>h (by rw[eq_of_beq e];simp)
  rw[Lib.indexByte,if_neg b,GP a (fun e=>h (by simp[e]))];rfl
def SI (a r k)(h:32∉a):Lib.splitB Pg 0 (k+1) (bs (a++32::r))=bs a::Lib.splitB Pg 0 k (bs r):=by
 have e:Lib.indexB (bs (a++32::r)) Pg=(a.length:Int):=by
  show Lib.index (a++32::r) [32]=_
  rw[Lib.index_one,xw a r h]
 have b:(bs (a++32::r)).extract 0 (a.length+0)=bs a:=by
  apply ByteArray.ext;apply Array.toList_inj.1;rw[Lib.extract_data];simp
 have c:(bs (a++32::r)).extract (a.length+Pg.size) (bs (a++32::r)).size=bs r:=by
  apply ByteArray.ext;apply Array.toList_inj.1;rw[Lib.extract_data]
  show(((a++32::r).drop (a.length+1)).take ((a++32::r).length-(a.length+1)))=r
  rw[show a.length+1=a.length+[(32:UInt8)].length from rfl,show a++32::r=(a++[32])++r from y,<-lA,X,List.take_of_length_le aF]
 rw[Lib.splitB,e,if_neg y,Int.toNat_natCast,b,c]
def Lv (a k)(h:32∉a):Lib.splitB Pg 0 k (bs a)=[bs a]:=Lib.splitB_miss _ _ _ _ (by
 show Lib.index a [32]=_
 rw[Lib.index_one,GP a h])
def KE:(Y.info? 9).map (fun i=>(i.zero,i.size,i.bytes))=K (K (I R),1,16):=n
def CM:∀(l:List UInt8)(a:Nat),(∀c,c∈l->48<=c.toNat/\c.toNat<=57)->Lib.decFrom a l=K (l.foldl (fun n c=>n*10+(c.toNat-48)) a)
 |[],_,_=>rfl
 |b::r,a,h=>by
  have d:=h b y;rw[Lib.decFrom,Lib.digitVal,if_pos d];exact CM r _ (fun c e=>h c (by simp[e]))
def xx {l}(d:l≠[])(h:∀c,c∈l->48<=c.toNat/\c.toNat<=57):Lib.atoi l=K (ZA l:Nat):=by
 cases l with
 |nil=>exact absurd rfl d
 |cons b r=>
  have a:=h b y
  have f:¬(b==45)=true:=fun e=>by rw[eq_of_beq e]at a;exact absurd a.1 aB
  have g:¬(b==43)=true:=fun e=>by rw[eq_of_beq e]at a;exact absurd a.1 aB
  rw[Lib.atoi,if_neg f,if_neg g,Lib.decNat,if_neg y,CM (b::r) 0 h];rfl
def Lw (l a)(j:Int)(w)(k:l≠[])(y:l.length<=a)(z:a<=10)(n:j=a)(d:∀c,c∈l->48<=c.toNat/\c.toNat<=57):
  T Y 155 #[I (bs l),V J j] w fun e p=>e=U (.tuple #[V J (ZA l:Nat),z6 true])/\F0 w p:=by
 subst n;have f:=o (TS (bs l) w (by rw[Sv];omega))
 have g:B (YE (bs l) 0=true):=by
  show YE (bs l) 0=true
  unfold YE;rw[z4,C];intro c q
  simpa using d c q
 have r:=o (fun W=>Tryz.strconv_Atoi (bs l) (ZA l:Nat) (by rw[Sv];omega) (xx k d) W);rw[g.o]at f;have s:(bs l).size=l.length:=Sv l;generalize bs l=S at*;have u:=ai a S.size;clear d k;go_enter func155,ntmps155;go_wp2_with fail;refine f.o.mono ?_;rintro e v ⟨rfl,b⟩;have h:=o b;clear b f;go_wp2_with fail;refine(r.o v).mono ?_;rintro e x ⟨rfl,t,m⟩
 have i:B (F0 w x):=by rw[m];exact h.o.trans (XM _ _ _)
 clear m;go_wp2
 go_quiet (fail)
 go_wp2
 go_ret2
 exact⟨rfl,i.o.trans ⟨rfl,rfl,rfl,H _,fun _ _ _=>rfl⟩⟩
def DW (l:List UInt8)(n:Nat):Prop:=l≠[]/\l.length<=n/\∀c,c∈l->48<=c.toNat/\c.toNat<=57
def DW.no {l n}(h:DW l n):32∉l:=fun e=>absurd (h.2.2 32 e).1 aB
def ST (b m a c:List UInt8):List UInt8:=b++32::(m++32::(a++32::c))
def Df {b m a c}(d:32∉b)(e:32∉m)(f:32∉a)(g:32∉c):Lib.splitB Pg 0 4 (bs (ST b m a c))=[bs b,bs m,bs a,bs c]:=by
 unfold ST;rw[SI _ _ _ d,SI _ _ _ e,SI _ _ _ f,Lv _ _ g]
structure rQ (s:ByteArray)(pan m a c:List UInt8):Prop where
 l:s.data.toList=ST pan m a c
 p:32∉pan
 m:DW m 4
 a:DW a 10
 c:DW c 3
def rR (b m a c:List UInt8):XQ:=⟨bs b,(ZA m:Nat),(ZA a:Nat),(ZA c:Nat)⟩
def NS:∀{a b r q:List UInt8},a++32::r=b++32::q->32∉a->32∉b->a=b/\r=q
 |[],[],_,_,h,_,_=>⟨rfl,by simpa using h⟩
 |[],x::_,_,_,h,_,h2=>absurd (by simp at h;simp[h.1]) h2
 |x::_,[],_,_,h,h1,_=>absurd (by simp at h;simp[h.1]) h1
 |x::a,y::b,r,q,h,h1,h2=>by
  simp at h h1 h2;obtain⟨c,d⟩:=NS h.2 h1.2 h2.2;exact⟨by rw[h.1,c],d⟩
def Tg (k l):(∃a r,l=a++32::r/\32∉a/\Lib.splitB Pg 0 (k+1) (bs l)=bs a::Lib.splitB Pg 0 k (bs r))\/Lib.splitB Pg 0 (k+1) (bs l)=[bs l]:=by
 by_cases h:(32:UInt8)∈l
 ·obtain⟨a,r,rfl,b⟩:=List.eq_append_cons_of_mem h;exact Or.inl ⟨a,r,rfl,b,SI a r k b⟩
 exact D (Lv l _ h)
def RU:∀k l,1<=(Lib.splitB Pg 0 k (bs l)).length/\(Lib.splitB Pg 0 k (bs l)).length<=k+1
 |0,l=>⟨H 1,H 1⟩
 |k+1,l=>by
  rcases Tg k l with⟨a,r,_,_,e⟩|e
  ·have:=RU k r;rw[e,M];omega
  rw[e];simp
def AB:∀k l,(Lib.splitB Pg 0 k (bs l)).length=1->Lib.splitB Pg 0 k (bs l)=[bs l]
 |0,l,_=>rfl
 |k+1,l,h=>by
  rcases Tg k l with⟨a,r,_,_,e⟩|e
  ·have:=RU k r;rw[e,M]at h;omega
  exact e
def Dh {k l}(h:(Lib.splitB Pg 0 k (bs l)).length=4):∃p m a c,Lib.splitB Pg 0 k (bs l)=[bs p,bs m,bs a,bs c]/\l=ST p m a c/\32∉p/\32∉m/\32∉a:=by
 have g:=RU k l;obtain⟨j,rfl⟩:∃j,k=j+3:=⟨k-3,z⟩;rcases Tg (j+2) l with⟨p,r,rfl,b,e⟩|e
 ·rw[e]at h ⊢;rcases Tg (j+1) r with⟨m,r,rfl,d,e⟩|e
  ·rw[e]at h ⊢;rcases Tg j r with⟨a,r,rfl,f,e⟩|e
   ·rw[e]at h ⊢;rw[AB j r (by simpa using h)];exact⟨p,m,a,r,rfl,rfl,b,d,f⟩
   rw[e]at h;simp at h
  rw[e]at h;simp at h
 rw[e]at h;simp at h
def zK (l:List UInt8)(n:Nat):Bool:=decide (1<=l.length)&&(decide (l.length<=n)&&YE (bs l) 0)
def SJ (l n):zK l n=true↔DW l n:=by
 unfold zK DW YE;simp only[Bool.and_eq_true,decide_eq_true_eq,z4,C];exact⟨fun h=>⟨fun e=>by rw[e]at h;simp at h,h.2.1,h.2.2⟩,fun h=>⟨by cases l with|nil=>exact absurd rfl h.1|cons=>simp,h.2.1,h.2.2⟩⟩
def UM (n:Nat)(l:List UInt8):Option (Nat×List UInt8):=match l with
 |[]=>Z
 |b::r=>if b=32/\1<=Z5 iD r/\Z5 iD r<=n then K (ZA (r.take (Z5 iD r)),r.drop (Z5 iD r))else Z
def Rx (c:Int):Bool:=!decide (c=32)
def vY (p:ByteArray)(x y z:Nat)(l:List UInt8):Option XQ:=if l=[]then K ⟨p,(x:Nat),(y:Nat),(z:Nat)⟩else Z
def GQ (n:Nat)(f:Nat->List UInt8->Option XQ)(l:List UInt8):Option XQ:=match UM n l with
 |none=>Z
 |some (x,r)=>f x r
def WX (l:List UInt8):Option XQ:=GQ 4 (fun x=>GQ 10 fun y=>GQ 3 fun z=>vY (bs (l.take (Z5 Rx l))) x y z) (l.drop (Z5 Rx l))
def PS (p:Int->Bool):∀(l:List UInt8) c,c∈l.take (Z5 p l)->p (c.toNat:Int)=true
 |[],c,h=>by simp at h
 |x::l,c,h=>by
  rw[Z5]at h
  split at h
  ·rw[List.take_succ_cons]at h;rcases List.mem_cons.1 h with e|e
   ·rw[e];assumption
   exact PS p l c e
  simp at h
def ID (c:UInt8):iD (c.toNat:Int)=true↔48<=c.toNat/\c.toNat<=57:=by
 unfold iD;rw[decide_eq_true_eq];omega
def IE {n d r}(h:DW d n)(a:uU iD r):UM n (32::(d++r))=K (ZA d,r):=by
 have e:=QI iD a d fun c b=>(ID c).2 (h.2.2 c b)
 have f:1<=d.length:=Nat.pos_of_ne_zero fun e=>h.1 (List.length_eq_zero_iff.1 e)
 unfold UM;simp only[e];rw[if_pos ⟨trivial,f,h.2.1⟩,z5,X]
def Ly {n l x r}(h:UM n l=K (x,r)):∃d,l=32::(d++r)/\DW d n/\x=ZA d:=by
 cases l with
 |nil=>cases h
 |cons b q=>
  unfold UM at h
  dsimp only at h
  split at h
  ·rename_i a;injection h with h;injection h with f g;refine⟨q.take (Z5 iD q),by rw[<-g,A,a.1],⟨fun e=>?_,?_,fun c i=>(ID c).1 (PS _ q c i)⟩,f.symm⟩
   ·have j:=congrArg List.length e;rw[F,List.length_nil]at j;have:=KS iD q;omega
   rw[F];omega
  cases h
def rQ.read {s b m a c}(h:rQ s b m a c):WX s.data.toList=K (rR b m a c):=by
 have d:Z5 Rx s.data.toList=b.length:=by
  rw[h.l]
  exact QI Rx (l:=32::_) rfl b fun c f=>by have:c≠32:=fun e=>h.p (e▸f);unfold Rx;simp;exact fun e=>this (UInt8.toNat_inj.1 (by simpa using(by omega:c.toNat=32)))
 unfold WX;rw[d,h.l];unfold ST;unfold GQ;rw[X,IE (r:=32::_) h.m rfl]
 dsimp only
 rw[IE (r:=32::_) h.a rfl]
 dsimp only
 rw[show(32:UInt8)::c=32::(c++[])from y,IE (r:=[]) h.c trivial]
 dsimp only[vY]
 rw[if_pos rfl,z5];rfl
def OD {s}{p}(h:WX s.data.toList=K p):∃b m a c,rQ s b m a c:=by
 unfold WX GQ at h
 split at h
 ·cases h
 rename_i x n g
 dsimp only at h
 split at h
 ·cases h
 rename_i y o i
 split at h
 ·cases h
 rename_i z q j;obtain⟨m,f,d,_⟩:=Ly g;obtain⟨a,rfl,k,_⟩:=Ly i;obtain⟨c,rfl,l,_⟩:=Ly j
 dsimp only[vY]at h
 split at h
 ·rename_i e;subst e;refine⟨s.data.toList.take (Z5 Rx s.data.toList),m,a,c,?_,fun d=>?_,d,k,l⟩
  ·unfold ST;rw[List.append_nil]at f;rw[<-f,A]
  have:=PS Rx _ _ d;simp[Rx]at this
 cases h
def xy {s:ByteArray}{q p m a c}(h:WX s.data.toList=K q)(b:s.data.toList=ST p m a c)(d:32∉p)(f:32∉m)(g:32∉a):DW m 4/\DW a 10/\DW c 3:=by
 obtain⟨o,r,t,u,k⟩:=OD h;have e:=b.symm.trans k.l;unfold ST at e;obtain⟨_,e⟩:=NS e d k.p;obtain⟨i,e⟩:=NS e f k.m.no;obtain⟨j,n⟩:=NS e g k.a.no;exact⟨i▸k.m,j▸k.a,n▸k.c⟩
def IF (s w)(M:s.size<=140737488355328)(N:Nat)(C:min 5 ((s.size:Int)+1)=(N:Int)):
  T Y 189 #[I s,I ⟨#[32]⟩,V J 0,V J 5] w fun e l=>e=U (.slice (K ⟨w.heap.size,0,Z⟩) (Lib.splitB Pg 0 (N-1) s).length N)/\l=w.alloc (O (Lib.cellsOf (Lib.splitB Pg 0 (N-1) s) N) 9):=by
 have D:N<=5/\1<=N:=az
 have z:B (∀x c,T Y 226 #[I x,I ⟨#[32]⟩] (w.alloc (O c 9)) fun e l=>e=U (V J (Lib.indexB x Pg))/\l=w.alloc (O c 9)):=fun x c=>
  (Tryz.strings_Index_one x 32 _).mono fun e l ⟨he,j⟩=>⟨by rw[he];show _=Ending.returned (Value.int J (Lib.index x.data.toList [32]));rw[Lib.index_one],j⟩
 have q:=run_make_row' (P:=Y) 28 9 (I R) 16 underlying28 KE rfl J J N az az;go_enter func189,ntmps189;go_wp2_with fail;clear q C
 go_loopg [0,10] (N-1) (fun g F r wr=>∃(done:List ByteArray)(a:ByteArray),F=I a/\r=V J done.length/\done.length<=N-1/\g=N-1-done.length/\a.size<=s.size/\wr=w.alloc (O (Lib.cellsOf done N) 9)/\B (done++Lib.splitB Pg 0 (N-1-done.length) a=Lib.splitB Pg 0 (N-1) s))
 case atStart=>exact⟨[],s,rfl,rfl,Nat.zero_le _,rfl,H _,by rw[Lib.cellsOf_nil],rfl⟩
 obtain⟨done,a,rfl,rfl,Q,rfl,G,rfl,A⟩:=hrel;have t:(Lib.cellsOf done N)[done.length]?=K (I R):=Lib.cellsOf_next az
 have d:Lib.splitB Pg 0 (N-1-done.length) a=[a]->(Lib.splitB Pg 0 (N-1) s).length=done.length+1/\(Lib.cellsOf done N).setIfInBounds done.length (I a)=Lib.cellsOf (Lib.splitB Pg 0 (N-1) s) N:=fun h=>by
  have e:=A.o;rw[h]at e;rw[<-e];exact⟨aA,Lib.cellsOf_set az a⟩
 by_cases L:done.length<N-1
 ·have m:((done.length:Nat):Int)<(N:Int)-1:=az;rcases Lib.indexB_cases a Pg with b|⟨i,b,f⟩
  ·obtain⟨n,p⟩:=d (Lib.splitB_miss Pg 0 _ a b);have u:=o n;have v:=o p;have k:=z.o a (Lib.cellsOf done N);rw[b]at k;have k:=o k;clear n p d b;go_wp2_with fail;refine k.o.mono ?_;rintro e l ⟨rfl,j⟩;replace j:=j.symm;subst j;go_wp2;go_ret;rw[u.o,<-v.o];exact⟨by first|rfl|(congr 2<;>omega),rfl⟩
  have f:i+1<=a.size:=f;have S:¬((i:Int)<0):=az;have W:(0:Int)<=↑i+0:=az;have X:(↑i+0:Int)<=↑a.size:=az;have c3:(0:Int)<=↑i+1:=az;have c4:(↑i+1:Int)<=↑a.size:=az;have k:=z.o a (Lib.cellsOf done N);rw[b]at k;have k:=o k;have y:=o b;clear d b;go_wp2_with fail;refine k.o.mono ?_;rintro e l ⟨rfl,j⟩;replace j:=j.symm;subst j;go_wp2;go_roundg (N-1-(done.length+1))
  case measure=>omega
  refine⟨done++[a.extract 0 (i+0)],a.extract (i+Pg.size) a.size,rfl,aA,aF,aA,by rw[ByteArray.size_extract];omega,by rw[<-Lib.cellsOf_set az];rfl,?_⟩
  show _=_
  rw[<-A.o,show N-1-done.length=(N-1-(done.length+1))+1 by omega,Lib.splitB_hit Pg 0 _ a i y.o];simp
 have m:¬(((done.length:Nat):Int)<(N:Int)-1):=az;obtain⟨n,p⟩:=d (by rw[show N-1-done.length=0 by omega];rfl);have u:=o n;have v:=o p;clear n p d;go_wp2;go_ret;rw[u.o,<-v.o];exact⟨by first|rfl|(congr 2<;>omega),rfl⟩
def Jy (w:World):Prop:=∃t v,w.cell? ⟨3,0,Z⟩=K (.iface t v)
def Jy.fr {w w' S}(h:Jy w)(a:Fr S w w')(b:¬S 3:=by simp):Jy w':=by
 obtain⟨t,v,h⟩:=h;exact⟨t,v,(a.cell (p:=⟨3,0,Z⟩) (bL w _ h) b).trans h⟩
def Di (w)(h:Jy w):T Y 254 #[I ⟨#[65,116,111,105]⟩,I ⟨#[]⟩] w fun e k=>(∃b,e=U (.pointer (K b)))/\F0 w k:=by
 have l:=o (fun W=>Mj ⟨#[]⟩ W aB);obtain⟨t,v,f⟩:=h
 have g:B (∀W,F0 w W->W.cell? ⟨3,0,Z⟩=K (.iface t v)):=fun W m=>(m.cell (p:=⟨3,0,Z⟩) (bL w _ f)).trans f
 clear f;go_enter func254,ntmps254;go_wp2;refine wp_region_held_drew (S:=fun W=>W.cell? ⟨3,0,Z⟩=K (.iface t v)) aC (g.o _ Zo.drew) (fun c=>?_)
 iterate 2 (refine Yy 0 c ?_;try go_frame)
 refine ZJ 3 c ?_
 try go_frame
 refine WI 2 (fun i d=>?_);go_simp;refine(l.o _).mono ?_;rintro e n ⟨rfl,j⟩;have a:=o (Zo.drew.trans j);refine d.out _ _ (g.o _ a.o) (fun c=>?_);clear d i
 try go_frame
 refine ZJ 4 c ?_
 try go_frame
 refine WI 5 (fun i d=>?_);go_simp;refine d.out _ _ (g.o _ (a.o.alloc _)) (fun c=>?_);clear d i
 try go_frame
 iterate 1 (refine Yy 0 c ?_;try go_frame)
 refine wpAnyH_done aC ?_ _;go_wp2;go_ret;exact⟨⟨_,rfl⟩,a.o.alloc _⟩
def xz (w)(h:Jy w):T Y 190 #[I ⟨#[]⟩] w fun e a=>(∃t v,e=U (.tuple #[V J 0,.iface t v]))/\F0 w a:=by
 have c:=o (Di w h)
 have f:∀w,(binOp .eql 196 (.iface 343 (V J 2)) (.iface 343 (V J 2))).run Y w=.ok (z6 true) w:=fun w=>rfl
 clear h;go_enter func190,ntmps190
 go_wp2_with (first|(go_at_call 254;refine c.o.mono ?_;rintro e g ⟨⟨b,rfl⟩,d⟩)|go_in)
 go_ret2
 exact⟨⟨_,_,rfl⟩,d⟩
def Dj (s w)(a:s.size<=140737488355328)(N:Nat)(b:min 5 ((s.size:Int)+1)=(N:Int)):
  T Y 154 #[I s,I ⟨#[32]⟩,V J 5] w fun e c=>e=U (.slice (K ⟨w.heap.size,0,Z⟩) (Lib.splitB Pg 0 (N-1) s).length N)/\c=w.alloc (O (Lib.cellsOf (Lib.splitB Pg 0 (N-1) s) N) 9):=by
 have d:=o (IF s w a N b);clear a b;go_enter func154,ntmps154;go_wp2_with fail;refine d.o.mono ?_;rintro e f ⟨rfl,rfl⟩;go_wp2;go_ret;exact⟨rfl,rfl⟩
def Th (l)(a:Nat)(k:Int)(w)(A:a<=10)(g:k=a)(y:Jy w):
  T Y 155 #[I (bs l),V J k] w fun e i=>(∃n:Int,e=U (.tuple #[V J n,z6 (zK l a)])/\(zK l a=true->n=(ZA l:Nat)))/\F0 w i:=by
 cases c:zK l a with
 |true=>
  obtain⟨m,C,D⟩:=(SJ l a).1 c
  exact(Lw l a k w m C A g D).mono fun e i ⟨g,d⟩=>⟨⟨_,g,fun _=>rfl⟩,d⟩
 |false=>
  subst g;have E:(bs l).size=l.length:=Sv l;by_cases m:a<l.length
  ·have p:(a:Int)<((bs l).size:Int):=az;generalize bs l=S at*;go_enter func155,ntmps155;go_wp2
   go_ret2
   exact⟨⟨0,rfl,fun h=>by cases h⟩,Zo⟩
  have p:¬(a:Int)<((bs l).size:Int):=az;have b:=TS (bs l) w az
  cases j:YE (bs l) 0 with
  |false=>
   rw[j]at b;have b:=o b;generalize bs l=S at*;go_enter func155,ntmps155;go_wp2_with fail;refine b.o.mono ?_;rintro e z ⟨rfl,d⟩;go_wp2
   go_ret2
   exact⟨⟨0,rfl,fun h=>by cases h⟩,d⟩
  |true=>
   rw[j]at b;have b:=o b
   obtain rfl:l=[]:=by
    cases l with
    |nil=>rfl
    |cons x r=>
     unfold zK at c;rw[j]at c;simp at c m;omega
   have F:B (∀W,F0 w W->T Y 190 #[I (bs [])] W fun e i=>(∃t v,e=U (.tuple #[V J 0,.iface t v]))/\F0 W i):=fun W d=>xz W (y.fr d)
   generalize bs []=S at*;clear c j y;go_enter func155,ntmps155;go_wp2_with fail;refine b.o.mono ?_;rintro e z ⟨rfl,q⟩;have f:=o q;go_wp2_with fail;refine(F.o z f.o).mono ?_;rintro e G ⟨⟨t,v,rfl⟩,s⟩;have u:=o (f.o.trans s);go_wp2
   go_quiet (fail)
   go_wp2
   go_ret2
   exact⟨⟨0,rfl,fun h=>by cases h⟩,u.o.trans ⟨rfl,rfl,rfl,H _,fun _ _ _=>rfl⟩⟩
def vZ (s:ByteArray)(P:Value)(b:Bool):Prop:=match WX s.data.toList with
 |some p=>b=true/\P=X4 p
 |none=>b=false
def NE (s w)(hs:s.size<=140737488355328)(hE:Jy w):
  T Y 97 #[I s] w fun e w'=>(∃p b,e=U (.tuple #[X4 p,z6 b])/\vZ s (X4 p) b)/\F0 w w':=by
 obtain⟨N,hN⟩:∃N:Nat,min 5 ((s.size:Int)+1)=(N:Int):=⟨(min 5 ((s.size:Int)+1)).toNat,az⟩;have HS:=o (fun W=>Dj s W hs N hN);obtain⟨L,hL⟩:=ad (Lib.splitB Pg 0 (N-1) s);have h5:=RU (N-1) s.data.toList;rw[show bs s.data.toList=s from rfl,hL]at h5;rw[hL]at HS;have b0:=(WM w (O #[I ⟨#[]⟩,V J 0,V J 0,V J 0] 35)).1;have hX:=aN w (O #[I ⟨#[]⟩,V J 0,V J 0,V J 0] 35);have HX:=o hX;by_cases h4:L.length=4
 ·subst hL;obtain⟨p,m,a,c,e,hl,hp,hm,ha⟩:=Dh (k:=N-1) (l:=s.data.toList) h4;rw[show bs s.data.toList=s from rfl]at e;rw[e]at HS h5
  have d0:N=4\/N=5:=by simp at h5;omega
  have P:B (∀b,(b=true↔zK m 4=true/\zK a 10=true/\zK c 3=true)->∀x y z:Int,(b=true->x=(ZA m:Nat)/\y=(ZA a:Nat)/\z=(ZA c:Nat))->vZ s (X4 ⟨bs p,x,y,z⟩) b):=fun b hb x y z hx=>by
   unfold vZ
   cases j:WX s.data.toList with
   |none=>
    cases b with
    |false=>rfl
    |true=>
     obtain⟨h1,h2,h3⟩:=hb.1 rfl;rw[rQ.read ⟨hl,hp,(SJ _ _).1 h1,(SJ _ _).1 h2,(SJ _ _).1 h3⟩]at j
     cases j
   |some q=>
    obtain⟨h1,h2,h3⟩:=xy j hl hp hm ha;rw[rQ.read ⟨hl,hp,h1,h2,h3⟩]at j;injection j with j;obtain rfl:=hb.2 ⟨(SJ _ _).2 h1,(SJ _ _).2 h2,(SJ _ _).2 h3⟩;obtain⟨rfl,rfl,rfl⟩:=hx rfl;exact⟨rfl,congrArg X4 j⟩
  have R:B (∀W,F0 w W->Jy W):=fun W X=>hE.fr X
  have m0:B (∀W,F0 w W->_):=fun W X=>Th m 4 4 W az rfl (R.o W X)
  have n0:B (∀W,F0 w W->_):=fun W X=>Th a 10 10 W az rfl (R.o W X)
  have o0:B (∀W,F0 w W->_):=fun W X=>Th c 3 3 W az rfl (R.o W X)
  have r:B (∀i v,[Value.string (bs p),I (bs m),I (bs a),I (bs c)][i]?=K v->(Lib.cellsOf [bs p,bs m,bs a,bs c] N)[i]?=K v):=fun i v hv=>by
   have hi:i<4:=by simpa using(iG.1 hv).1
   have:i=0\/i=1\/i=2\/i=3:=az
   rcases d0 with rfl|rfl<;>rcases this with rfl|rfl|rfl|rfl<;>simpa[Lib.cellsOf]using hv
  generalize zK m 4=d1 at*;generalize zK a 10=d2 at*;generalize zK c 3=d3 at*;generalize bs p=t at*;generalize bs m=B1 at*;generalize bs a=B2 at*;generalize bs c=B3 at*;generalize ZA m=n1 at*;generalize ZA a=n2 at*;generalize ZA c=n3 at*;clear hE hX h4 hl hp hm ha h5 e d0;go_enter func97,ntmps97;go_upto_region 1 with fail;generalize hW:w.alloc _=w0 at*;obtain⟨Q,hQ⟩:=ad w.heap.size;have u:B (w.heap.size<=Q):=z7 hQ;rw[hQ]at HX ⊢;clear hQ hW;go_wp2_with fail;refine(HS.o w0).mono ?_;rintro e w' ⟨rfl,rfl⟩;have A:=o (b0.o.alloc (O (Lib.cellsOf [t,B1,B2,B3] N) 9));have d:=o (((Zo (S:=fun _=>False)).alloc (O (Lib.cellsOf [t,B1,B2,B3] N) 9)).whole HX.o);have e0:=o (aN w0 (O (Lib.cellsOf [t,B1,B2,B3] N) 9));rw[show([t,B1,B2,B3]:List ByteArray).length=4 from rfl];generalize w0.alloc _=w1 at*;generalize w0.heap.size=G at*;have c1:=bC e0.o 1 _ (r.o 1 _ rfl);go_wp2_with fail;refine(m0.o w1 A.o).mono ?_;rintro e w2 ⟨⟨x1,rfl,f0⟩,C⟩;have g0:=o (A.o.trans C);have p0:=o (C.whole d.o);have h0:=o (C.whole e0.o);have c2:=bC h0.o 2 _ (r.o 2 _ rfl);have q0:=o f0;clear C c1 f0;go_wp2_with fail;refine(n0.o w2 g0.o).mono ?_;rintro e w3 ⟨⟨x2,rfl,i0⟩,F⟩;have j0:=o (g0.o.trans F);have r0:=o (F.whole p0.o);have k0:=o (F.whole h0.o);have c3:=bC k0.o 3 _ (r.o 3 _ rfl);have t0:=o i0;clear F c2 i0;go_wp2_with fail;refine(o0.o w3 j0.o).mono ?_;rintro e w4 ⟨⟨x3,rfl,l0⟩,H⟩;have v0:=o (j0.o.trans H);have f:=o (H.whole r0.o);have x0:=o (H.whole k0.o);have c0:=bC x0.o 0 _ (r.o 0 _ rfl);have A0:=o l0;obtain⟨y0,y1,y2,y3⟩:=au f.o;have z0:=bF f.o;clear H c3 l0
  have HR:B (vZ s (X4 ⟨t,x1,x2,x3⟩) (d1&&d2&&d3)):=P.o _ (by simp[and_assoc]) _ _ _ fun h=>by
   simp only[Bool.and_eq_true]at h;exact⟨q0.o h.1.1,t0.o h.1.2,A0.o h.2⟩
  have g:=o (heap_setCell_same _ Q 3 _ _ (V J x3) (heap_setCell_same _ Q 2 _ _ (V J x2) (heap_setCell_same _ Q 1 _ _ (V J x1) (heap_setCell_same w4 Q 0 _ _ (I t) f.o))));have a0:B (F0 w ((((w4.setCell ⟨Q,0,Z⟩ (I t)).setCell ⟨Q,1,Z⟩ (V J x1)).setCell ⟨Q,2,Z⟩ (V J x2)).setCell ⟨Q,3,Z⟩ (V J x3))):=(((v0.o.setCell (p:=⟨Q,0,Z⟩) (D u.o) _).setCell (p:=⟨Q,1,Z⟩) (D u.o) _).setCell (p:=⟨Q,2,Z⟩) (D u.o) _).setCell (p:=⟨Q,3,Z⟩) (D u.o) _
  cases d1<;>cases d2<;>cases d3
  all_goals
   go_wp2_with fail;have s0:=bC g.o 0 (I t) rfl;have s1:=bC g.o 1 (V J x1) rfl;have s2:=bC g.o 2 (V J x2) rfl;have s3:=bC g.o 3 (V J x3) rfl;refine bodyPost_ret (by simp[results,results97,go_sem,s0,s1,s2,s3];rfl) rfl ⟨⟨⟨t,x1,x2,x3⟩,_,rfl,HR.o⟩,a0.o⟩
 have P:B (vZ s (X4 ⟨⟨#[]⟩,0,0,0⟩) false):=by
  show vZ _ _ _
  unfold vZ
  cases j:WX s.data.toList with
  |none=>rfl
  |some q=>
   obtain⟨p,m,a,c,k⟩:=OD j;refine absurd ?_ h4
   have e:s=bs (ST p m a c):=by rw[<-k.l]
   have:6<=s.size:=by
    rw[e,Sv];unfold ST;have h1:=E.2 k.m.1;have h2:=E.2 k.a.1;have h3:=E.2 k.c.1;simp only[List.length_append,M];omega
   obtain rfl:N=5:=az;rw[<-hL,e,Df k.p k.m.no k.a.no k.c.no];rfl
 obtain⟨n,hn⟩:=ad L.length;rw[hn]at HS h4 h5;have C0:n<=5:=az;have D0:((n:Int)==4)=false:=aF;clear hE hX h5 hL hn h4;go_enter func97,ntmps97;go_upto_region 1 with fail;generalize hW:w.alloc _=w0 at*;obtain⟨Q,hQ⟩:=ad w.heap.size;have u:B (w.heap.size<=Q):=z7 hQ;rw[hQ]at HX ⊢;clear hQ hW;go_wp2_with fail;refine(HS.o w0).mono ?_;rintro e w' ⟨rfl,rfl⟩;have A:=o (b0.o.alloc (O (Lib.cellsOf L N) 9));have d:=o (((Zo (S:=fun _=>False)).alloc (O (Lib.cellsOf L N) 9)).whole HX.o);generalize w0.alloc _=w4 at*;obtain⟨y0,y1,y2,y3⟩:=au d.o;have z0:=bF d.o;have g:=o (heap_setCell_same _ Q 3 _ _ (V J 0) (heap_setCell_same _ Q 2 _ _ (V J 0) (heap_setCell_same _ Q 1 _ _ (V J 0) (heap_setCell_same w4 Q 0 _ _ (I ⟨#[]⟩) d.o))));have a0:B (F0 w ((((w4.setCell ⟨Q,0,Z⟩ (I ⟨#[]⟩)).setCell ⟨Q,1,Z⟩ (V J 0)).setCell ⟨Q,2,Z⟩ (V J 0)).setCell ⟨Q,3,Z⟩ (V J 0))):=(((A.o.setCell (p:=⟨Q,0,Z⟩) (D u.o) _).setCell (p:=⟨Q,1,Z⟩) (D u.o) _).setCell (p:=⟨Q,2,Z⟩) (D u.o) _).setCell (p:=⟨Q,3,Z⟩) (D u.o) _;go_wp2_with fail;have s0:=bC g.o 0 (I ⟨#[]⟩) rfl;have s1:=bC g.o 1 (V J 0) rfl;have s2:=bC g.o 2 (V J 0) rfl;have s3:=bC g.o 3 (V J 0) rfl;refine bodyPost_ret (v:=.tuple #[X4 ⟨⟨#[]⟩,0,0,0⟩,z6 false]) (by simp[results,results97,go_sem,s0,s1,s2,s3,X4]) rfl ⟨⟨_,_,rfl,P.o⟩,a0.o⟩
def SU (c:Int)(n:Nat):Nat:=((if c<0 then-(c+1)else c)% (n:Int)).toNat
