import Derived.Test.YtccikgogjfbpeaaGreatDoorZd
import Derived.Test.YtccikgogjfbpeaaGreatDoorEb
import Derived.Laws.IdiomStrings
import Derived.Laws.OwnMore
open Option renaming some->I,none->J
open Go.Value renaming int->V,string->D,pointer->M,slice->R
open Go.IntKind renaming i64->Y,u8->L
open Int renaming emod_nonneg->Z,toNat_of_nonneg->U
open Nat renaming le_trans->O,add_mul->N
open Go renaming Value->E,World->G
namespace Go.Proofs.YtccikgogjfbpeaaGreatDoor
set_option maxRecDepth 30000
set_option maxHeartbeats 8000000
open Go.RowKit
def Sa (c:Int)(n:Nat):Nat:=((if c<0 then-(c+1)else c)% (n:Int)).toNat
theorem Da (c:Int)(n:Nat)(h:0<n):Sa c n<n:=by
 unfold Sa;have a:=Z (if c<0 then-(c+1)else c) (b:=(n:Int)) (by omega);have d:=Int.emod_lt_of_pos (if c<0 then-(c+1)else c) (b:=(n:Int)) (by omega);omega
theorem Db (c:Int)(n:Nat)(w:G)(k: -9223372036854775808<=c)(l:c<=9223372036854775807)(b:0<n)(d:n<=1000000):
  Calls Tryz.prog 44 #[V Y c,V Y n] w fun e w'=>e=.returned (V Y (Sa c n))/\w'=w:=by
 have g:(0:Int)<(n:Int):=by omega
 have h:(n:Int)<=1000000:=by omega
 have i:((n:Int)==0)=false:=by simp;omega
 by_cases f:c<0
 ·have a:Hid ((Sa c n:Int)=(-(c+1))% (n:Int)):=by
   show _=_
   unfold Sa;rw[if_pos f,U (Z _ (by omega))]
  clear b d;go_enter Tryz.func44,Tryz.ntmps44;go_wp2;go_ret;exact⟨ZH (by rw[a.o,<-Int.neg_tmod,Int.tmod_eq_emod_of_nonneg (by omega)]),rfl⟩
 ·have a:Hid ((Sa c n:Int)=c % (n:Int)):=by
   show _=_
   unfold Sa;rw[if_neg f,U (Z _ (by omega))]
  have j:0<=c:=by omega
  clear b d;go_enter Tryz.func44,Tryz.ntmps44;go_wp2;go_ret;exact⟨ZH (by rw[a.o]),rfl⟩
theorem Fz (w:G)(T c:Nat)(d f:E)(a:List Zd)(b:List Zc)(g:List E)(l:w.cell? ⟨T,0,J⟩=I (M (I ⟨c,0,J⟩)))(h:Bk w c d f a b g)(i:YE a b)(j:QA w):
  Calls Tryz.prog 17 #[M (I ⟨T,0,J⟩)] w fun e w'=>e=.returned (D (ZV (V8 a b)))/\F0 w w':=by
 have m:=Za (Fv w c d f a b g h i j);clear h i j;go_enter Tryz.func17,Tryz.ntmps17;go_wp2_with fail;refine m.o.mono ?_;rintro e p ⟨rfl,k⟩;have n:=Za k;clear k l;go_wp2;go_ret;exact⟨rfl,n.o⟩
theorem Wi.frS {w w':G}{B q:Nat}{body:List Tk}{i:List Zd}{j:List Zc}{S:Nat->Prop}(h:Wi w B q body i j)(b:Fr S w w')(m:∀k,S k->k<B):Wi w' B q body i j:=by
 obtain⟨⟨a,c,x,y⟩,d,z,A,o,C,D,E,r,F,H,I,K,L⟩:=h
 have l:∀k,B<=k->¬S k:=fun k s M=>by have:=m k M;omega
 have f:∀k,S k->k<o:=fun k s=>nL (m k s) r
 refine⟨⟨a,c,(b.cell (p:=⟨q,0,J⟩) d.2 (l q d.1)).trans x,fun N=>?_⟩,⟨d.1,nL d.2 b.size⟩,z,A,o,C,D,E,r,(b.cell (p:=⟨q,1,J⟩) d.2 (l q d.1)).trans F,(b.cell (p:=⟨q,2,J⟩) d.2 (l q d.1)).trans H,oF I b f,oF K b f,U4.keep (fun v n Q O=>oF O b f) L⟩;obtain⟨g,e,t,u,P⟩:=y N;exact⟨g,e,t,nL u b.size,P.fr b u (l g t)⟩
theorem Wi.less {w:G}{B i q:Nat}{body:List Tk}{b:List Zd}{d:List Zc}(h:Wi w B q body b d)(f:i<=B):Wi w i q body b d:=by
 obtain⟨⟨a,c,k,l⟩,j,m,n,o,p,r,s,t,u,v,x,y,z⟩:=h;refine⟨⟨a,c,k,fun A=>?_⟩,⟨O f j.1,j.2⟩,m,n,o,p,r,s,O f t,u,v,x,y,z⟩;obtain⟨g,e,C,D,E⟩:=l A;exact⟨g,e,O f C,D,E⟩
theorem QC:(Tryz.prog.info? 93).map (fun i=>(i.zero,i.size,i.bytes))=I (I (M J),1,8):=by kernel_rfl
def Ho (k d:Int)(s a:ByteArray)(b e c:Int)(f:Option Addr)(g h:Nat)(i:Bool):E:=
 .agg #[V Y k,V Y d,D s,D a,V Y b,V Y e,V Y c,R f g h,.bool i]
def Up (k d:Int)(s a:ByteArray)(b e c:Int)(f:Option Addr)(g h:Nat)(i:Bool):Obj:=
 .cells #[V Y k,V Y d,D s,D a,V Y b,V Y e,V Y c,R f g h,.bool i] 62
theorem KI (m:Nat)(h:m<16):L.wrap (97+(m:Int))=(97+(m:Int)):=by
 have:m=0\/m=1\/m=2\/m=3\/m=4\/m=5\/m=6\/m=7\/m=8\/m=9\/m=10\/m=11\/m=12\/m=13\/m=14\/m=15:=by omega
 rcases this with rfl|rfl|rfl|rfl|rfl|rfl|rfl|rfl|rfl|rfl|rfl|rfl|rfl|rfl|rfl|rfl<;>decide
theorem UU {P:Program}{w:G}{L:Array Oper}{y:List Oper}{o:Oper}{a:Act}{Q:Exit->Act->G->Prop}(S:o.guard=J)(s x:Operand)(t:TypeId)
  (ho:o.op=.call {callee:=.builtin .append,args:=#[s,x],argTypes:=#[t,t]})
  (base:Nat)(e:TypeId)(i:TypeInfo)(z:E)(f p:Nat)(Y:P.underlying t=I (.slice e))(Z:P.info? e=I i)(hz:i.zero=I z)
  (B:i.size=f)(T:i.bytes=p)(U:z.cells.size=f)
  (q n b:Nat)(F:List E)(hs:a.eval s=.slice (I ⟨q,0,J⟩) n b)(l:w.ownsRow base e f (.slice (I ⟨q,0,J⟩) n b) n F)
  (M:Addr)(m c:Nat)(d:List E)(hx:a.eval x=.slice (I M) m c)(R:d.length=m*f)(r:∀j u,d[j]?=I u->w.cell? (M.add j)=I u)(h1:∀u∈d,u.oneCell'=true)
  (O:n+m<=maxLen)(v:(n+m)*p<=140737488355328)(C:base<=w.heap.size)(H:Nat)(hH:w.heap.size=H)
  (h:∀g cap w',w'.ownsRow base e f (.slice (I ⟨g,0,J⟩) (n+m) cap) (n+m) (F++d)->((g=q/\w.grownBy w' (I q))\/(g=H/\w.grownBy w' J))->wpList P L Q y (a.put o.dst (.slice (I ⟨g,0,J⟩) (n+m) cap)) w'):wpList P L Q (o::y) a w:=by
 subst B T hH
 have V:∃g cap w',(Builtin.append_ #[t,t] o.type #[.slice (I ⟨q,0,J⟩) n b,.slice (I M) m c]).run P w=.ok (.slice (I ⟨g,0,J⟩) (n+m) cap) w'/\w'.ownsRow base e i.size (.slice (I ⟨g,0,J⟩) (n+m) cap) (n+m) (F++d)/\((g=q/\w.grownBy w' (I q))\/(g=w.heap.size/\w.grownBy w' J)):=by
  by_cases D:n+m<=b
  ·obtain⟨w',r1,r2,r3⟩:=run_append_fits w base t o.type e i i.size Y Z rfl q n b F l M m c d R r h1 D
   exact⟨q,b,w',r1,r2,Or.inl ⟨rfl,r3⟩⟩
  ·have A:(F++d).length=(n+m)*i.size:=by rw[lA,l.1,R,N]
   have W:=run_append_grow (P:=P) w t o.type e i z Y Z hz ⟨q,0,J⟩ n b F l.1 (l.cells (g:=q) rfl) M m c d R r (by omega) (by simp only[maxLen]at O;omega) (growslice_fits (by omega) v);have X:=grownCap_ge w (n+m) b e;refine⟨_,_,_,W,⟨A,.inr ⟨w.heap.size,_,_,rfl,C,aN w.drew _,X,grownCap_le_maxLen w (n+m) b e O,?_,?_⟩⟩,Or.inr ⟨rfl,⟨rfl,rfl,rfl,by simp,fun k hk _=>heap_alloc_old w.drew _ hk⟩⟩⟩
   ·simp only[Array.size_append,List.size_toArray,size_zeroCells,U,l.1,R,<-N]
    congr 1
    omega
   ·simp only[Array.toList_append,List.append_assoc]
    rw[<-List.append_assoc,<-A];exact List.take_left
 obtain⟨g,cap,w',W,h2,h3⟩:=V
 refine wpList_plain S fun K hK=>?_
 unfold Oper.wp execOp;simp only[ho,resolve,invoke,builtin,Sem.run_bind,Sem.run_pure,Result.andThen_ok,List.map_toArray,List.map_cons,List.map_nil,hs,hx,W];exact hK _ _ (h g cap w' h2 h3)
structure Ue where
 a:Option Addr
 n:Nat
 c:Nat
 m:ByteArray
def Ue.val (e:Ue):E:=R e.a e.n e.c
