/- For every script of steps, played up to the loads, Loads answers true, and the script reads afterwards as it did: the image of a table is loaded, what was loaded decides as the table that wrote it, has no text, no overlaps and no dead rules of its own, and writes the same image again; besides, every fault, every plain text, every decision, every list of overlaps and of dead rules; and lists that went in or came out belong to their callers. Conditions: none but the row's own (the tables that lie ahead of the call lie as their text lays them; the card ties them). -/
import Derived.Test.YtccikgogjfbpeaaGreatDoorAw
import Derived.Test.YtccikgogjfbpeaaGreatDoorTie
import Derived.OpenShut
import Derived.SizedLaws
open Go.Proofs.Tryz renaming prog->I
open Option renaming some->J,none->O
open Go.World renaming cells?_some->S,cell?_spot->E,laidAll->N,laidAll_os->T
open List renaming getElem?_cons_zero->V,getElem?_cons_succ->Y,mem_append_left->Z,drop_succ_cons->U,take_succ_cons->K,drop_zero->B,take_zero->G,cons->M,range->R
namespace Go.Proofs.YtccikgogjfbpeaaGreatDoor
set_option maxRecDepth 30000
set_option maxHeartbeats 8000000
open Go.ChangeShapes Go.WideShapes Go.ChangeAt Go.RowKit Go.Deep
theorem Yr:ownKnob I.godebug=O:=by kernel_rfl
theorem xU:laidOutB I=true:=by kernel_rfl
theorem DX:I.cellsOf 62=9:=by kernel_rfl
theorem GW:I.cellsOf 3=1:=by kernel_rfl
theorem Lo:I.cellsOf 9=1:=by kernel_rfl
theorem yB:I.cellsOf 35=4:=by kernel_rfl
theorem BU:I.cellsOf 28=1:=by kernel_rfl
theorem BV:I.cellsOf 4=1:=by kernel_rfl
theorem xV:I.bytesOf 62=104:=by kernel_rfl
theorem yC:I.bytesOf 9=16:=by kernel_rfl
theorem Rl {H:Type}{P:Program}{e:TypeId}:∀{l:List (DataW H)}{d:DataW H},d∈l->∀n∈d.weights P e,n∈DataW.weightsAll P e l
 |x::r,d,hd,n,hn=>by
  unfold DataW.weightsAll;rcases List.mem_cons.1 hd with e|e
  ·subst e
   exact Z _ hn
  exact List.mem_append_right _ (Rl e n hn)
theorem DY {Q:Nat->ByteArray->Prop}:∀n,(∀i,i<n->∃s,Q i s)->∃l:List ByteArray,l.length=n/\∀k s,l[k]?=J s->Q k s
 |0,_=>⟨[],rfl,fun k s h=>by simp at h⟩
 |n+1,h=>by
  obtain⟨l,c,d⟩:=DY n (fun i hi=>h i (by omega));obtain⟨s,e⟩:=h n (by omega);refine⟨l++[s],by simp[c],fun k f a=>?_⟩;by_cases b:k<l.length
  ·rw[List.getElem?_append_left b]at a
   exact d k f a
  rw[aR (by omega)]at a
  have:k-l.length=0:=by have:=(iG.1 a).1;simp at this;omega
  rw[this]at a;injection a with a;subst a
  have:k=n:=by omega
  subst this;exact e
theorem BW {H}{enc:TypeId×Value->H}{w base d f n v x}(h:DataW.trod enc I w base d f n 28 [v]=J x)(F:∀n∈x.1.weights I 28,n<=reachBytes):
  ∃(A:Option Addr)(r G:Nat)(j:List ByteArray),v=.slice A r G/\j.length=r/\Yf w A j/\(r+6)*16<=140737488355328:=by
 rcases open_slice Tryz.underlying28 h with⟨c,_⟩|⟨a,b,cap,m,n,D,U,c,V,W,X,t,K,u⟩
 ·simp only[M.injEq,and_true]at c
  exact⟨O,0,0,[],c,rfl,fun k s p=>by simp at p,by omega⟩
 simp only[M.injEq,and_true]at c
 have L:b<=m:=by rw[t];split<;>omega
 have N:b*16<=reachBytes:=by
  have:=F ((b+(m-b))*16) (by rw[K];simp[DataW.weights,Tryz.underlying28,yC]);omega
 obtain⟨j,P,B⟩:=DY (Q:=fun k s=>w.cell? (a.add k)=J (.string s)) b (fun i hi=>by
  obtain⟨cs',C,R⟩:=u i (by omega);rw[Lo,Nat.mul_one]at C;obtain⟨s,T,_,_⟩:=DataW.trod_string Tryz.underlying9 R;subst T;obtain⟨_,_,q⟩:=S C;have:=q 0 (by simp);refine⟨s,?_⟩
  simpa[Addr.add]using this)
 refine⟨J a,b,cap,j,c,P,fun k s p=>?_,by unfold reachBytes at N;omega⟩;have q:=B k s p
 have y:0<j.length:=by have:=(iG.1 p).1;omega
 have z:=B 0 _ (gE y);obtain⟨g,o,l⟩:=a
 have e:l=O:=by simpa[Addr.add]using E z
 subst e;exact⟨g,o,rfl,by rw[add_plain]at q;exact q⟩
set_option maxRecDepth 100000 in
theorem xW {H}{enc:TypeId×Value->H}{w base d l n r x}(h:DataW.trod enc I w base d l n 62 r=J x)(t:∀n∈x.1.weights I 62,n<=reachBytes):
  ∃(k a:Int)(s b:ByteArray)(e u f:Int)(p:Option Addr)(o v:Nat)(y:Bool)(q:List ByteArray),(-9223372036854775808<=a/\a<=9223372036854775807/\q.length=o/\Yf w p q/\b.size<=maxLen/\(o+6)*16<=140737488355328)/\
   r=[.int .i64 k,.int .i64 a,.string s,.string b,.int .i64 e,.int .i64 u,.int .i64 f,.slice p o v,.bool y]:=by
 obtain⟨xs,m,_,g,C,z,c⟩:=DataW.trod_struct Tryz.underlying62 h;rw[DX]at C
 match r,C,xs,z,c,g with
 |[v0,v1,v2,v3,v4,v5,v6,v7,v8],_,[y0,y1,y2,y3,y4,y5],_,c,g=>
  have g0:=c 0 (Field.mk "Kind" 3 0 false "" "" 0) rfl;have g1:=c 1 (Field.mk "On" 3 1 false "" "" 8) rfl;have g2:=c 2 (Field.mk "Text" 9 2 false "" "" 16) rfl;have g3:=c 3 (Field.mk "P" 35 3 false "" "" 32) rfl;have D:=c 4 (Field.mk "Down" 28 7 false "" "" 72) rfl;have E:=c 5 (Field.mk "Up" 4 8 false "" "" 96) rfl;simp only[GW,Lo,yB,BU,BV,U,B,K,G,V,Y]at g0 g1 g2 g3 D E;obtain⟨k,F,_,_⟩:=DataW.trod_int Tryz.underlying3 g0;obtain⟨a,L,_,w1⟩:=DataW.trod_int Tryz.underlying3 g1;obtain⟨s,N,_,_⟩:=DataW.trod_string Tryz.underlying9 g2;obtain⟨zs,m',_,_,_,A,i⟩:=DataW.trod_struct Tryz.underlying35 g3;obtain⟨y,O,_⟩:=DataW.trod_bool Tryz.underlying4 E
  obtain⟨p,o,v,q,P,l1,l2,l3⟩:=BW D (fun k hk=>t k (by
   rw[g];simp only[DataW.weights,Tryz.underlying62]
   exact DataW.weights_mem_each (j:=4) rfl rfl k hk))
  match zs,A,i with
  |[z0,z1,z2,z3],_,i=>
   have Q:=i 0 (Field.mk "Pan" 9 0 false "" "" 0) rfl;have R:=i 1 (Field.mk "Mcc" 3 1 false "" "" 16) rfl;have S:=i 2 (Field.mk "Amount" 3 2 false "" "" 24) rfl;have T:=i 3 (Field.mk "Cur" 3 3 false "" "" 32) rfl;simp only[GW,Lo,U,B,K,G,V,Y]at Q R S T;obtain⟨b,W,_,lp⟩:=DataW.trod_string Tryz.underlying9 Q;obtain⟨e,X,_,_⟩:=DataW.trod_int Tryz.underlying3 R;obtain⟨u,Z,_,_⟩:=DataW.trod_int Tryz.underlying3 S;obtain⟨f,e6,_,_⟩:=DataW.trod_int Tryz.underlying3 T;simp only[M.injEq,and_true]at F L N W X Z e6 P O;subst F L N W X Z e6 P O;have hw: -9223372036854775808<=a/\a<=9223372036854775807:=(by simpa[Lit.wf]using w1:IntKind.i64.min<=a/\a<=9223372036854775807);exact⟨k,a,s,b,e,u,f,p,o,v,y,q,⟨hw.1,hw.2,l1,l2,lp,l3⟩,rfl⟩
set_option maxRecDepth 100000 in
theorem yD (H)(enc:TypeId×Value->H)(W base args N T r)(u:∀(j:Nat) t v,Tryz.f6.params[j]?=J t->args[j]?=J v->Value.okWide I W .any base t v)(hW:DataW.Whole enc I Tryz.f6.params.toList Rows.loadsSpec.vars false W args.toList N T r)(C:(DataW.weightsEach I (Tryz.f6.params.toList++Rows.loadsSpec.plain.varTypes I) (N++T)).all (· <=reachBytes)=true)(hL:laidMetH I Rows.loadsRow.laid W):
  Calls I 6 args W fun e W'=>∃v,e=.returned v/\Rows.loadsSpec.post enc I Tryz.f6 false true false false W args v W':=by
 have w:(DataW.weightsEach I (Tryz.f6.params.toList++[]) (N++T)).all (· <=reachBytes)=true:=C;have y:=hW;obtain⟨p,q,U,hV,rfl,_,_⟩:=hW;have hA:DataW.TrodAll enc I W 0 (fun _=>true) true Tryz.f6.params.toList args.toList N p:=U;rw[Tryz.params6]at hA u w;obtain⟨v0,d0,rfl,rfl,h0⟩:=trodAll_one hA;obtain⟨rfl,rfl⟩:=trodVars_none hV;have V:=h0;obtain⟨f0,hf⟩:=h0;simp only[List.append_nil]at y
 have X:∀x∈p,x.block<W.heap.size:=fun x P=>by simpa using y.lt x P
 obtain⟨a0,l,cap,rfl⟩:=okWide_slice Tryz.underlying22 (u 0 22 v0 rfl rfl)
 have hT:∀w',Below W.heap.size W w'->QS w'/\LU w':=fun w' Y=>⟨(wL hL).1.below (Nat.le_refl _) Y,Lib.tabBelow_of_tabIs (wL hL).2 w' Y⟩
 have F:Calls I 6 #[.slice a0 l cap] W fun e w'=>e=.returned (.bool true)/\Below W.heap.size W w':=by
  rcases open_slice Tryz.underlying22 hf with⟨o,_⟩|⟨a,g0,i0,m,n,D,Pl,o,Y,hl,hm,b0,c0,P⟩
  ·simp[Value.cells]at o
   obtain⟨rfl,rfl,rfl⟩:=o;exact Ja W O 0 0 (by omega) (fun i hi=>by omega) hT
  simp[Value.cells]at o
  obtain⟨rfl,rfl,rfl⟩:=o;simp only[if_true]at b0;have hd:d0=.slice ((R l).map D) ((R (m-l)).map fun j=>D (l+j)):=congrArg Prod.fst c0
  have Q:l*104<=reachBytes:=by
   have e:=sized_slice w (j:=0) (t:=22) (e:=62) rfl (by rw[hd];rfl) Tryz.underlying22;rw[xV]at e;simp at e;omega
  have e0:∀i,i<l->∀n∈(D i).weights I 62,n<=reachBytes:=fun i hi n hn=>by
   have e:=List.all_eq_true.1 w n (DataW.weights_mem_each (j:=0) (t:=22) (d:=d0) rfl rfl n (by
    rw[hd];simp only[DataW.weights,Tryz.underlying22]
    exact List.mem_cons_of_mem _ (Z _ (Rl (List.mem_map.2 ⟨i,List.mem_range.2 hi,rfl⟩) n hn))))
   simpa using e
  refine Ja W (J a) l cap (by unfold reachBytes at Q;omega) (fun i hi=>?_) hT;obtain⟨cs',h1,h2⟩:=P i (by omega);obtain⟨AN,h3,_⟩:=P 0 (by omega);rw[DX]at h1 h3;obtain⟨_,j0,z⟩:=S h1;obtain⟨_,A,f⟩:=S h3;obtain⟨k,on,s,G,K,am,L,da,dn,dc,up,dl,hD,rfl⟩:=xW h2 (e0 i hi);obtain⟨b,off,M⟩:=a
  have B:M=O:=by
   match AN,A,f with
   |c::_,_,f=>simpa[Addr.add]using E (f 0 (by omega))
  subst B
  have g:∀j v,[Value.int .i64 k,.int .i64 on,.string s,.string G,.int .i64 K,.int .i64 am,.int .i64 L,.slice da dn dc,.bool up][j]?=J v->W.cell? ⟨b,off+i*9+j,O⟩=J v:=fun j v hj=>by
   have:=z j (iG.1 hj).1;rw[add_plain,add_plain]at this;rw[this];exact hj
  exact⟨b,off,rfl,bL W _ (g 0 _ rfl),k,on,s,G,K,am,L,da,dn,dc,up,dl,hD,g 0 _ rfl,g 1 _ rfl,g 2 _ rfl,g 3 _ rfl,g 4 _ rfl,g 5 _ rfl,g 6 _ rfl,g 7 _ rfl,g 8 _ rfl⟩
 refine F.mono fun e W' ⟨he,Q⟩=>?_
 subst he;exact⟨_,rfl,⟨_,_,_,[],_,[],y,trodAll_mk1 (shut_bool Tryz.underlying4 true),trodAll_mk1 (Below.trod xU (by kernel_rfl) (of_decide_eq_true (by kernel_rfl)) V Q X),rfl,Q.frame _,fun h=>by cases h⟩⟩
theorem uK (os){H}(enc:TypeId×Value->H):∃a,DataW.whole enc I ((N I os Rows.loadsRow.laid).forCall (fun _ _=>0) ⟨#[],#[.slice O 0 0],[]⟩).memory Tryz.f6.params.toList Rows.loadsSpec.vars false #[Value.slice O 0 0].toList 8=J ([.nil],[],a):=
 ⟨[],by kernel_rfl⟩
set_option maxRecDepth 100000 in
theorem lifted (os)(a:os.Started)(H)(enc:TypeId×Value->H)(F):
    ReturnsInHanded {} Tryz.checked os 6 .any ((OpenSpec.ofChange Rows.loadsSpec).preRow enc I Tryz.f6 Rows.loadsRow.domain false Rows.loadsRow.laid) (((OpenSpec.ofChange Rows.loadsSpec).at F).post enc I Tryz.f6 false true false false):=by
  obtain⟨d,f⟩:=uK os enc;refine returnsInHanded_of_row (C:=Tryz.checked) (s:=OpenSpec.ofChange Rows.loadsSpec) Yr a (by kernel_rfl) Tryz.func6
    (witness_row_atRef (enc:=enc) (C:=Tryz.checked) false (N I os Rows.loadsRow.laid) #[.slice O 0 0] (T _ _ _) (BT os) (by kernel_rfl) (by kernel_rfl)
      (OpenSpec.preRow_of_cond 8 f (by kernel_rfl) (fun k g=>by cases g) (by kernel_rfl) (yA os))) ?_
  intro W base args h i b c j _ _ e l _ _;exact yD H enc W base args h i b c j e l
set_option maxRecDepth 100000 in
theorem sb:Rows.LoadsSaid:=
 OpenClaim.holds_of_cond 6 Tryz.f6 rfl rfl rfl rfl rfl rfl rfl ⟨rfl,rfl,rfl,rfl,rfl⟩ rfl rfl rfl rfl rfl (by kernel_rfl) Tryz.func6 Id
  (of_decide_eq_true (by kernel_rfl)) (by unfold Func.isWrapper;first|(rw[if_pos (by decide+kernel)];kernel_rfl)|(rw[if_neg (by decide+kernel)];exact⟨rfl,rfl⟩))
  (fun os a H enc _ F=>by rw[OpenClaim.pre_eq_preRow];exact lifted os a H enc F)
theorem plain (f fn)(c:Tryz.pinned.checked.prog.funcNamed "junction/junctionlaw.Loads" =J f)(a:Tryz.pinned.checked.prog.funcs[f]?=J fn):
  true=Tryz.pinned.checked.prog.looks []/\∀(j:Nat) t,fn.params[j]?=J t->Tryz.pinned.checked.prog.wantsStandIn t=false:=by
 obtain rfl:f=6:=Option.some.inj ((show I.funcNamed "junction/junctionlaw.Loads" =J 6 by kernel_rfl).symm.trans c)|>.symm;obtain rfl:fn=Tryz.f6:=(Option.some.inj (Tryz.func6.symm.trans a)).symm;refine⟨by kernel_rfl,fun j t b=>?_⟩;rw[Tryz.params6]at b
 obtain rfl:t=22:=by simpa using Array.mem_of_getElem? b
 exact(show I.wantsStandIn 22=false by kernel_rfl)
theorem loads_card:Rows.LoadsCardSaid:=
 Claim7.holds_tied_plain_at .later [] _ _ _ _ sb (fun _ h=>by cases h) (by kernel_rfl) (fun _ h=>by cases h) loads_row_tie rfl ⟨rfl,rfl⟩ (by kernel_rfl) rfl plain (by kernel_rfl)
