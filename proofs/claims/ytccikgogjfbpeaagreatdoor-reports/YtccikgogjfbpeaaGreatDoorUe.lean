/- For every script of steps, played up to the reports, Reports answers true, and the script reads afterwards as it did: every list of overlaps and of dead rules of a compiled table is the document's own, and every witness goes by both of its rules; besides, every fault, every plain text and every decision; and lists that went in or came out belong to their callers. Conditions: none but the row's own (the library's three tables lie as their text lays them; the card ties them). -/
import Derived.Test.YtccikgogjfbpeaaGreatDoorUd
import Derived.Test.YtccikgogjfbpeaaGreatDoorTie
import Derived.OpenShut
import Derived.SizedLaws
open Go.Proofs.Tryz renaming prog->I
open Option renaming some->J,none->E
open Go.World renaming cells?_some->S,cell?_spot->B,laidAll->R,laidAll_os->L
open List renaming getElem?_cons_zero->V,getElem?_cons_succ->Y,mem_append_left->Z,drop_succ_cons->K,take_succ_cons->O,drop_zero->G,take_zero->M,cons->N,range->T
open Go renaming Value->U,World->X
namespace Go.Proofs.YtccikgogjfbpeaaGreatDoor
set_option maxRecDepth 30000
set_option maxHeartbeats 8000000
open Go.ChangeShapes Go.WideShapes Go.ChangeAt Go.RowKit Go.Deep
theorem ZP:ownKnob I.godebug=E:=by kernel_rfl
theorem CE:laidOutB I=true:=by kernel_rfl
theorem Gh:I.cellsOf 62=9:=by kernel_rfl
theorem Je:I.cellsOf 3=1:=by kernel_rfl
theorem Nn:I.cellsOf 9=1:=by kernel_rfl
theorem DG:I.cellsOf 35=4:=by kernel_rfl
theorem FV:I.cellsOf 28=1:=by kernel_rfl
theorem FW:I.cellsOf 4=1:=by kernel_rfl
theorem CF:I.bytesOf 62=104:=by kernel_rfl
theorem DH:I.bytesOf 9=16:=by kernel_rfl
theorem Sg {H:Type}{P:Program}{e:TypeId}:∀{l:List (DataW H)}{d:DataW H},d∈l->∀n∈d.weights P e,n∈DataW.weightsAll P e l
 |x::r,d,hd,n,hn=>by
  unfold DataW.weightsAll;rcases List.mem_cons.1 hd with e|e
  ·subst e
   exact Z _ hn
  ·exact List.mem_append_right _ (Sg e n hn)
theorem Gi {Q:Nat->ByteArray->Prop}:∀n,(∀i,i<n->∃s,Q i s)->∃l:List ByteArray,l.length=n/\∀k s,l[k]?=J s->Q k s
 |0,_=>⟨[],rfl,fun k s h=>by simp at h⟩
 |n+1,h=>by
  obtain⟨l,c,d⟩:=Gi n (fun i g=>h i (by omega));obtain⟨s,e⟩:=h n (by omega);refine⟨l++[s],by simp[c],fun k f a=>?_⟩;by_cases b:k<l.length
  ·rw[List.getElem?_append_left b]at a
   exact d k f a
  ·rw[aR (by omega)]at a
   have:k-l.length=0:=by have:=(iG.1 a).1;simp at this;omega
   rw[this]at a;injection a with a;subst a
   have:k=n:=by omega
   subst this;exact e
theorem FX {H:Type}{enc:TypeId×U->H}{w:X}{base:Nat}{d:Nat->Bool}{f:Bool}{n:Nat}{v:U}{x:DataW H×List MemPlace}(h:DataW.trod enc I w base d f n 28 [v]=J x)(G:∀n∈x.1.weights I 28,n<=reachBytes):
  ∃(A:Option Addr)(r K:Nat)(j:List ByteArray),v=.slice A r K/\j.length=r/\Yz w A j/\(r+6)*16<=140737488355328:=by
 rcases open_slice Tryz.underlying28 h with⟨c,_⟩|⟨a,b,cap,m,n,D,V,c,W,Y,Z,t,L,u⟩
 ·simp only[N.injEq,and_true]at c
  exact⟨E,0,0,[],c,rfl,fun k s p=>by simp at p,by omega⟩
 ·simp only[N.injEq,and_true]at c
  have M:b<=m:=by rw[t];split<;>omega
  have O:b*16<=reachBytes:=by
   have:=G ((b+(m-b))*16) (by rw[L];simp[DataW.weights,Tryz.underlying28,DH]);omega
  obtain⟨j,P,C⟩:=Gi (Q:=fun k s=>w.cell? (a.add k)=J (.string s)) b (fun i hi=>by
   obtain⟨cs',F,R⟩:=u i (by omega);rw[Nn,Nat.mul_one]at F;obtain⟨s,T,_,_⟩:=DataW.trod_string Tryz.underlying9 R;subst T;obtain⟨_,_,q⟩:=S F;have:=q 0 (by simp);refine⟨s,?_⟩
   simpa[Addr.add]using this)
  refine⟨J a,b,cap,j,c,P,fun k s p=>?_,by unfold reachBytes at O;omega⟩;have q:=C k s p
  have y:0<j.length:=by have:=(iG.1 p).1;omega
  have z:=C 0 _ (gE y);obtain⟨g,o,l⟩:=a
  have e:l=E:=by simpa[Addr.add]using B z
  subst e;exact⟨g,o,rfl,by rw[add_plain]at q;exact q⟩
set_option maxRecDepth 100000 in
theorem CG {H:Type}{enc:TypeId×U->H}{w:X}{base:Nat}{d:Nat->Bool}{l:Bool}{n:Nat}{r:List U}{x:DataW H×List MemPlace}(h:DataW.trod enc I w base d l n 62 r=J x)(t:∀n∈x.1.weights I 62,n<=reachBytes):
  ∃(k a:Int)(s b:ByteArray)(e u f:Int)(p:Option Addr)(o v:Nat)(y:Bool)(q:List ByteArray),(-9223372036854775808<=a/\a<=9223372036854775807/\q.length=o/\Yz w p q/\b.size<=maxLen/\(o+6)*16<=140737488355328)/\
   r=[.int .i64 k,.int .i64 a,.string s,.string b,.int .i64 e,.int .i64 u,.int .i64 f,.slice p o v,.bool y]:=by
 obtain⟨xs,m,_,g,B,z,c⟩:=DataW.trod_struct Tryz.underlying62 h;rw[Gh]at B
 match r,B,xs,z,c,g with
 |[v0,v1,v2,v3,v4,v5,v6,v7,v8],_,[y0,y1,y2,y3,y4,y5],_,c,g=>
  have C:=c 0 (Field.mk "Kind" 3 0 false "" "" 0) rfl;have D:=c 1 (Field.mk "On" 3 1 false "" "" 8) rfl;have E:=c 2 (Field.mk "Text" 9 2 false "" "" 16) rfl;have F:=c 3 (Field.mk "P" 35 3 false "" "" 32) rfl;have L:=c 4 (Field.mk "Down" 28 7 false "" "" 72) rfl;have P:=c 5 (Field.mk "Up" 4 8 false "" "" 96) rfl;simp only[Je,Nn,DG,FV,FW,K,G,O,M,V,Y]at C D E F L P;obtain⟨k,Q,_,_⟩:=DataW.trod_int Tryz.underlying3 C;obtain⟨a,R,_,w1⟩:=DataW.trod_int Tryz.underlying3 D;obtain⟨s,S,_,_⟩:=DataW.trod_string Tryz.underlying9 E;obtain⟨zs,m',_,_,_,A,i⟩:=DataW.trod_struct Tryz.underlying35 F;obtain⟨y,T,_⟩:=DataW.trod_bool Tryz.underlying4 P
  obtain⟨p,o,v,q,W,l1,l2,l3⟩:=FX L (fun k hk=>t k (by
   rw[g];simp only[DataW.weights,Tryz.underlying62]
   exact DataW.weights_mem_each (j:=4) rfl rfl k hk))
  match zs,A,i with
  |[z0,z1,z2,z3],_,i=>
   have Z:=i 0 (Field.mk "Pan" 9 0 false "" "" 0) rfl;have q1:=i 1 (Field.mk "Mcc" 3 1 false "" "" 16) rfl;have q2:=i 2 (Field.mk "Amount" 3 2 false "" "" 24) rfl;have q3:=i 3 (Field.mk "Cur" 3 3 false "" "" 32) rfl;simp only[Je,Nn,K,G,O,M,V,Y]at Z q1 q2 q3;obtain⟨b,e3,_,lp⟩:=DataW.trod_string Tryz.underlying9 Z;obtain⟨e,e4,_,_⟩:=DataW.trod_int Tryz.underlying3 q1;obtain⟨u,e5,_,_⟩:=DataW.trod_int Tryz.underlying3 q2;obtain⟨f,e6,_,_⟩:=DataW.trod_int Tryz.underlying3 q3;simp only[N.injEq,and_true]at Q R S e3 e4 e5 e6 W T;subst Q R S e3 e4 e5 e6 W T;have hw: -9223372036854775808<=a/\a<=9223372036854775807:=(by simpa[Lit.wf]using w1:IntKind.i64.min<=a/\a<=9223372036854775807);exact⟨k,a,s,b,e,u,f,p,o,v,y,q,⟨hw.1,hw.2,l1,l2,lp,l3⟩,rfl⟩
set_option maxRecDepth 100000 in
theorem DI (H:Type)(enc:TypeId×U->H)(W:X)(base:Nat)(args:Array U)(P Y:List (DataW H))(r:List MemPlace)
  (u:∀(j:Nat) t v,Tryz.f5.params[j]?=J t->args[j]?=J v->Value.okWide I W .any base t v)
  (hW:DataW.Whole enc I Tryz.f5.params.toList Rows.reportsSpec.vars false W args.toList P Y r)(w:(DataW.weightsEach I (Tryz.f5.params.toList++Rows.reportsSpec.plain.varTypes I) (P++Y)).all (· <=reachBytes)=true)(hL:laidMetH I Rows.reportsRow.laid W):
  Calls I 5 args W fun e W'=>∃v,e=.returned v/\Rows.reportsSpec.post enc I Tryz.f5 false true false false W args v W':=by
 have y:(DataW.weightsEach I (Tryz.f5.params.toList++[]) (P++Y)).all (· <=reachBytes)=true:=w;clear w;have z:=hW;obtain⟨p,q,G,hV,rfl,_,_⟩:=hW;have hA:DataW.TrodAll enc I W 0 (fun _=>true) true Tryz.f5.params.toList args.toList P p:=G;rw[Tryz.params5]at hA u y;obtain⟨v0,d0,rfl,rfl,h0⟩:=trodAll_one hA;obtain⟨rfl,rfl⟩:=trodVars_none hV;have b0:=h0;obtain⟨i0,hf⟩:=h0;clear G;simp only[List.append_nil]at z
 have c0:∀x∈p,x.block<W.heap.size:=fun x Q=>by simpa using z.lt x Q
 obtain⟨a0,l,cap,rfl⟩:=okWide_slice Tryz.underlying22 (u 0 22 v0 rfl rfl)
 have hT:∀w',Below W.heap.size W w'->QA w':=fun w' hb=>(B7 hL).below (Nat.le_refl _) hb
 have K:Calls I 5 #[.slice a0 l cap] W fun e w'=>e=.returned (.bool true)/\Below W.heap.size W w':=by
  rcases open_slice Tryz.underlying22 hf with⟨o,_⟩|⟨a,j0,k0,m,n,D,Pl,o,hb,hl,hm,e0,f0,Q⟩
  ·simp[Value.cells]at o
   obtain⟨rfl,rfl,rfl⟩:=o;exact Pf W E 0 0 (by omega) (fun i R=>by omega) hT
  ·simp[Value.cells]at o
   obtain⟨rfl,rfl,rfl⟩:=o;simp only[if_true]at e0;have hd:d0=.slice ((T l).map D) ((T (m-l)).map fun j=>D (l+j)):=congrArg Prod.fst f0
   have hB:l*104<=reachBytes:=by
    have e:=sized_slice y (j:=0) (t:=22) (e:=62) rfl (by rw[hd];rfl) Tryz.underlying22;rw[CF]at e;simp at e;omega
   have g0:∀i,i<l->∀n∈(D i).weights I 62,n<=reachBytes:=fun i R n hn=>by
    have e:=List.all_eq_true.1 y n (DataW.weights_mem_each (j:=0) (t:=22) (d:=d0) rfl rfl n (by
     rw[hd];simp only[DataW.weights,Tryz.underlying22]
     exact List.mem_cons_of_mem _ (Z _ (Sg (List.mem_map.2 ⟨i,List.mem_range.2 R,rfl⟩) n hn))))
    simpa using e
   refine Pf W (J a) l cap (by unfold reachBytes at hB;omega) (fun i R=>?_) hT;obtain⟨cs',h1,h2⟩:=Q i (by omega);obtain⟨Ez,h3,_⟩:=Q 0 (by omega);rw[Gh]at h1 h3;obtain⟨_,l0,A⟩:=S h1;obtain⟨_,C,f⟩:=S h3;obtain⟨k,on,s,L,M,am,N,da,dn,dc,up,dl,hD,rfl⟩:=CG h2 (g0 i R);obtain⟨b,off,O⟩:=a
   have F:O=E:=by
    match Ez,C,f with
    |c::_,_,f=>simpa[Addr.add]using B (f 0 (by omega))
   subst F
   have g:∀j v,[Value.int .i64 k,.int .i64 on,.string s,.string L,.int .i64 M,.int .i64 am,.int .i64 N,.slice da dn dc,.bool up][j]?=J v->W.cell? ⟨b,off+i*9+j,E⟩=J v:=fun j v hj=>by
    have:=A j (iG.1 hj).1;rw[add_plain,add_plain]at this;rw[this];exact hj
   exact⟨b,off,rfl,bL W _ (g 0 _ rfl),k,on,s,L,M,am,N,da,dn,dc,up,dl,hD,g 0 _ rfl,g 1 _ rfl,g 2 _ rfl,g 3 _ rfl,g 4 _ rfl,g 5 _ rfl,g 6 _ rfl,g 7 _ rfl,g 8 _ rfl⟩
 refine K.mono fun e W' ⟨he,hB⟩=>?_
 subst he;exact⟨_,rfl,⟨_,_,_,[],_,[],z,trodAll_mk1 (shut_bool Tryz.underlying4 true),trodAll_mk1 (Below.trod CE (by kernel_rfl) (of_decide_eq_true (by kernel_rfl)) b0 hB c0),rfl,hB.frame _,fun h=>by cases h⟩⟩
theorem B8 (os:Os){H:Type}(enc:TypeId×U->H):∃a,DataW.whole enc I ((R I os Rows.reportsRow.laid).forCall (fun _ _=>0) ⟨#[],#[.slice E 0 0],[]⟩).memory Tryz.f5.params.toList Rows.reportsSpec.vars false #[Value.slice E 0 0].toList 8=J ([.nil],[],a):=
 ⟨[],by kernel_rfl⟩
set_option maxRecDepth 100000 in
theorem lifted (os:Os)(a:os.Started)(H:Type)(enc:TypeId×U->H)(F:Stop.Interp):
    ReturnsInHanded {} Tryz.checked os 5 .any ((OpenSpec.ofChange Rows.reportsSpec).preRow enc I Tryz.f5 Rows.reportsRow.domain false Rows.reportsRow.laid) (((OpenSpec.ofChange Rows.reportsSpec).at F).post enc I Tryz.f5 false true false false):=by
  obtain⟨d,f⟩:=B8 os enc;refine returnsInHanded_of_row (C:=Tryz.checked) (s:=OpenSpec.ofChange Rows.reportsSpec) ZP a (by kernel_rfl) Tryz.func5
    (witness_row_atRef (enc:=enc) (C:=Tryz.checked) false (R I os Rows.reportsRow.laid) #[.slice E 0 0] (L _ _ _) (FU os) (by kernel_rfl) (by kernel_rfl)
      (OpenSpec.preRow_of_cond 8 f (by kernel_rfl) (fun k g=>by cases g) (by kernel_rfl) (DF os))) ?_
  intro W base args h i b c j _ _ e l _ _;exact DI H enc W base args h i b c j e l
set_option maxRecDepth 100000 in
theorem AM:Rows.ReportsSaid:=
 OpenClaim.holds_of_cond 5 Tryz.f5 rfl rfl rfl rfl rfl rfl rfl ⟨rfl,rfl,rfl,rfl,rfl⟩ rfl rfl rfl rfl rfl (by kernel_rfl) Tryz.func5 Nm
  (of_decide_eq_true (by kernel_rfl)) (by unfold Func.isWrapper;first|(rw[if_pos (by decide+kernel)];kernel_rfl)|(rw[if_neg (by decide+kernel)];exact⟨rfl,rfl⟩))
  (fun os a H enc _ F=>by rw[OpenClaim.pre_eq_preRow];exact lifted os a H enc F)
theorem plain (f:FuncId)(fn:Func)(c:Tryz.pinned.checked.prog.funcNamed "junction/junctionlaw.Reports" =J f)(a:Tryz.pinned.checked.prog.funcs[f]?=J fn):
  true=Tryz.pinned.checked.prog.looks []/\∀(j:Nat) t,fn.params[j]?=J t->Tryz.pinned.checked.prog.wantsStandIn t=false:=by
 obtain rfl:f=5:=Option.some.inj ((show I.funcNamed "junction/junctionlaw.Reports" =J 5 by kernel_rfl).symm.trans c)|>.symm;obtain rfl:fn=Tryz.f5:=(Option.some.inj (Tryz.func5.symm.trans a)).symm;refine⟨by kernel_rfl,fun j t b=>?_⟩;rw[Tryz.params5]at b
 obtain rfl:t=22:=by simpa using Array.mem_of_getElem? b
 exact(show I.wantsStandIn 22=false by kernel_rfl)
theorem reports_card:Rows.ReportsCardSaid:=
 Claim7.holds_tied_plain_at .later [] _ _ _ _ AM (fun _ h=>by cases h) (by kernel_rfl) (fun _ h=>by cases h) reports_row_tie rfl ⟨rfl,rfl⟩ (by kernel_rfl) rfl plain (by kernel_rfl)
