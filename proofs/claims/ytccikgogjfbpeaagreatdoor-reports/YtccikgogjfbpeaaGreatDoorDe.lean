import Derived.Test.YtccikgogjfbpeaaGreatDoorDc
open Option renaming some->I,none->J
open Go.Value renaming int->P,slice->Z,pointer->G,agg->C
open Go.IntKind renaming i64->V,u8->K
open Go.RowKit renaming Hid->Y
open _root_.ByteArray renaming empty->U
open Go.Proofs.Tryz renaming prog->O
open Go.Ending renaming returned->E
open Or renaming inr->H,inl->F
open Go.Obj renaming cells->B
open Go renaming World->D,Calls->M
open List renaming mem_append->N,length_cons->z0,mem_cons->z1
namespace Go.Proofs.YtccikgogjfbpeaaGreatDoor
set_option maxRecDepth 30000
set_option maxHeartbeats 8000000
open Go.RowKit
theorem Ik (w:D):M O 112 #[] w fun e w'=>e=E (C #[.func (.func 165) #[] #[],.func (.func 166) #[] #[],.func (.func 167) #[] #[],.func (.func 168) #[] #[],.func (.func 169) #[] #[],.func (.func 170) #[] #[],.func (.func 171) #[] #[]])/\F0 w w':=by
 have f:=fun(w:D)(a:Addr)(m:Mode)(fn:Fn)(x y:Array Value)=>run_store O w a (.func fn x y) m rfl
 go_enter Tryz.func112,Tryz.ntmps112;have b:=aN w (B #[.nilFunc,.nilFunc,.nilFunc,.nilFunc,.nilFunc,.nilFunc,.nilFunc] 204);have g:Y (F0 w (w.alloc (B #[.nilFunc,.nilFunc,.nilFunc,.nilFunc,.nilFunc,.nilFunc,.nilFunc] 204))):=(Fr.refl _ _).alloc _;go_upto_region 1 with fail;generalize w.alloc (B #[.nilFunc,.nilFunc,.nilFunc,.nilFunc,.nilFunc,.nilFunc,.nilFunc] 204)=W at*;obtain⟨A,c⟩:∃A,w.heap.size=A:=⟨_,rfl⟩;have h:Y (w.heap.size=A):=c;rw[c]at b;rw[c];clear c;have s:W.cell? ⟨A,0,J⟩=I .nilFunc:=bC b 0 _ rfl;have t:=bF b 0;have u:W.cell? ⟨A,1,J⟩=I .nilFunc:=bC b 1 _ rfl;have z:=bF b 1;have F:W.cell? ⟨A,2,J⟩=I .nilFunc:=bC b 2 _ rfl;have G:=bF b 2;have K:W.cell? ⟨A,3,J⟩=I .nilFunc:=bC b 3 _ rfl;have L:=bF b 3;have N:W.cell? ⟨A,4,J⟩=I .nilFunc:=bC b 4 _ rfl;have P:=bF b 4;have Q:W.cell? ⟨A,5,J⟩=I .nilFunc:=bC b 5 _ rfl;have R:=bF b 5;have S:W.cell? ⟨A,6,J⟩=I .nilFunc:=bC b 6 _ rfl;have T:=bF b 6;have d:Y _:=heap_setCell_same _ A 6 _ _ (.func (.func 171) #[] #[]) (heap_setCell_same _ A 5 _ _ (.func (.func 170) #[] #[]) (heap_setCell_same _ A 4 _ _ (.func (.func 169) #[] #[]) (heap_setCell_same _ A 3 _ _ (.func (.func 168) #[] #[]) (heap_setCell_same _ A 2 _ _ (.func (.func 167) #[] #[]) (heap_setCell_same _ A 1 _ _ (.func (.func 166) #[] #[]) (heap_setCell_same W A 0 _ _ (.func (.func 165) #[] #[]) b))))));clear b;go_wp2_with fail;have i:=bC d.o 0 (.func (.func 165) #[] #[]) rfl;have j:=bC d.o 1 (.func (.func 166) #[] #[]) rfl;have k:=bC d.o 2 (.func (.func 167) #[] #[]) rfl;have l:=bC d.o 3 (.func (.func 168) #[] #[]) rfl;have n:=bC d.o 4 (.func (.func 169) #[] #[]) rfl;have q:=bC d.o 5 (.func (.func 170) #[] #[]) rfl;have r:=bC d.o 6 (.func (.func 171) #[] #[]) rfl;have b:w.heap.size<=A:=Nat.le_of_eq h.o;refine bodyPost_ret (v:=C #[.func (.func 165) #[] #[],.func (.func 166) #[] #[],.func (.func 167) #[] #[],.func (.func 168) #[] #[],.func (.func 169) #[] #[],.func (.func 170) #[] #[],.func (.func 171) #[] #[]]) (by simp[results,Tryz.results112,go_sem,i,j,k,l,n,q,r]) rfl ⟨rfl,?_⟩
 exact((((((g.o.setCell (p:=⟨A,0,J⟩) (H b) _).setCell (p:=⟨A,1,J⟩) (H b) _).setCell (p:=⟨A,2,J⟩) (H b) _).setCell (p:=⟨A,3,J⟩) (H b) _).setCell (p:=⟨A,4,J⟩) (H b) _).setCell (p:=⟨A,5,J⟩) (H b) _).setCell (p:=⟨A,6,J⟩) (H b) _
def NF (w:D)(Q:Nat)(c:Option Addr)(l:List Zn):Prop:=
 ∀k s,l[k]?=I s->∃g a d,c=I ⟨g,0,J⟩/\g≠Q/\w.cell? ⟨g,k*4,J⟩=I (P K (s.sort:Nat))/\w.cell? ⟨g,k*4+1,J⟩=I (Z a s.nums.length d)/\w.cell? ⟨g,k*4+2,J⟩=I (P V (s.rule:Nat))/\w.cell? ⟨g,k*4+3,J⟩=I (P V (s.skip:Nat))/\Zw w a s.nums/\∀b,a=I ⟨b,0,J⟩->b≠Q
theorem NF.fr {w w':D}{Q:Nat}{d:Option Addr}{l:List Zn}(h:NF w Q d l)(a:Fr (fun j=>j=Q) w w'):NF w' Q d l:=by
 intro k s i;obtain⟨g,m,n,o,b,e,q,r,t,u,f⟩:=h k s i;have c:=bL w _ e;exact⟨g,m,n,o,b,(a.cell (p:=⟨g,k*4,J⟩) c b).trans e,(a.cell (p:=⟨g,k*4+1,J⟩) c b).trans q,(a.cell (p:=⟨g,k*4+2,J⟩) c b).trans r,(a.cell (p:=⟨g,k*4+3,J⟩) c b).trans t,u.fr a f,f⟩
def Cd (s:Zn):Prop:=s.nums.length<=4000/\s.skip<=255/\(s.sort=1->∃x y,s.nums=[x,y])
def WZ (a:List Zd)(b:ByteArray)(s:Zn)(c:Nat->Bool)(d:Int):Nat×ByteArray×ByteArray:=
 if s.sort=3 then(3,b,U)else if s.sort=4 then Qx a b (Yv false (Xe a d) c s.nums J)else if s.sort=5 then Qx a b (Yv true (Xe a d) c s.nums J)else(2,U,U)
def Il (w:D)(b Q:Nat)(a:List Zd)(c:ByteArray)(s:Zn):Prop:=
 s.sort=6\/((s.sort=3\/s.sort=4\/s.sort=5)/\s.nums.length<=4000/\(∀x,x∈s.nums->x<a.length)/\∃g m d,Ri w b Q s.rule c g m d)
theorem Il.fr {w w':D}{b Q:Nat}{a:List Zd}{c:ByteArray}{s:Zn}(h:Il w b Q a c s)(d:Fr (fun j=>j=Q) w w'):Il w' b Q a c s:=by
 rcases h with h|⟨e,f,i,g,m,k,l⟩
 ·exact F h
 ·exact H ⟨e,f,i,g,m,k,l.fr d⟩
def Ce (W:D)(Q b:Nat)(p:ZI)(c:Nat->Bool)(o:Nat×ByteArray×ByteArray)(l:List Zn)(d:Zn)(a:Nat×ByteArray×ByteArray)(m:Nat)(wr:D):Prop:=
 Fr (fun j=>j=Q) W wr/\((∃k,wr.heap[Q]?=I (VD b p c k false o)/\Xc (TL p) l m k=I d)\/∃k,wr.heap[Q]?=I (VD b p c k true a))
theorem Fl {c:Zn->Bool}{l:List Zn}{m k:Nat}{d:Zn}(h:Xc c l m k=I d):∃b s,m=b+1/\l[k]?=I s/\(s.sort<3/\Xc c l b (if c s then k+1 else k+s.skip)=I d\/¬s.sort<3/\s=d):=by
 cases m with
 |zero=>simp[Xc]at h
 |succ b=>
  unfold Xc at h
  cases e:l[k]? with
  |none=>rw[e]at h;cases h
  |some s=>
   rw[e]at h
   dsimp only at h
   refine⟨b,s,rfl,rfl,?_⟩
   split at h
   ·rename_i a
    exact F ⟨a,h⟩
   ·rename_i a
    injection h with h;exact H ⟨a,h⟩
theorem Kv (w:D)(Q N:Nat)(p:ZI)(S:Nat->Bool)(o:Nat×ByteArray×ByteArray)(pa:Option Addr)(pc:Nat)(l:List Zn)(sE:Zn)(u:List Zd)(ra:Option Addr)(rc:Nat)(nm:ByteArray)
  (h:w.heap[Q]?=I (VD N p S 0 false o))(E0:NF w Q pa l)(G0:∀s,s∈l->s.sort<3->Cd s)(hl:l.length<=1000)(hm:∃n,Xc (TL p) l n 0=I sE)(H0:Il w N Q u nm sE)(hr:TN w N Q u ra rc)(h6:u.length<=6)(I0:0<=p.am/\p.am<=1000000000):
  M O 64 #[G (I ⟨Q,0,J⟩),Z pa l.length pc] w fun e w'=>e=E (.tuple #[])/\(∃k,w'.heap[Q]?=I (VD N p S k true (WZ u nm sE S p.am)))/\Fr (fun j=>j=Q) w w':=by
 obtain⟨n0,hm⟩:=hm;obtain⟨v,l0⟩:∃v,WZ u nm sE S p.am=v:=⟨_,rfl⟩;have i0:Y (WZ u nm sE S p.am=v):=l0;have HH:Y (w.heap[Q]?=I (VD N p S 0 false o)):=h;have J0:Y (NF w Q pa l):=E0;have a1:Y (∀s,s∈l->s.sort<3->Cd s):=G0;have HM:Y (Xc (TL p) l n0 0=I sE):=hm;have K0:Y (Il w N Q u nm sE):=H0;have HR:Y (TN w N Q u ra rc):=hr;have H6:Y (u.length<=6):=h6;have L0:Y (0<=p.am/\p.am<=1000000000):=I0;obtain⟨n,hn⟩:∃n,l.length=n:=⟨_,rfl⟩;have HN:Y (l.length=n):=hn;rw[hn]at hl;rw[hn,l0];clear h E0 G0 hm H0 hr h6 I0 l0 hn
 have b1:=fun(w:D)(a:Addr)(m:Mode)(fn:Fn)(x y:Array Value)=>run_store O w a (.func fn x y) m rfl
 go_enter Tryz.func64,Tryz.ntmps64;go_wp2_with fail;refine(Ik w).mono ?_;rintro e w1 ⟨rfl,A0⟩;have m0:Y (F0 w (w1.alloc (B #[.func (.func 165) #[] #[],.func (.func 166) #[] #[],.func (.func 167) #[] #[],.func (.func 168) #[] #[],.func (.func 169) #[] #[],.func (.func 170) #[] #[],.func (.func 171) #[] #[]] 204))):=A0.alloc _;have HA:Y ((w1.alloc (B #[.func (.func 165) #[] #[],.func (.func 166) #[] #[],.func (.func 167) #[] #[],.func (.func 168) #[] #[],.func (.func 169) #[] #[],.func (.func 170) #[] #[],.func (.func 171) #[] #[]] 204)).heap[w1.heap.size]?=I (B #[.func (.func 165) #[] #[],.func (.func 166) #[] #[],.func (.func 167) #[] #[],.func (.func 168) #[] #[],.func (.func 169) #[] #[],.func (.func 170) #[] #[],.func (.func 171) #[] #[]] 204)):=aN w1 _
 have M0:Y (w1.heap.size≠Q):=by have:=(iA.1 HH.o).1;have:=A0.size;show _≠_;omega
 clear A0;go_upto_region 1 with fail;generalize w1.alloc (B #[.func (.func 165) #[] #[],.func (.func 166) #[] #[],.func (.func 167) #[] #[],.func (.func 168) #[] #[],.func (.func 169) #[] #[],.func (.func 170) #[] #[],.func (.func 171) #[] #[]] 204)=W at*;generalize w1.heap.size=A at*;have c1:Y (Ce W Q N p S o l sE v n0 W):=⟨Fr.refl _ _,F ⟨0,m0.o.whole HH.o (by simp),HM.o⟩⟩;have N0:Y (NF W Q pa l):=J0.o.fr (m0.o.mono (by simp));have O0:Y (Il W N Q u nm sE):=K0.o.fr (m0.o.mono (by simp));have P0:Y (TN W N Q u ra rc):=HR.o.fr (m0.o.mono (by simp));clear J0 K0 HR HH HM b1
 go_loopg [5] n0 (fun m _ wr=>Y (Ce W Q N p S o l sE v m wr))
 case atStart=>exact c1
 case round=>
  obtain⟨o0,⟨k,hq,Q0⟩|⟨k,hq⟩⟩:=hrel.o
  ·obtain⟨m',s,rfl,hs,p0⟩:=Fl Q0
   obtain⟨g,i,q,rfl,m1,e0,e1,e2,e3,R0,S0⟩:=(N0.o.fr o0) k s hs;have T0:wr.cell? ⟨Q,12,J⟩=I (.bool false):=bC hq 12 _ rfl;have d1:wr.cell? ⟨Q,11,J⟩=I (P V (k:Nat)):=bC hq 11 _ rfl
   have n1:k<n:=by have:=(iG.1 hs).1;have:=HN.o;omega
   have o1:(k:Int)<(n:Int):=by omega
   have HK:Y (k<=100000):=by show _<=_;omega
   have t0:Y (Fr (fun j=>j=Q) W wr):=o0;have HQ:Y (wr.heap[Q]?=I (VD N p S k false o)):=hq;have f1:Y (Q<wr.heap.size):=(iA.1 hq).1;have HS:Y (s∈l):=mG hs;have g1:Y (s.sort<3/\Xc (TL p) l m' (if TL p s then k+1 else k+s.skip)=I sE\/¬s.sort<3/\s=sE):=p0;have h1:Y (Zw wr i s.nums/\∀g',i=I ⟨g',0,J⟩->g'≠Q):=⟨R0,S0⟩;have v0:Y (F0 wr (wr.alloc (B #[P K (s.sort:Nat),Z i s.nums.length q,P V (s.rule:Nat),P V (s.skip:Nat)] 208))):=(Fr.refl _ _).alloc _;have d0:Y ((wr.alloc (B #[P K (s.sort:Nat),Z i s.nums.length q,P V (s.rule:Nat),P V (s.skip:Nat)] 208)).heap[wr.heap.size]?=I (B #[P K (s.sort:Nat),Z i s.nums.length q,P V (s.rule:Nat),P V (s.skip:Nat)] 208)):=aN wr _;have R:Y (wr.heap.size≠Q/\A≠Q):=⟨by have:=f1.o;omega,M0.o⟩;clear hs p0 R0 S0 hq Q0 hrel o0;go_upto_region 3 with fail;generalize wr.alloc (B #[P K (s.sort:Nat),Z i s.nums.length q,P V (s.rule:Nat),P V (s.skip:Nat)] 208)=t at*;generalize wr.heap.size=X at*;clear e0 e1 e2 e3 d1 T0;have f0:Y (t.heap[Q]?=I (VD N p S k false o)):=v0.o.whole HQ.o (by simp);have b0:=v0.o.whole (t0.o.whole HA.o M0.o) (by simp);have b0:Y _:=b0;have z:Y (Fr (fun j=>j=Q) W t):=t0.o.trans (v0.o.mono (by simp));have q0:Y (Zw t i s.nums):=h1.o.1.fr v0.o (by simp);rcases g1.o with⟨w0,V0⟩|⟨i1,j1⟩
   ·have B0:Y (Xc (TL p) l m' (if TL p s then k+1 else k+s.skip)=I sE):=V0
    obtain⟨r0,k1,W0⟩:=a1.o s HS.o w0;have s0:Y (s.nums.length<=4000/\s.skip<=100000):=⟨r0,by omega⟩;have l1:Y (s.sort=1->∃x y,s.nums=[x,y]):=W0;clear V0 r0 k1 W0
    have h3:s.sort=0\/s.sort=1\/s.sort=2:=by omega
    rcases h3 with d|d|d
    ·have r:Y (s.sort=0):=d
     clear w0 d
     have c:Y (∀b,Fr (fun j=>j=Q) t b->b.cell? ⟨X,0,J⟩=I (P K 0)/\b.cell? ⟨X,1,J⟩=I (Z i s.nums.length q)/\b.cell? ⟨X,2,J⟩=I (P V (s.rule:Nat))/\b.cell? ⟨X,3,J⟩=I (P V (s.skip:Nat))/\b.cell? ⟨A,0,J⟩=I (.func (.func 165) #[] #[])):=by
      intro b f;have L:=f.whole d0.o (fun e=>R.o.1 e);have ha:=f.whole b0.o (fun e=>R.o.2 e);have h0:=bC L 0 _ rfl;rw[r.o]at h0;exact⟨h0,bC L 1 _ rfl,bC L 2 _ rfl,bC L 3 _ rfl,bC ha 0 _ rfl⟩
     have hS:=c.o t (Fr.refl _ _);have j0:Y (F0 t t.drew):=(Fr.refl _ _).drew
     have HC:Y (∀b,Y (F0 t b)->M O 165 #[G (I ⟨Q,0,J⟩),C #[P K 0,Z i s.nums.length q,P V (s.rule:Nat),P V (s.skip:Nat)]] b fun e w'=>e=E (.tuple #[])/\Y (Ce W Q N p S o l sE v m' w')/\w'.cell? ⟨X,0,J⟩=I (P K 0)/\w'.cell? ⟨X,1,J⟩=I (Z i s.nums.length q)/\w'.cell? ⟨X,2,J⟩=I (P V (s.rule:Nat))/\w'.cell? ⟨X,3,J⟩=I (P V (s.skip:Nat))/\w'.cell? ⟨A,0,J⟩=I (.func (.func 165) #[] #[])):=by
      intro b f;refine(Ig b Q N k p S o 0 i s.nums q s.rule s.skip (f.o.whole f0.o (by simp)) HK.o s0.o.2 (q0.o.fr f.o (by simp)) s0.o.1).mono ?_;rintro e w' ⟨he,h2,h3⟩;have h4:=(f.o.mono (T:=fun j=>j=Q) (by simp)).trans h3;have e:=B0.o;rw[show TL p s=Vo s.nums p.mcc from by unfold TL;rw[if_pos r.o]]at e;exact⟨he,⟨z.o.trans h4,F ⟨_,h2,e⟩⟩,c.o _ h4⟩
     clear c
     go_region_held3 (fun b=>b.cell? ⟨X,0,J⟩=I (P K 0)/\b.cell? ⟨X,1,J⟩=I (Z i s.nums.length q)/\b.cell? ⟨X,2,J⟩=I (P V (s.rule:Nat))/\b.cell? ⟨X,3,J⟩=I (P V (s.skip:Nat))/\b.cell? ⟨A,0,J⟩=I (.func (.func 165) #[] #[])) (first|assumption|go_keep) (first
      |(go_at_call 165;refine(HC.o _ (by assumption)).mono ?_;rintro e w7 ⟨rfl,a0,k0⟩))
     go_wp2_with fail;go_roundg m'
     case measure=>omega
     case rel=>exact a0
    ·have r:Y (s.sort=1):=d
     clear w0 d
     have c:Y (∀b,Fr (fun j=>j=Q) t b->b.cell? ⟨X,0,J⟩=I (P K 1)/\b.cell? ⟨X,1,J⟩=I (Z i s.nums.length q)/\b.cell? ⟨X,2,J⟩=I (P V (s.rule:Nat))/\b.cell? ⟨X,3,J⟩=I (P V (s.skip:Nat))/\b.cell? ⟨A,1,J⟩=I (.func (.func 166) #[] #[])):=by
      intro b f;have L:=f.whole d0.o (fun e=>R.o.1 e);have ha:=f.whole b0.o (fun e=>R.o.2 e);have h0:=bC L 0 _ rfl;rw[r.o]at h0;exact⟨h0,bC L 1 _ rfl,bC L 2 _ rfl,bC L 3 _ rfl,bC ha 1 _ rfl⟩
     have hS:=c.o t (Fr.refl _ _);have j0:Y (F0 t t.drew):=(Fr.refl _ _).drew;obtain⟨x,y,X0⟩:=l1.o r.o;have C0:Y (s.nums=[x,y]):=X0;clear X0
     have HC:Y (∀b,Y (F0 t b)->M O 166 #[G (I ⟨Q,0,J⟩),C #[P K 1,Z i s.nums.length q,P V (s.rule:Nat),P V (s.skip:Nat)]] b fun e w'=>e=E (.tuple #[])/\Y (Ce W Q N p S o l sE v m' w')/\w'.cell? ⟨X,0,J⟩=I (P K 1)/\w'.cell? ⟨X,1,J⟩=I (Z i s.nums.length q)/\w'.cell? ⟨X,2,J⟩=I (P V (s.rule:Nat))/\w'.cell? ⟨X,3,J⟩=I (P V (s.skip:Nat))/\w'.cell? ⟨A,1,J⟩=I (.func (.func 166) #[] #[])):=by
      intro b f
      have e2:s.nums.length=2:=by rw[C0.o];rfl
      rw[e2];have hi:=q0.o.fr f.o (by simp);rw[C0.o]at hi;refine(ND b Q N k p S o 1 i x y q s.rule s.skip (f.o.whole f0.o (by simp)) HK.o s0.o.2 hi).mono ?_;rintro e w' ⟨he,h2,h3⟩;have h4:=(f.o.mono (T:=fun j=>j=Q) (by simp)).trans h3;have e:=B0.o;rw[show TL p s=(decide ((x:Int)<=p.am)&&decide (p.am<=(y:Int)))from by unfold TL;rw[if_neg (by rw[r.o];decide),if_pos r.o,C0.o];rfl]at e;have hS:=c.o _ h4;rw[e2]at hS;exact⟨he,⟨z.o.trans h4,F ⟨_,h2,e⟩⟩,hS⟩
     clear c
     go_region_held3 (fun b=>b.cell? ⟨X,0,J⟩=I (P K 1)/\b.cell? ⟨X,1,J⟩=I (Z i s.nums.length q)/\b.cell? ⟨X,2,J⟩=I (P V (s.rule:Nat))/\b.cell? ⟨X,3,J⟩=I (P V (s.skip:Nat))/\b.cell? ⟨A,1,J⟩=I (.func (.func 166) #[] #[])) (first|assumption|go_keep) (first
      |(go_at_call 166;refine(HC.o _ (by assumption)).mono ?_;rintro e w7 ⟨rfl,a0,k0⟩))
     go_wp2_with fail;go_roundg m'
     case measure=>omega
     case rel=>exact a0
    ·have r:Y (s.sort=2):=d
     clear w0 d
     have c:Y (∀b,Fr (fun j=>j=Q) t b->b.cell? ⟨X,0,J⟩=I (P K 2)/\b.cell? ⟨X,1,J⟩=I (Z i s.nums.length q)/\b.cell? ⟨X,2,J⟩=I (P V (s.rule:Nat))/\b.cell? ⟨X,3,J⟩=I (P V (s.skip:Nat))/\b.cell? ⟨A,2,J⟩=I (.func (.func 167) #[] #[])):=by
      intro b f;have L:=f.whole d0.o (fun e=>R.o.1 e);have ha:=f.whole b0.o (fun e=>R.o.2 e);have h0:=bC L 0 _ rfl;rw[r.o]at h0;exact⟨h0,bC L 1 _ rfl,bC L 2 _ rfl,bC L 3 _ rfl,bC ha 2 _ rfl⟩
     have hS:=c.o t (Fr.refl _ _);have j0:Y (F0 t t.drew):=(Fr.refl _ _).drew
     have HC:Y (∀b,Y (F0 t b)->M O 167 #[G (I ⟨Q,0,J⟩),C #[P K 2,Z i s.nums.length q,P V (s.rule:Nat),P V (s.skip:Nat)]] b fun e w'=>e=E (.tuple #[])/\Y (Ce W Q N p S o l sE v m' w')/\w'.cell? ⟨X,0,J⟩=I (P K 2)/\w'.cell? ⟨X,1,J⟩=I (Z i s.nums.length q)/\w'.cell? ⟨X,2,J⟩=I (P V (s.rule:Nat))/\w'.cell? ⟨X,3,J⟩=I (P V (s.skip:Nat))/\w'.cell? ⟨A,2,J⟩=I (.func (.func 167) #[] #[])):=by
      intro b f;refine(Ih b Q N k p S o 2 i s.nums q s.rule s.skip (f.o.whole f0.o (by simp)) HK.o s0.o.2 (q0.o.fr f.o (by simp)) s0.o.1).mono ?_;rintro e w' ⟨he,h2,h3⟩;have h4:=(f.o.mono (T:=fun j=>j=Q) (by simp)).trans h3;have e:=B0.o;rw[show TL p s=Vo s.nums p.cur from by unfold TL;rw[if_neg (by rw[r.o];decide),if_neg (by rw[r.o];decide)]]at e;exact⟨he,⟨z.o.trans h4,F ⟨_,h2,e⟩⟩,c.o _ h4⟩
     clear c
     go_region_held3 (fun b=>b.cell? ⟨X,0,J⟩=I (P K 2)/\b.cell? ⟨X,1,J⟩=I (Z i s.nums.length q)/\b.cell? ⟨X,2,J⟩=I (P V (s.rule:Nat))/\b.cell? ⟨X,3,J⟩=I (P V (s.skip:Nat))/\b.cell? ⟨A,2,J⟩=I (.func (.func 167) #[] #[])) (first|assumption|go_keep) (first
      |(go_at_call 167;refine(HC.o _ (by assumption)).mono ?_;rintro e w7 ⟨rfl,a0,k0⟩))
     go_wp2_with fail;go_roundg m'
     case measure=>omega
     case rel=>exact a0
   ·subst j1
    rcases O0.o with d|⟨d,r0,Y0,ng,x0,y0,Z0⟩
    ·have r:Y (s.sort=6):=d
     have g0:Y (v=(2,U,U)):=by show _=_;rw[<-i0.o];unfold WZ;simp[d]
     clear d
     have c:Y (∀b,Fr (fun j=>j=Q) t b->b.cell? ⟨X,0,J⟩=I (P K 6)/\b.cell? ⟨X,1,J⟩=I (Z i s.nums.length q)/\b.cell? ⟨X,2,J⟩=I (P V (s.rule:Nat))/\b.cell? ⟨X,3,J⟩=I (P V (s.skip:Nat))/\b.cell? ⟨A,6,J⟩=I (.func (.func 171) #[] #[])):=by
      intro b f;have L:=f.whole d0.o (fun e=>R.o.1 e);have ha:=f.whole b0.o (fun e=>R.o.2 e);have h0:=bC L 0 _ rfl;rw[r.o]at h0;exact⟨h0,bC L 1 _ rfl,bC L 2 _ rfl,bC L 3 _ rfl,bC ha 6 _ rfl⟩
     have hS:=c.o t (Fr.refl _ _);have j0:Y (F0 t t.drew):=(Fr.refl _ _).drew
     have HC:Y (∀b,Y (F0 t b)->M O 171 #[G (I ⟨Q,0,J⟩),C #[P K 6,Z i s.nums.length q,P V (s.rule:Nat),P V (s.skip:Nat)]] b fun e w'=>e=E (.tuple #[])/\Y (Ce W Q N p S o l s v m' w')/\w'.cell? ⟨X,0,J⟩=I (P K 6)/\w'.cell? ⟨X,1,J⟩=I (Z i s.nums.length q)/\w'.cell? ⟨X,2,J⟩=I (P V (s.rule:Nat))/\w'.cell? ⟨X,3,J⟩=I (P V (s.skip:Nat))/\w'.cell? ⟨A,6,J⟩=I (.func (.func 171) #[] #[])):=by
      intro b f;have c0:Fr (fun j=>j=Q) W b:=z.o.trans (f.o.mono (by simp));refine(OO b Q N k p S o 6 i s.nums.length q s.rule s.skip (f.o.whole f0.o (by simp))).mono ?_;rintro e w' ⟨he,h2,h3⟩;have h4:=(f.o.mono (T:=fun j=>j=Q) (by simp)).trans h3;exact⟨he,⟨z.o.trans h4,H ⟨k,by rw[g0.o];exact h2⟩⟩,c.o _ h4⟩
     clear c
     go_region_held3 (fun b=>b.cell? ⟨X,0,J⟩=I (P K 6)/\b.cell? ⟨X,1,J⟩=I (Z i s.nums.length q)/\b.cell? ⟨X,2,J⟩=I (P V (s.rule:Nat))/\b.cell? ⟨X,3,J⟩=I (P V (s.skip:Nat))/\b.cell? ⟨A,6,J⟩=I (.func (.func 171) #[] #[])) (first|assumption|go_keep) (first
      |(go_at_call 171;refine(HC.o _ (by assumption)).mono ?_;rintro e w7 ⟨rfl,a0,k0⟩))
     go_wp2_with fail;go_roundg m'
     case measure=>omega
     case rel=>exact a0
    ·have D0:Y (Ri W N Q s.rule nm ng x0 y0):=Z0
     have z0:Y (s.nums.length<=4000/\∀x,x∈s.nums->x<u.length):=⟨r0,Y0⟩;clear Z0 r0 Y0 i1;rcases d with d|d|d
     ·have r:Y (s.sort=3):=d
      have g0:Y (v=(3,nm,U)):=by show _=_;rw[<-i0.o];unfold WZ;simp[d]
      clear d
      have c:Y (∀b,Fr (fun j=>j=Q) t b->b.cell? ⟨X,0,J⟩=I (P K 3)/\b.cell? ⟨X,1,J⟩=I (Z i s.nums.length q)/\b.cell? ⟨X,2,J⟩=I (P V (s.rule:Nat))/\b.cell? ⟨X,3,J⟩=I (P V (s.skip:Nat))/\b.cell? ⟨A,3,J⟩=I (.func (.func 168) #[] #[])):=by
       intro b f;have L:=f.whole d0.o (fun e=>R.o.1 e);have ha:=f.whole b0.o (fun e=>R.o.2 e);have h0:=bC L 0 _ rfl;rw[r.o]at h0;exact⟨h0,bC L 1 _ rfl,bC L 2 _ rfl,bC L 3 _ rfl,bC ha 3 _ rfl⟩
      have hS:=c.o t (Fr.refl _ _);have j0:Y (F0 t t.drew):=(Fr.refl _ _).drew
      have HC:Y (∀b,Y (F0 t b)->M O 168 #[G (I ⟨Q,0,J⟩),C #[P K 3,Z i s.nums.length q,P V (s.rule:Nat),P V (s.skip:Nat)]] b fun e w'=>e=E (.tuple #[])/\Y (Ce W Q N p S o l s v m' w')/\w'.cell? ⟨X,0,J⟩=I (P K 3)/\w'.cell? ⟨X,1,J⟩=I (Z i s.nums.length q)/\w'.cell? ⟨X,2,J⟩=I (P V (s.rule:Nat))/\w'.cell? ⟨X,3,J⟩=I (P V (s.skip:Nat))/\w'.cell? ⟨A,3,J⟩=I (.func (.func 168) #[] #[])):=by
       intro b f;have c0:Fr (fun j=>j=Q) W b:=z.o.trans (f.o.mono (by simp));refine(Lh b Q N k p S o 3 i s.nums.length q s.rule s.skip nm ng x0 y0 (f.o.whole f0.o (by simp)) (D0.o.fr c0)).mono ?_;rintro e w' ⟨he,h2,h3⟩;have h4:=(f.o.mono (T:=fun j=>j=Q) (by simp)).trans h3;exact⟨he,⟨z.o.trans h4,H ⟨k,by rw[g0.o];exact h2⟩⟩,c.o _ h4⟩
      clear c
      go_region_held3 (fun b=>b.cell? ⟨X,0,J⟩=I (P K 3)/\b.cell? ⟨X,1,J⟩=I (Z i s.nums.length q)/\b.cell? ⟨X,2,J⟩=I (P V (s.rule:Nat))/\b.cell? ⟨X,3,J⟩=I (P V (s.skip:Nat))/\b.cell? ⟨A,3,J⟩=I (.func (.func 168) #[] #[])) (first|assumption|go_keep) (first
       |(go_at_call 168;refine(HC.o _ (by assumption)).mono ?_;rintro e w7 ⟨rfl,a0,k0⟩))
      go_wp2_with fail;go_roundg m'
      case measure=>omega
      case rel=>exact a0
     ·have r:Y (s.sort=4):=d
      have g0:Y (v=Qx u nm (Yv false (Xe u p.am) S s.nums J)):=by show _=_;rw[<-i0.o];unfold WZ;simp[d]
      clear d
      have c:Y (∀b,Fr (fun j=>j=Q) t b->b.cell? ⟨X,0,J⟩=I (P K 4)/\b.cell? ⟨X,1,J⟩=I (Z i s.nums.length q)/\b.cell? ⟨X,2,J⟩=I (P V (s.rule:Nat))/\b.cell? ⟨X,3,J⟩=I (P V (s.skip:Nat))/\b.cell? ⟨A,4,J⟩=I (.func (.func 169) #[] #[])):=by
       intro b f;have L:=f.whole d0.o (fun e=>R.o.1 e);have ha:=f.whole b0.o (fun e=>R.o.2 e);have h0:=bC L 0 _ rfl;rw[r.o]at h0;exact⟨h0,bC L 1 _ rfl,bC L 2 _ rfl,bC L 3 _ rfl,bC ha 4 _ rfl⟩
      have hS:=c.o t (Fr.refl _ _);have j0:Y (F0 t t.drew):=(Fr.refl _ _).drew
      have HC:Y (∀b,Y (F0 t b)->M O 169 #[G (I ⟨Q,0,J⟩),C #[P K 4,Z i s.nums.length q,P V (s.rule:Nat),P V (s.skip:Nat)]] b fun e w'=>e=E (.tuple #[])/\Y (Ce W Q N p S o l s v m' w')/\w'.cell? ⟨X,0,J⟩=I (P K 4)/\w'.cell? ⟨X,1,J⟩=I (Z i s.nums.length q)/\w'.cell? ⟨X,2,J⟩=I (P V (s.rule:Nat))/\w'.cell? ⟨X,3,J⟩=I (P V (s.skip:Nat))/\w'.cell? ⟨A,4,J⟩=I (.func (.func 169) #[] #[])):=by
       intro b f;have c0:Fr (fun j=>j=Q) W b:=z.o.trans (f.o.mono (by simp));refine(NE b Q N k p S o 4 i s.nums q s.rule s.skip nm ng x0 y0 u ra rc (f.o.whole f0.o (by simp)) (D0.o.fr c0) (P0.o.fr c0) (q0.o.fr f.o (by simp)) z0.o.1 z0.o.2 H6.o L0.o).mono ?_;rintro e w' ⟨he,h2,h3⟩;have h4:=(f.o.mono (T:=fun j=>j=Q) (by simp)).trans h3;exact⟨he,⟨z.o.trans h4,H ⟨k,by rw[g0.o];exact h2⟩⟩,c.o _ h4⟩
      clear c
      go_region_held3 (fun b=>b.cell? ⟨X,0,J⟩=I (P K 4)/\b.cell? ⟨X,1,J⟩=I (Z i s.nums.length q)/\b.cell? ⟨X,2,J⟩=I (P V (s.rule:Nat))/\b.cell? ⟨X,3,J⟩=I (P V (s.skip:Nat))/\b.cell? ⟨A,4,J⟩=I (.func (.func 169) #[] #[])) (first|assumption|go_keep) (first
       |(go_at_call 169;refine(HC.o _ (by assumption)).mono ?_;rintro e w7 ⟨rfl,a0,k0⟩))
      go_wp2_with fail;go_roundg m'
      case measure=>omega
      case rel=>exact a0
     ·have r:Y (s.sort=5):=d
      have g0:Y (v=Qx u nm (Yv true (Xe u p.am) S s.nums J)):=by show _=_;rw[<-i0.o];unfold WZ;simp[d]
      clear d
      have c:Y (∀b,Fr (fun j=>j=Q) t b->b.cell? ⟨X,0,J⟩=I (P K 5)/\b.cell? ⟨X,1,J⟩=I (Z i s.nums.length q)/\b.cell? ⟨X,2,J⟩=I (P V (s.rule:Nat))/\b.cell? ⟨X,3,J⟩=I (P V (s.skip:Nat))/\b.cell? ⟨A,5,J⟩=I (.func (.func 170) #[] #[])):=by
       intro b f;have L:=f.whole d0.o (fun e=>R.o.1 e);have ha:=f.whole b0.o (fun e=>R.o.2 e);have h0:=bC L 0 _ rfl;rw[r.o]at h0;exact⟨h0,bC L 1 _ rfl,bC L 2 _ rfl,bC L 3 _ rfl,bC ha 5 _ rfl⟩
      have hS:=c.o t (Fr.refl _ _);have j0:Y (F0 t t.drew):=(Fr.refl _ _).drew
      have HC:Y (∀b,Y (F0 t b)->M O 170 #[G (I ⟨Q,0,J⟩),C #[P K 5,Z i s.nums.length q,P V (s.rule:Nat),P V (s.skip:Nat)]] b fun e w'=>e=E (.tuple #[])/\Y (Ce W Q N p S o l s v m' w')/\w'.cell? ⟨X,0,J⟩=I (P K 5)/\w'.cell? ⟨X,1,J⟩=I (Z i s.nums.length q)/\w'.cell? ⟨X,2,J⟩=I (P V (s.rule:Nat))/\w'.cell? ⟨X,3,J⟩=I (P V (s.skip:Nat))/\w'.cell? ⟨A,5,J⟩=I (.func (.func 170) #[] #[])):=by
       intro b f;have c0:Fr (fun j=>j=Q) W b:=z.o.trans (f.o.mono (by simp));refine(Qy b Q N k p S o 5 i s.nums q s.rule s.skip nm ng x0 y0 u ra rc (f.o.whole f0.o (by simp)) (D0.o.fr c0) (P0.o.fr c0) (q0.o.fr f.o (by simp)) z0.o.1 z0.o.2 H6.o L0.o).mono ?_;rintro e w' ⟨he,h2,h3⟩;have h4:=(f.o.mono (T:=fun j=>j=Q) (by simp)).trans h3;exact⟨he,⟨z.o.trans h4,H ⟨k,by rw[g0.o];exact h2⟩⟩,c.o _ h4⟩
      clear c
      go_region_held3 (fun b=>b.cell? ⟨X,0,J⟩=I (P K 5)/\b.cell? ⟨X,1,J⟩=I (Z i s.nums.length q)/\b.cell? ⟨X,2,J⟩=I (P V (s.rule:Nat))/\b.cell? ⟨X,3,J⟩=I (P V (s.skip:Nat))/\b.cell? ⟨A,5,J⟩=I (.func (.func 170) #[] #[])) (first|assumption|go_keep) (first
       |(go_at_call 170;refine(HC.o _ (by assumption)).mono ?_;rintro e w7 ⟨rfl,a0,k0⟩))
      go_wp2_with fail;go_roundg m'
      case measure=>omega
      case rel=>exact a0
  ·have T0:wr.cell? ⟨Q,12,J⟩=I (.bool true):=bC hq 12 _ rfl
   have HQ:Y (wr.heap[Q]?=I (VD N p S k true v)):=hq;have t0:Y (Fr (fun j=>j=Q) w wr):=(m0.o.mono (by simp)).trans o0;clear hq o0 hrel;go_wp2_with fail
   go_end0
   exact⟨rfl,⟨k,HQ.o⟩,t0.o⟩
theorem Fr.setRow {S:Nat->Prop}{w0 w:D}(h:Fr S w0 w){g:Nat}(b:S g\/w0.heap.size<=g)(a:Array Value):Fr S w0 (w.setRow g a):=
 h.monoNew (T:=fun k=>k=g) ⟨rfl,rfl,rfl,by simp,fun k _ c=>setRow_other w g k a c⟩ (fun k d=>by subst d;exact b)
theorem OQ (R:List Zc)(met:Nat):∀L:List Nat,(Z2 R met L).length<=L.length*4+1
 |[]=>by simp[Z2]
 |i::L=>by
  have a:=OQ R met L;simp only[Z2,z0]
  split
  ·cases b:R[i]? with
   |none=>dsimp only;omega
   |some r=>
    dsimp only
    split
    ·simp
    ·have c:(Yf r).length<=3:=T8 r
     rw[lA,z0,Rf,V0];omega
  ·omega
theorem Mj {m:Nat}:∀{l:List Zn}{a:Nat}{s:Zn},s∈Z4 m a l->∃b,b∈l/\s.sort=b.sort/\s.nums=b.nums/\s.skip<=m+1
 |[],_,_,h=>by cases h
 |x::r,a,s,h=>by
  rcases z1.1 h with e|h
  ·subst e
   exact⟨x,by simp,rfl,rfl,by show m-a+1<=m+1;omega⟩
  ·obtain⟨b,c,d⟩:=Mj h
   exact⟨b,by simp[c],d⟩
theorem Fm {n:Nat}{r:Zc}(h:UL n r):∀s,s∈Yf r->s.nums.length<=4000/\(s.sort=1->∃x y,s.nums=[x,y]):=by
 intro s a;unfold Yf at a;rw[N,N]at a;rcases a with e|e|e
 ·split at e
  ·cases e
  ·simp at e;subst e;exact⟨h.mc.1,fun e=>by simp at e⟩
 ·cases b:r.am with
  |none=>rw[b]at e;cases e
  |some c=>rw[b]at e;simp at e;subst e;exact⟨by simp,fun _=>⟨_,_,rfl⟩⟩
 ·split at e
  ·cases e
  ·simp at e;subst e;exact⟨h.cu.1,fun e=>by simp at e⟩
theorem RW {R:List Zc}{n:Nat}(c:∀r,r∈R->UL n r)(met:Nat):∀(L:List Nat)(s:Zn),s∈Z2 R met L->s.sort<3->Cd s
 |[],s,h,hs=>by
  simp[Z2]at h;subst h;simp at hs
 |i::L,s,h,hs=>by
  have a:=RW c met L s;simp only[Z2]at h
  split at h
  ·cases b:R[i]? with
   |none=>rw[b]at h;exact a h hs
   |some r=>
    rw[b]at h
    dsimp only at h
    split at h
    ·simp at h
     subst h;exact absurd hs (RQ i r)
    ·rw[N]at h
     rcases h with h|h
     ·obtain⟨f,g,j,d,m⟩:=Mj h
      obtain⟨k,l⟩:=Fm (c r (mG b)) f g;have o:(Yf r).length<=3:=T8 r;exact⟨by rw[d];exact k,by omega,fun e=>by rw[d];exact l (by rw[<-j];exact e)⟩
     ·rcases z1.1 h with e|h
      ·subst e
       exact absurd hs (RQ i r)
      ·exact a h hs
  ·exact a h hs
theorem Li {s:ByteArray}(h:Xv s=true):Zz s<10^6:=by
 obtain⟨f,_,a⟩:=Ut h
 have b:(s.data.toList.take 6).length=6:=by rw[List.length_take];simp;omega
 have e:=Px (s.data.toList.take 6) 0 (fun c d=>(a c (List.mem_of_mem_take d)).2);rw[b]at e;unfold Zz Yt;omega
theorem Mk (R:List Zc):Sn R ⟨0,0⟩ 0 (2^R.length-1):=by
 intro i r a;refine⟨fun h=>by simp at h,fun _ h=>?_⟩;have:=(iG.1 a).1;rw[Nat.testBit_two_pow_sub_one]at h;simp at h;omega
theorem E0 {a:List Zd}{R:List Zc}(b:YE a R)(p:ZI)(e:Xv p.pan=true):
  ∃m,(ZR R 7 ⟨0,0⟩ 0 (2^R.length-1) []).2[(ZR R 7 ⟨0,0⟩ 0 (2^R.length-1) []).1.find (J0 (Zz p.pan)) 0]?=I m/\
   ∃n,Xc (TL p) (Z2 R m (WY R.length (ZE (ZA R) R.length))) n 0=I (RR R (YK (ZA R) (Y1 R p (Zz p.pan)) R.length)):=by
 have f:=Lc (R:=R) (fun r c=>⟨(b.rl r c).bn.1,(b.rl r c).bn.2.1⟩) 7 ⟨0,0⟩ 0 (2^R.length-1) [] (by simp) (by simp) (Mk R);obtain⟨m,g,h⟩:=f.2 (Zz p.pan) (by unfold Xd;have:=Li e;simp;omega);refine⟨m,g,?_⟩;obtain⟨n,d⟩:=OJ R m p (WY R.length (ZE (ZA R) R.length));rw[Ic R m p (Zz p.pan) h]at d;exact⟨n,d⟩
theorem Im {a:List Zd}{R:List Zc}(b:YE a R):(ZR R 7 ⟨0,0⟩ 0 (2^R.length-1) []).1.deep 0:=
 (Lc (R:=R) (fun r c=>⟨(b.rl r c).bn.1,(b.rl r c).bn.2.1⟩) 7 ⟨0,0⟩ 0 (2^R.length-1) [] (by simp) (by simp) (Mk R)).1
theorem Cf {a:List Zd}{R:List Zc}(p:ZI)(b:Nat->Bool)(e:Yd p=true)(c:Nat)(f:c=Zz p.pan):
  TM a R p b=WZ a ((match YK (ZA R) (Y1 R p c) R.length with|none=>J|some i=>(R[i]?).map Zc.name).getD U) (RR R (YK (ZA R) (Y1 R p c) R.length)) b p.am:=by
 subst f;unfold TM;rw[if_pos e]
 cases h:YK (ZA R) (Y1 R p (Zz p.pan)) R.length with
 |none=>rfl
 |some i=>
  cases d:R[i]? with
  |none=>simp[RR,d,WZ]
  |some r=>
   simp only[RR,d,Option.map_some,Option.getD_some];unfold EY Ts
   cases j:r.decline with
   |true=>simp[WZ]
   |false=>
    cases g:r.cheapest with
    |true=>
     simp only[Bool.false_eq_true,if_false,if_true,WZ];simp only[show¬(5:Nat)=3 from by decide,show¬(5:Nat)=4 from by decide,if_false]
     cases Yv true (Xe a p.am) b r.routes J<;>rfl
    |false=>
     simp only[Bool.false_eq_true,if_false,WZ];simp only[show¬(4:Nat)=3 from by decide,if_false,if_true]
     cases Yv false (Xe a p.am) b r.routes J<;>rfl
theorem TN.of {w:D}{c Q base d:Nat}{f:Option Addr}{a:List Zd}(h:w.cell? ⟨c,0,J⟩=I (Z f a.length d))(k:w.ownsRow base 148 3 (Z f a.length d) a.length (YU a))(m:w.heap.size<=Q)(l:∀t,t∈a->Nz t):TN w c Q a f d:=by
 have n:c<w.heap.size:=bL w _ h;refine⟨h,by omega,fun i t j=>?_,l⟩;have o:=(iG.1 j).1;obtain⟨g,cap,e,_,p,b⟩:=SZ k (by omega);injection e with e _ _;exact⟨g,e,by omega,b i t j⟩
theorem NF.of {p base:Nat}{w:D}{Q q:Nat}{d:Option Addr}{l:List Zn}(h:YW p w base (Z d l.length q) l)(z:w.heap.size<=Q):NF w Q d l:=by
 intro k s f;obtain⟨A,i,r⟩:=h;have B:=(iG.1 f).1;obtain⟨g,cap,e,_,C⟩:=i.form (by omega);injection e with e _ _;subst e;obtain⟨c,⟨E,rfl,b⟩,t⟩:=r.get f;obtain⟨j,m,u⟩:=oL b;subst u
 have a:∀o v,[Value.int K s.sort,Z j s.nums.length m,P V s.rule,P V s.skip][o]?=I v->w.cell? ⟨g,k*4+o,J⟩=I v:=fun o v x=>by
  have n:=i.cells (g:=g) rfl _ _ (t o v x);rw[YN,Nat.zero_add]at n;exact n
 refine⟨g,j,m,rfl,by omega,a 0 _ rfl,a 1 _ rfl,a 2 _ rfl,a 3 _ rfl,Zw.of b,fun y e=>?_⟩;subst e;have:=(b.lt y rfl).2;omega
