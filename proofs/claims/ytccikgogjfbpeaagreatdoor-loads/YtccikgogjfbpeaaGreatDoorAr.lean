import Derived.Test.YtccikgogjfbpeaaGreatDoorAk
import Derived.Deep.CutBlock
import Derived.Test.YtccikgogjfbpeaaGreatDoorAm
open Go.Value renaming int->I,string->Z,oneCell'->E,slice->H
open Go.RowKit renaming Hid->J
open Go.IntKind renaming i64->S,i64->K,u8->O
open Bool renaming or_eq_true->V
open Nat renaming le_refl->Y,zero_le->U
namespace Go.Proofs.YtccikgogjfbpeaaGreatDoor
set_option maxRecDepth 30000
set_option maxHeartbeats 8000000
open Go.RowKit
def VV (x:Except Nat (List Tk))(w:World)(e:Ending)(w':World):Prop:=
 match x with
 | .ok ts=>(∃v,e=.returned (.tuple #[v,I S 0])/\w'.ownsRow w.heap.size 166 3 v ts.dropLast.length (Vt ts.dropLast))/\F0 w w'
 | .error l=>e=.returned (.tuple #[H none 0 0,I S l])/\F0 w w'
theorem VV.ok {x w w' e ts}(h:x=.ok ts):VV x w e w'↔(∃v,e=.returned (.tuple #[v,I S 0])/\w'.ownsRow w.heap.size 166 3 v ts.dropLast.length (Vt ts.dropLast))/\F0 w w':=by subst h;exact Iff.rfl
theorem VV.err {x:Except Nat (List Tk)}{w w' e}{l:Nat}(h:x=.error l):VV x w e w'↔e=.returned (.tuple #[H none 0 0,I S l])/\F0 w w':=by subst h;exact Iff.rfl
theorem yX {x}(h:Y7 x=true):x.size<=8:=by
 rw[Qd]at h
 have a:x.data.toList∈yC:=by simpa using h
 have b:∀l,l∈yC->l.length<=8:=by decide
 have:=b _ a
 simpa using this
theorem yY (s k)(a:k+XX s k<=s.size):Y7 (s.extract k (k+XX s k))=false:=by
 rw[Bool.eq_false_iff];intro h;rw[Qd]at h
 have b:(s.extract k (k+XX s k)).data.toList∈yC:=by simpa using h
 have c:∀l,l∈yC->2<l.length:=by decide
 have d:=c _ b
 have f:XX s k<=2:=by unfold XX;split<;>(try split)<;>omega
 have e:(s.extract k (k+XX s k)).data.toList.length=(s.extract k (k+XX s k)).size:=by rw[Array.length_toList];rfl
 rw[e,ByteArray.size_extract]at d;omega
theorem Mg (p s k j n)(a:j<s.size)(h:n=j-k+ZM p s j)(c:k<=j)(b:p (ZC s j)=true):n=j+1-k+ZM p s (j+1):=by
 rw[h];unfold ZM;rw[Te p s j a,if_pos b];omega
theorem FN (p s j)(a:j<s.size)(b:p (ZC s j)=false):ZM p s j=0:=by
 unfold ZM;rw[Te p s j a,b];rfl
theorem FO (p s j)(a:¬j<s.size):ZM p s j=0:=Ne p s j (by omega)
theorem PJ (p s k j n)(h:n=j-k+ZM p s j)(c:k<=j)(b:¬(j<s.size/\p (ZC s j)=true)):j=k+n:=by
 have d:ZM p s j=0:=by
  by_cases a:j<s.size
  ·exact FN p s j a (by simpa using fun e=>b ⟨a,e⟩)
  exact FO p s j a
 omega
theorem A0 (s k a)(d:ZC s k≠10)(f:¬(ZC s k=32\/ZC s k=9))(e:ZC s k≠35)(i:¬(48<=ZC s k/\ZC s k<=57))(c:¬(97<=ZC s k/\ZC s k<=122)):
  Zs s k a=if XX s k=0 then .bad else .tok ⟨2,s.extract k (k+XX s k),a⟩ (k+XX s k):=by
 have g:ZJ (ZC s k)=false:=by simp[ZJ];omega
 have h:iD (ZC s k)=false:=by simp[iD];omega
 unfold Zs XX;rw[if_neg d,if_neg f,if_neg e,g,h];simp only[Bool.false_eq_true,if_false];by_cases b:(P5 s k 46 46||P5 s k 45 62)=true
 ·have c:¬(ZC s k=59\/ZC s k=58\/ZC s k=44):=by
   simp only[V]at b
   rcases b with b|b<;>have:=Fp b<;>omega
  simp[b,c]
 by_cases c:ZC s k=59\/ZC s k=58\/ZC s k=44<;>simp[b,c]
theorem yZ (s k)(b:k<s.size):XX s k<=2/\k+XX s k<=s.size:=by
 unfold XX
 split
 ·rename_i a
  simp only[V]at a
  have:k+2<=s.size:=by rcases a with a|a<;>exact K7 a
  omega
 split<;>omega
theorem FP (s w)(hs:s.size<=3000):Calls Tryz.prog 78 #[Z s] w (VV (ZK s 0 1 []) w):=by
  obtain⟨ii,hi,j0,k0,l0⟩:=info_parts Js
  have IX:J (∀(j:Nat),j<s.size->∀w,_):=fun j hj w=>VH (P:=Tryz.prog) Tryz.underlying9 s j (j:Int) rfl hj w
  go_enter Tryz.func78,Tryz.ntmps78;go_wp2_with fail
  go_loopg [4,5,6] s.size (fun m o l i wr=>∃k a f,k<=s.size/\m=s.size-k/\l=I S (a:Nat)/\i=I S (k:Nat)/\a<=k+1/\f.length<=k/\J (wr.ownsRow w.heap.size 166 3 o f.length (Vt f))/\J (F0 w wr)/\J (ZK s 0 1 []=ZK s k a f))
  case atStart=>exact⟨0,1,[],U _,rfl,rfl,rfl,by omega,by simp,oZ _ _ _ _,Zt,rfl⟩
  obtain⟨k,a,f,hk,rfl,rfl,rfl,x0,y0,HO,R,T⟩:=hrel;have z0:=R.o.size;by_cases C:k<s.size
  · have r:=Za C
    have m0:(k:Int)<(s.size:Int):=by omega
    have W:=IX.o k C;by_cases F:ZC s k=10
    · have p:J (Zs s k a=.skip (k+1) (a+1)):=by show _=_;simp[Zs,F]
      rw[F]at W;go_wp2;go_roundg (s.size-(k+1))
      case measure=>omega
      exact⟨k+1,a+1,f,by omega,rfl,by go_num,by go_num,by omega,by omega,HO,R,T.o.trans (YH r.o p.o)⟩
    by_cases D:ZC s k=32\/ZC s k=9
    · have p:J (Zs s k a=.skip (k+1) a):=by show _=_;simp[Zs,F,D]
      rcases D with h|h<;>
      (rw[h]at W
       go_wp2;go_roundg (s.size-(k+1))
       case measure=>omega
       exact⟨k+1,a,f,by omega,rfl,rfl,by go_num,by omega,by omega,HO,R,T.o.trans (YH r.o p.o)⟩)
    by_cases G:ZC s k=35
    · have p:J (Zs s k a=.skip (k+ZM ZV s k) a):=by show _=_;simp[Zs,G]
      have x:=XH ZV s k C (by simp[ZV,G]);rw[G]at W;obtain⟨n,D⟩:∃n,n=ZM ZV s k:=⟨_,rfl⟩;rw[<-D]at p x
      have HN:J (n=k-k+ZM ZV s k):=by show _=_;omega
      go_wp2_with fail
      go_loop [6] (fun i=>∃j:Nat,k<=j/\j<=s.size/\i=I S j/\J (n=j-k+ZM ZV s j)) (fun i=>s.size-(intOf i).toNat)
      case atStart=>exact⟨k,Y _,hk,rfl,HN⟩
      obtain⟨j,y,d,rfl,HJ⟩:=hrel;by_cases e:j<s.size/\ZV (ZC s j)=true
      · obtain⟨b,M⟩:=e
        have z:(j:Int)<(s.size:Int):=by omega
        have H:=IX.o j b;have L:=Za (Mg ZV s k j n b HJ.o y M)
        have B0:(ZC s j==10)=false:=by simpa[ZV]using M
        have C0:(ZC s j !=10)=true:=by simpa[ZV]using M
        generalize ZC s j=c at*;go_wp2;exact⟨⟨j+1,by omega,by omega,by go_num,L⟩,by simp[intOf];omega⟩
      have q:=Za (PJ _ s k j n HJ.o y e)
      by_cases b:j<s.size
      · have z:(j:Int)<(s.size:Int):=by omega
        have H:=IX.o j b
        have M:ZC s j=10:=by simpa[ZV,b]using e
        rw[M]at H;go_wp2;go_roundg (s.size-j)
        case measure=>have:=q.o;omega
        exact⟨j,a,f,by omega,rfl,rfl,rfl,by omega,by omega,HO,R,by rw[q.o];exact T.o.trans (YH r.o p.o)⟩
      have z:¬(j:Int)<(s.size:Int):=by omega
      go_wp2;go_roundg (s.size-j)
      case measure=>have:=q.o;omega
      exact⟨j,a,f,by omega,rfl,rfl,rfl,by omega,by omega,HO,R,by rw[q.o];exact T.o.trans (YH r.o p.o)⟩
    have n0:(ZC s k==10)=false:=by simp[F]
    have o0:(ZC s k==32)=false:=by simp;omega
    have d9:(ZC s k==9)=false:=by simp;omega
    have p0:(ZC s k==35)=false:=by simp[G]
    obtain⟨c,hc⟩:∃c,ZC s k=c:=⟨_,rfl⟩;have N:=Za hc;rw[hc]at W F D G n0 o0 d9 p0;have A:J (c≠10/\¬(c=32\/c=9)/\c≠35):=⟨F,D,G⟩
    go_upto_block 5 with fail
    go_cut [8,9]from 12 to 148 (fun v8 v9 wx=>∃(j:Nat)(kd:Int)(t:Tk),v8=I S j/\v9=I O kd/\k<j/\j<=s.size/\J (Zs s k a=.tok t j/\VR t=[Z (s.extract k j),I O kd,I S a])/\wx=wr)
    case rest=>
      obtain⟨j,kd,t,rfl,rfl,Q,d,p,rfl⟩:=hcut
      have q0:(k:Int)<=(j:Int):=by omega
      have r0:(j:Int)<=(s.size:Int):=by omega
      go_wp2_with (at_builtin;refine wpList_append_lies _ rfl (.tmp 138) (.tmp 146) 67 rfl w.heap.size 166 ii _ 3 32 Tryz.underlying67 hi j0 k0 l0 rfl (by decide) u4 f.length (Vt f) rfl ?h1 ⟨wc.heap.size,0,none⟩ 1 1 [Z (s.extract k j),I O kd,I S a] rfl rfl ?h2 ?h3 (by decide) ?h4 ?h5 ?h6 _ rfl ?_)
      case h1=>exact HO.o.alloc _
      try case h2=>exact World.news_of_block (aN wc _)
      case h3=>simp[E]
      case h4=>unfold maxLen;omega
      case h5=>omega
      case h6=>first|omega|(simp;omega)
      intro g2 w0 w4 f0 c0 _ _;have s0:=Za f0;have t0:=Za ((R.o.alloc _).grown c0 (fun k hk=>Or.inr (HO.o.lt k hk).1));go_wp2;go_roundg (s.size-j)
      case measure=>omega
      refine⟨j,a,f++[t],by omega,rfl,rfl,by go_num,by omega,by simp;omega,?_,t0,T.o.trans (WE r.o p.o.1)⟩
      show World.ownsRow _ _ _ _ _ _ _
      rw[ID,lA,p.o.2];exact s0.o
    by_cases X:48<=c/\c<=57
    · have hD:iD c=true:=by simp[iD];exact X
      have hS:ZJ c=false:=by simp[ZJ];omega
      obtain⟨n,D⟩:∃n,ZM iD s k=n:=⟨_,rfl⟩
      have HB:J (9<n->Zs s k a=.bad):=fun h=>by simp[Zs,N.o,A.o,hS,hD,D,h]
      have HG:J (¬9<n->Zs s k a=.tok ⟨1,s.extract k (k+n),a⟩ (k+n)):=fun h=>by simp[Zs,N.o,A.o,hS,hD,D,h]
      have x:=XH iD s k C (by rw[N.o];exact hD);have d0:=We iD s k hk;rw[D]at x d0
      have HN:J (n=k-k+ZM iD s k):=by show _=_;omega
      obtain⟨g1,g2⟩:=X
      go_upto_block 6 with fail
      go_cut [8]from 12 to 148 (fun v wx=>∃j:Nat,v=I S j/\j<=s.size/\J (j=k+n)/\wx=wr)
      case first=>
        go_wp2_with fail
        go_loop [8] (fun i=>∃j:Nat,k<=j/\j<=s.size/\i=I S j/\J (n=j-k+ZM iD s j)) (fun i=>s.size-(intOf i).toNat)
        case atStart=>exact⟨k,Y _,hk,rfl,HN⟩
        obtain⟨j,y,d,rfl,HJ⟩:=hrel;by_cases e:j<s.size/\iD (ZC s j)=true
        · obtain⟨b,M⟩:=e
          have z:(j:Int)<(s.size:Int):=by omega
          have H:=IX.o j b;have L:=Za (Mg iD s k j n b HJ.o y M);simp only[iD,decide_eq_true_eq]at M;obtain⟨g1,g2⟩:=M;generalize ZC s j=c at*;go_wp2;exact⟨⟨j+1,by omega,by omega,by go_num,L⟩,by simp[intOf];omega⟩
        have q:=Za (PJ _ s k j n HJ.o y e)
        by_cases b:j<s.size
        · have z:(j:Int)<(s.size:Int):=by omega
          have H:=IX.o j b;simp only[iD,decide_eq_true_eq,b,true_and]at e;generalize ZC s j=c at*;by_cases g1:48<=c
          · have g2:¬c<=57:=fun h=>e ⟨g1,h⟩
            go_wp2;go_meet;exact⟨j,rfl,d,q,rfl⟩
          clear e
          go_wp2;go_meet;exact⟨j,rfl,d,q,rfl⟩
        have z:¬(j:Int)<(s.size:Int):=by omega
        go_wp2;go_meet;exact⟨j,rfl,d,q,rfl⟩
      obtain⟨j,rfl,d,q,rfl⟩:=hcut;have v0:K.wrap ((j:Int)-(k:Int))=(j:Int)-(k:Int):=IntWalk.i64_in _ (by omega);by_cases h9:9<n
      · have a0:(9:Int)<(j:Int)-(k:Int):=by have:=q.o;omega
        have p:=Za (HB.o h9);go_wp2
        go_ret2
        exact(VV.err (T.o.trans (Xp r.o p.o))).2 ⟨rfl,R.o⟩
      have a0:¬(9:Int)<(j:Int)-(k:Int):=by have:=q.o;omega
      have p:=Za (HG.o h9);rw[<-q.o]at p
      have Q:k<j:=by have:=q.o;omega
      go_wp2;go_meet;exact⟨j,105,_,rfl,rfl,Q,d,⟨p.o,rfl⟩,rfl⟩
    by_cases b0:97<=c/\c<=122
    · have hD:iD c=false:=by simp[iD];omega
      have hS:ZJ c=true:=by simp[ZJ];exact b0
      obtain⟨n,D⟩:∃n,ZM Zq s k=n:=⟨_,rfl⟩
      have HW:J (Y7 (s.extract k (k+n))=true->Zs s k a=.tok ⟨2,s.extract k (k+n),a⟩ (k+n)):=fun h=>by simp[Zs,N.o,A.o,hS,D,h]
      have HB:J (Y7 (s.extract k (k+n))=false->8<n->Zs s k a=.bad):=fun h h2=>by simp[Zs,N.o,A.o,hS,D,h,h2]
      have HG:J (Y7 (s.extract k (k+n))=false->¬8<n->Zs s k a=.tok ⟨0,s.extract k (k+n),a⟩ (k+n)):=fun h h2=>by simp[Zs,N.o,A.o,hS,D,h,h2]
      have x:=XH Zq s k C (by rw[N.o];simp[Zq,hS]);have d0:=We Zq s k hk;rw[D]at x d0
      have HN:J (n=k-k+ZM Zq s k):=by show _=_;omega
      obtain⟨g1,g2⟩:=b0
      have g3:¬c<=57:=by omega
      go_upto_block 8 with fail
      go_cut [8]from 12 to 148 (fun v wx=>∃j:Nat,v=I S j/\j<=s.size/\J (j=k+n)/\wx=wr)
      case first=>
        go_wp2_with fail
        go_loop [8] (fun i=>∃j:Nat,k<=j/\j<=s.size/\i=I S j/\J (n=j-k+ZM Zq s j)) (fun i=>s.size-(intOf i).toNat)
        case atStart=>exact⟨k,Y _,hk,rfl,HN⟩
        obtain⟨j,y,d,rfl,HJ⟩:=hrel;by_cases e:j<s.size/\Zq (ZC s j)=true
        · obtain⟨b,M⟩:=e
          have z:(j:Int)<(s.size:Int):=by omega
          have H:=IX.o j b;have L:=Za (Mg Zq s k j n b HJ.o y M);simp only[Zq,ZJ,iD,V,decide_eq_true_eq]at M;generalize ZC s j=c at*;by_cases g1:97<=c
          · have g2:c<=122:=by omega
            go_wp2;exact⟨⟨j+1,by omega,by omega,by go_num,L⟩,by simp[intOf];omega⟩
          have g2:48<=c:=by omega
          have g3:c<=57:=by omega
          go_wp2;exact⟨⟨j+1,by omega,by omega,by go_num,L⟩,by simp[intOf];omega⟩
        have q:=Za (PJ _ s k j n HJ.o y e)
        by_cases b:j<s.size
        · have z:(j:Int)<(s.size:Int):=by omega
          have H:=IX.o j b;simp only[Zq,ZJ,iD,V,decide_eq_true_eq,b,true_and]at e;generalize ZC s j=c at*;by_cases g1:97<=c
          · have g2:¬c<=122:=by omega
            have g3:48<=c:=by omega
            have g4:¬c<=57:=by omega
            go_wp2;go_meet;exact⟨j,rfl,d,q,rfl⟩
          by_cases g3:48<=c
          · have g4:¬c<=57:=by omega
            go_wp2;go_meet;exact⟨j,rfl,d,q,rfl⟩
          clear e
          go_wp2;go_meet;exact⟨j,rfl,d,q,rfl⟩
        have z:¬(j:Int)<(s.size:Int):=by omega
        go_wp2;go_meet;exact⟨j,rfl,d,q,rfl⟩
      obtain⟨j,rfl,d,q,rfl⟩:=hcut;have v0:K.wrap ((j:Int)-(k:Int))=(j:Int)-(k:Int):=IntWalk.i64_in _ (by omega)
      have Q:k<j:=by have:=q.o;omega
      have q0:(k:Int)<=(j:Int):=by omega
      have r0:(j:Int)<=(s.size:Int):=by omega
      rw[<-q.o]at HW HB HG
      cases B:Y7 (s.extract k j)with
      | true=>
        have p:=Za (HW.o B)
        have a0:¬(8:Int)<(j:Int)-(k:Int):=by
          have h8:=yX B;rw[ByteArray.size_extract]at h8;omega
        have HK:J (VR ⟨2,s.extract k j,a⟩=[Z (s.extract k j),I O 107,I S a]):=by show _=_;simp[VR,UB,B]
        go_wp2_with (go_at_call 128;refine DU (SH _ _) fun w' u=>?_;replace u:=u.symm;subst u;simp only[B])
        go_meet;exact⟨j,107,_,rfl,rfl,Q,d,⟨p.o,HK.o⟩,rfl⟩
      | false=>
        by_cases h8:8<n
        · have a0:(8:Int)<(j:Int)-(k:Int):=by have:=q.o;omega
          have p:=Za (HB.o B h8)
          go_wp2_with (go_at_call 128;refine DU (SH _ _) fun w' u=>?_;replace u:=u.symm;subst u;simp only[B])
          go_ret2
          exact(VV.err (T.o.trans (Xp r.o p.o))).2 ⟨rfl,R.o⟩
        have a0:¬(8:Int)<(j:Int)-(k:Int):=by have:=q.o;omega
        have p:=Za (HG.o B h8)
        go_wp2_with (go_at_call 128;refine DU (SH _ _) fun w' u=>?_;replace u:=u.symm;subst u;simp only[B])
        go_meet;exact⟨j,110,_,rfl,rfl,Q,d,⟨p.o,rfl⟩,rfl⟩
    have hT:=A0 s k a (by rw[N.o];exact A.o.1) (by rw[N.o];exact A.o.2.1) (by rw[N.o];exact A.o.2.2) (by rw[N.o];exact X) (by rw[N.o];exact b0);have e0:=yZ s k C;have HX:=Za (yY s k e0.2);obtain⟨n,g0⟩:∃n,XX s k=n:=⟨_,rfl⟩;have i0:=Za g0;rw[g0]at hT e0 HX
    have g:(48<=c/\¬c<=57/\97<=c/\¬c<=122)\/(48<=c/\¬c<=57/\¬97<=c)\/(¬48<=c/\¬97<=c):=by omega
    rcases g with⟨g1,g2,g3,g4⟩|⟨g1,g2,g3⟩|⟨g1,g3⟩<;>clear X b0<;>by_cases h0:n=0
    all_goals first
      | (have hz:(((n:Nat):Int)==0)=true:=by simp;omega
         rw[if_pos h0]at hT;have p:=Za hT
         go_wp2_with (go_at_call 129;refine DU (Iw _ _ _ r.o hs) fun w' u=>?_;replace u:=u.symm;subst u;rw[i0.o])
         go_ret2
         exact(VV.err (T.o.trans (Xp r.o p.o))).2 ⟨rfl,R.o⟩)
      | (have hz:(((n:Nat):Int)==0)=false:=by simp;omega
         rw[if_neg h0]at hT;have p:=Za hT
         have HK:J (VR ⟨2,s.extract k (k+n),a⟩=[Z (s.extract k (k+n)),I O 115,I S a]):=by show _=_;simp[VR,UB,HX.o]
         have D0:1<=n:=by omega
         go_wp2_with (go_at_call 129;refine DU (Iw _ _ _ r.o hs) fun w' u=>?_;replace u:=u.symm;subst u;rw[i0.o])
         go_meet
         exact⟨k+n,115,_,by go_num,rfl,by omega,e0.2,⟨p.o,HK.o⟩,rfl⟩)
  have m0:¬(k:Int)<(s.size:Int):=by omega
  have q:=Za (T.o.trans (WF C));go_wp2
  go_ret2
  refine(VV.ok q.o).2 ⟨⟨_,rfl,?_⟩,R.o⟩;rw[List.dropLast_concat];exact HO.o
theorem PK {s k a k' t}(b:Zs s k a=.tok t k'):t.line=a:=by
 unfold Zs at b
 repeat' split at b
 all_goals first
  |contradiction
  |(injection b with c d;subst c;rfl)
theorem QZ {s}:∀n k a b,s.size-k=n->1<=a->(∀t,t∈b->1<=t.line)->
  (∀l,ZK s k a b=.error l->1<=l)/\(∀ts,ZK s k a b=.ok ts->∀t,t∈ts->1<=t.line):=by
 intro n
 induction n using Nat.strongRecOn with
 |ind n i=>
  intro k a b j g d;by_cases e:k<s.size
  ·cases f:Zs s k a with
   |skip k' l'=>
    rw[YH e f];have:=X1 e f;exact i (s.size-k') (by omega) k' l' b rfl (by omega) d
   |tok t k'=>
    rw[WE e f];have:=WD e f;refine i (s.size-k') (by omega) k' a (b++[t]) rfl g (fun u c=>?_);rcases List.mem_append.1 c with c|c
    ·exact d u c
    simp at c
    subst c;rw[PK f];exact g
   |bad=>
    rw[Xp e f];exact⟨fun l h=>(by injection h with h;omega),fun ts h=>(by cases h)⟩
  rw[WF e]
  refine⟨fun l h=>(by cases h),fun ts h=>?_⟩;injection h with h;subst h;intro u c;rcases List.mem_append.1 c with c|c
  ·exact d u c
  simp at c
  subst c;exact g
theorem CI {s t}(h:UW s t=true):t.sort≠3:=by
 cases s<;>simp[UW,Zn]at h<;>first|omega|(rw[h];decide)|(rw[h.1];decide)
theorem Qh {body:List Tk}{en:Tk}(a:en.sort=3):∀(m:Nat)(b:List In)(i j:Nat),i<=body.length->YI (body++[en]) m b i=some (some j)->j<=body.length
 |m,[],i,j,hi,h=>by
  rw[Th]at h;injection h with h
  split at h
  ·cases h
  injection h with h;omega
 |0,s::rest,i,j,hi,h=>by simp[YI]at h
 |m+1,s::rest,i,j,hi,h=>by
  rw[YI]at h
  split at h
  ·exact Qh a m _ i j hi h
  split at h
  ·rename_i c
   have d:=O4 a (CI c);have:=(iG.1 d).1;exact Qh a m _ (i+1) j (by omega) h
  injection h with h
  injection h with h;omega
theorem A5 {body en}(b:∀t,t∈body->t.sort≠3){j}(c:j<=body.length)(h:(Zo (body++[en]) j).sort=3):Zo (body++[en]) j=en:=by
 rcases Nat.lt_or_ge j body.length with a|a
 ·exact absurd h (Wn (en:=en) b (gE a))
 have e:j=body.length:=by omega
 subst e;unfold Zo;rw[gD,aR (Y _),Nat.sub_self];rfl
theorem xd {body en j}(a:j<=body.length):Zo (body++[en]) j∈body++[en]:=by
 unfold Zo;rw[gD,gE (by simp;omega)];exact List.getElem_mem _
theorem xe {body en}(d:en.sort=3)(f:∀t,t∈body->t.sort≠3)(g:∀t,t∈body++[en]->1<=t.line):
  (∀i k,Zr (body++[en]) 0 []=.ok (i,k)->∃N,YI (body++[en]) N [.rules] 0=some none)/\
  (∀l,Zr (body++[en]) 0 []=.error l->∃N j,YI (body++[en]) N [.rules] 0=some (some j)/\((Vm (body++[en]) (some j)= -1/\l=en.line)\/(Vm (body++[en]) (some j)=(l:Int)/\1<=l))):=by
 obtain⟨m,n⟩:=Lt (ts:=body++[en]) _ 0 [] rfl;refine⟨m,fun l h=>?_⟩;obtain⟨j,⟨N,b⟩,e⟩:=n l h;have c:=Qh d N _ 0 j (U _) b;refine⟨N,j,b,?_⟩;by_cases a:(Zo (body++[en]) j).sort=3
 ·left
  refine⟨by simp[Vm,a],?_⟩;rw[A5 f c a]at e;exact e.symm
 right
 refine⟨by simp[Vm,a,e],?_⟩;rw[<-e];exact g _ (xd c)
