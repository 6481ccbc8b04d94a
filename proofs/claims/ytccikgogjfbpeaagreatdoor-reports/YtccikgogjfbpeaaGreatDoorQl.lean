import Derived.Test.YtccikgogjfbpeaaGreatDoorQk
open _root_.ByteArray renaming empty->I
open List renaming getD_eq_getElem?_getD->J
open Go.Proofs.Tryz renaming prog->S
namespace Go.Proofs.YtccikgogjfbpeaaGreatDoor
set_option maxRecDepth 30000
set_option maxHeartbeats 8000000
open Go.RowKit
theorem UB (s:ByteArray)(w:World)(b:Dg s):
  Calls S 133 #[.string s] w fun e w'=>e=.returned (.int .i64 (Yt s.data.toList))/\w'=w:=by
 have d:=Za b;have h:s.size<=9:=b.1;clear b;go_enter Tryz.func133,Tryz.ntmps133;go_wp2
 go_loop [3,4] (fun n i=>∃k:Nat,k<=s.size/\i=.int .i64 k/\n=.int .i64 (Yt (s.data.toList.take k))) (fun _ i=>s.size-(intOf i).toNat)
 case atStart=>exact⟨0,Nat.zero_le _,rfl,rfl⟩
 case round=>
  obtain⟨k,j,rfl,rfl⟩:=hrel;have p:=T0 s d.o k j;by_cases a:k<s.size
  ·have l:=fun w=>ZN (P:=S) Tryz.underlying9 s k (k:Int) rfl a w
   have f:Hid _:=PT s d.o k a;have m:=d.o.2 k a
   have g:(k:Int)<(s.size:Int):=by omega
   generalize Yt (s.data.toList.take k)=n at*;generalize Zv s k=c at*;go_wp2;refine⟨⟨k+1,by omega,by go_num,?_⟩,by simp[intOf];omega⟩;rw[f.o,Int.mul_comm]
  ·have g:¬(k:Int)<(s.size:Int):=by omega
   go_wp2;go_ret;exact⟨ZH (by rw[List.take_of_length_le (by simp;omega)]),rfl⟩
def XO (s:ByteArray)(k:Nat):Nat:=if Ti s k 46 46||Ti s k 45 62 then 2 else if Zv s k=59\/Zv s k=58\/Zv s k=44 then 1 else 0
theorem QR (s:ByteArray)(k:Nat)(a b:UInt8)(h:k+2<=s.size):((s.extract k (k+2)).toList==[a,b])=Ti s k (a.toNat:Int) (b.toNat:Int):=by
 rw[ByteArray.toList_eq,Lib.extract_data,show k+2-k=2 from by omega];unfold Ti Zv
 have c:(s.data.toList.drop k).length=s.size-k:=by simp
 have d:s.data.toList.getD k 0=(s.data.toList.drop k).getD 0 0:=by simp[J]
 have f:s.data.toList.getD (k+1) 0=(s.data.toList.drop k).getD 1 0:=by simp[J]
 rw[d,f];generalize s.data.toList.drop k=l at*
 match l,c with
 |[],c=>simp at c;omega
 |[_],c=>simp at c;omega
 |x::y::r,c=>
  have e:∀u v:UInt8,(u==v)=decide ((u.toNat:Int)=(v.toNat:Int)):=by
   intro u v;rw[Bool.eq_iff_iff];simp only[beq_iff_eq,decide_eq_true_eq];rw[<-UInt8.toNat_inj];omega
  simp[h,e]
theorem LQ (s:ByteArray)(k:Nat)(w:World)(v:k<s.size)(A:s.size<=3000):
  Calls S 129 #[.string s,.int .i64 k] w fun e w'=>e=.returned (.int .i64 (XO s k))/\w'=w:=by
 have x:=fun w=>ZN (P:=S) Tryz.underlying9 s k (k:Int) rfl v w
 by_cases j:k+2<=s.size
 ·have l:(k:Int)+1<(s.size:Int):=by omega
  have y:(k:Int)<=(k:Int)+2:=by omega
  have z:(k:Int)+2<=(s.size:Int):=by omega
  have B:((k:Int)+2).toNat=k+2:=by omega
  have m:((s.extract k (k+2)).toList==[46,46])=Ti s k 46 46:=QR s k 46 46 j;have n:((s.extract k (k+2)).toList==[45,62])=Ti s k 45 62:=QR s k 45 62 j
  cases g:Ti s k 46 46 with
  |true=>
   have a:Hid (XO s k=2):=by show _=_;simp[XO,g]
   rw[g]at m;clear n g;go_enter Tryz.func129,Tryz.ntmps129;go_wp2;go_ret;exact⟨ZH (by rw[a.o];rfl),rfl⟩
  |false=>
   cases i:Ti s k 45 62 with
   |true=>
    have a:Hid (XO s k=2):=by show _=_;simp[XO,g,i]
    rw[g]at m;rw[i]at n;clear g i;go_enter Tryz.func129,Tryz.ntmps129;go_wp2;go_ret;exact⟨ZH (by rw[a.o];rfl),rfl⟩
   |false=>
    have a:Hid (XO s k=if Zv s k=59\/Zv s k=58\/Zv s k=44 then 1 else 0):=by show _=_;simp[XO,g,i]
    rw[g]at m;rw[i]at n;clear g i;generalize Zv s k=c at*;by_cases c1:c=59
    ·have p:(c==59)=true:=by simp[c1]
     have d:=Za c1;clear c1;go_enter Tryz.func129,Tryz.ntmps129;go_wp2;go_ret;exact⟨ZH (by rw[a.o,d.o];rfl),rfl⟩
    have p:(c==59)=false:=by simp[c1]
    by_cases b:c=58
    ·have q:(c==58)=true:=by simp[b]
     have d:=Za b;clear c1 b;go_enter Tryz.func129,Tryz.ntmps129;go_wp2;go_ret;exact⟨ZH (by rw[a.o,d.o];rfl),rfl⟩
    have q:(c==58)=false:=by simp[b]
    by_cases f:c=44
    ·have r:(c==44)=true:=by simp[f]
     have d:=Za f;clear c1 b f;go_enter Tryz.func129,Tryz.ntmps129;go_wp2;go_ret;exact⟨ZH (by rw[a.o,d.o];rfl),rfl⟩
    have r:(c==44)=false:=by simp[f]
    have h:Hid (XO s k=0):=by show _=_;rw[a.o,if_neg (by omega)]
    clear c1 b f a;go_enter Tryz.func129,Tryz.ntmps129;go_wp2;go_ret;exact⟨ZH (by rw[h.o];rfl),rfl⟩
 ·have l:¬(k:Int)+1<(s.size:Int):=by omega
  have t:Ti s k 46 46=false:=by simp[Ti,j]
  have u:Ti s k 45 62=false:=by simp[Ti,j]
  have a:Hid (XO s k=if Zv s k=59\/Zv s k=58\/Zv s k=44 then 1 else 0):=by show _=_;simp[XO,t,u]
  clear t u;generalize Zv s k=c at*;by_cases c1:c=59
  ·have p:(c==59)=true:=by simp[c1]
   have d:=Za c1;clear c1;go_enter Tryz.func129,Tryz.ntmps129;go_wp2;go_ret;exact⟨ZH (by rw[a.o,d.o];rfl),rfl⟩
  have p:(c==59)=false:=by simp[c1]
  by_cases b:c=58
  ·have q:(c==58)=true:=by simp[b]
   have d:=Za b;clear c1 b;go_enter Tryz.func129,Tryz.ntmps129;go_wp2;go_ret;exact⟨ZH (by rw[a.o,d.o];rfl),rfl⟩
  have q:(c==58)=false:=by simp[b]
  by_cases f:c=44
  ·have r:(c==44)=true:=by simp[f]
   have d:=Za f;clear c1 b f;go_enter Tryz.func129,Tryz.ntmps129;go_wp2;go_ret;exact⟨ZH (by rw[a.o,d.o];rfl),rfl⟩
  have r:(c==44)=false:=by simp[f]
  have h:Hid (XO s k=0):=by show _=_;rw[a.o,if_neg (by omega)]
  clear c1 b f a;go_enter Tryz.func129,Tryz.ntmps129;go_wp2;go_ret;exact⟨ZH (by rw[h.o];rfl),rfl⟩
def YO:List ByteArray:=[Wb,VP,SA,Wc,ZS,WD,Yj,ZY,WK,UZ,Yq,Vb,Tl]
def Vh (t:Tk):Prop:=∀m,m∈YO->Zq t m=(t.text.toList==m.toList)
theorem UC {a b:ByteArray}(h:(a.toList==b.toList)=true)(k:Nat):Zv a k=Zv b k:=by
 have e:a.toList=b.toList:=by simpa using h
 rw[ByteArray.toList_eq,ByteArray.toList_eq]at e;unfold Zv;rw[e]
theorem S0 (m:ByteArray):Xh m=DL.contains m.data.toList:=by unfold Xh;rw[ByteArray.toList_eq]
theorem Jz:∀m,m∈YO->(Zp (Zv m 0)=true/\DL.contains m.data.toList=true)\/(Zv m 0=59\/Zv m 0=58\/Zv m 0=44\/Zv m 0=46\/Zv m 0=45):=by decide
theorem Qj (m:ByteArray)(h:m∈YO):(Zp (Zv m 0)=true/\Xh m=true)\/(Zv m 0=59\/Zv m 0=58\/Zv m 0=44\/Zv m 0=46\/Zv m 0=45):=by
 rw[S0];exact Jz m h
theorem Ep {a b:ByteArray}(h:(a.toList==b.toList)=true):Xh a=Xh b:=by
 have e:a.toList=b.toList:=by simpa using h
 unfold Xh;rw[e]
theorem Tn (x:ByteArray)(l:Nat):Vh ⟨2,x,l⟩:=fun m _=>by simp[Zq]
theorem LR {x:ByteArray}{l:Nat}(h:Zp (Zv x 0)=true)(c:Xh x=false):Vh ⟨0,x,l⟩:=by
 intro m d;simp only[Zq]
 cases b:(x.toList==m.toList)with
 |false=>simp
 |true=>
  exfalso
  rcases Qj m d with⟨_,a⟩|a
  ·rw[<-Ep b,c]at a;cases a
  ·rw[<-UC b 0]at a
   simp[Zp]at h;omega
theorem JA {x:ByteArray}{l:Nat}(h:iD (Zv x 0)=true):Vh ⟨1,x,l⟩:=by
 intro m c;simp only[Zq]
 cases b:(x.toList==m.toList)with
 |false=>simp
 |true=>
  exfalso
  simp[iD]at h;rcases Qj m c with⟨a,_⟩|a
  ·rw[<-UC b 0]at a
   simp[Zp]at a;omega
  ·rw[<-UC b 0]at a
   omega
theorem JB (l:Nat):Vh ⟨3,I,l⟩:=by
 intro m d;simp only[Zq]
 cases b:(I.toList==m.toList)with
 |false=>simp
 |true=>
  exfalso
  have c:Zv I 0=0:=by decide
  rcases Qj m d with⟨a,_⟩|a
  ·rw[<-UC b 0,c]at a
   simp[Zp]at a
  ·rw[<-UC b 0,c]at a
   omega
theorem Wz (s:ByteArray)(k n:Nat)(h:1<=n):Zv (s.extract k (k+n)) 0=Zv s k:=by
 rw[QQ s k (k+n) 0 (by omega)];rfl
def LS (t:Tk):Prop:=Vh t/\(t.sort=1->1<=t.text.size)/\t.sort≠3/\(t.sort=0->t.text.size<=8)/\Zv t.text 0≠78/\Zv t.text 0≠73
theorem RJ (s:ByteArray)(k n:Nat)(h:k+n<=s.size):(s.extract k (k+n)).size=n:=by
 rw[ByteArray.size_extract];omega
theorem LT {s:ByteArray}{k f k':Nat}{t:Tk}(h:k<s.size)(a:Zl s k f=.tok t k'):LS t:=by
 unfold Zl at a
 split at a
 ·contradiction
 split at a
 ·contradiction
 split at a
 ·contradiction
 split at a
 ·rename_i i
  have d:=Xf Zi s k h (by simp[Zi,i]);have c:=Xw Zi s k (by omega)
  have l:Zv (s.extract k (k+Zt Zi s k)) 0≠78/\Zv (s.extract k (k+Zt Zi s k)) 0≠73:=by
   rw[Wz _ _ _ d];simp[Zp]at i;omega
  split at a
  ·injection a with b g;subst b;exact⟨Tn _ _,fun e=>by simp at e,by simp,fun e=>by simp at e,l⟩
  split at a
  ·contradiction
  ·rename_i n o
   injection a with b g;subst b;exact⟨LR (by rw[Wz _ _ _ d];exact i) (by simpa using n),fun e=>by simp at e,by simp,fun _=>by show(s.extract _ _).size<=8;rw[RJ _ _ _ c];omega,l⟩
 split at a
 ·rename_i j
  have d:=Xf iD s k h j;have c:=Xw iD s k (by omega)
  split at a
  ·contradiction
  ·injection a with b g
   subst b;exact⟨JA (by rw[Wz _ _ _ d];exact j),fun _=>by show 1<=(s.extract _ _).size;rw[RJ _ _ _ c];exact d,by simp,fun e=>by simp at e,by show Zv (s.extract _ _) 0≠78/\_;rw[Wz _ _ _ d];simp[iD]at j;omega⟩
 split at a
 ·rename_i p
  injection a with b g;subst b;exact⟨Tn _ _,fun e=>by simp at e,by simp,fun e=>by simp at e,by show Zv (s.extract _ _) 0≠78/\_;rw[Wz _ _ _ (by omega)];omega⟩
 split at a
 ·rename_i m
  injection a with b g;subst b;simp only[Bool.or_eq_true]at m
  exact⟨Tn _ _,fun e=>by simp at e,by simp,fun e=>by simp at e,by
   show Zv (s.extract _ _) 0≠78/\_
   rw[Wz _ _ _ (by omega)];simp[Ti]at m
   omega⟩
 ·contradiction
def Qe (l:List UInt8):Nat:=l.count 10
theorem LU (c:UInt8)(r:List UInt8):Qe (c::r)=Qe r+(if(c.toNat:Int)=10 then 1 else 0):=by
 unfold Qe;rw[List.count_cons]
 have e:(c==10)=decide ((c.toNat:Int)=10):=by
  rw[Bool.eq_iff_iff];simp only[beq_iff_eq,decide_eq_true_eq];rw[<-UInt8.toNat_inj];have:(10:UInt8).toNat=10:=rfl;omega
 rw[e];simp
theorem I1 (p:Int->Bool)(a:p 10=false):∀(l:List UInt8),Qe (l.drop (Ys p l))=Qe l
 |[]=>rfl
 |c::r=>by
  simp only[Ys]
  split
  ·rename_i b
   rw[List.drop_succ_cons,I1 p a r,LU,if_neg (fun e=>by rw[e,a]at b;cases b)];rfl
  ·rfl
theorem Sl (p:Int->Bool)(a:p 10=false)(s:ByteArray)(k:Nat):Qe (s.data.toList.drop (k+Zt p s k))=Qe (s.data.toList.drop k):=by
 unfold Zt;rw[<-I1 p a (s.data.toList.drop k),List.drop_drop]
theorem P1 (s:ByteArray)(k:Nat)(h:k<s.size):Qe (s.data.toList.drop k)=Qe (s.data.toList.drop (k+1))+(if Zv s k=10 then 1 else 0):=by
 rw[dC (by simpa using h),LU,PH s k h];rfl
theorem Tb (s:ByteArray)(k:Nat)(h:k<s.size)(a:Zv s k≠10):Qe (s.data.toList.drop (k+1))=Qe (s.data.toList.drop k):=by
 rw[P1 s k h,if_neg a];rfl
theorem Qk {s:ByteArray}{k a k' l':Nat}(h:k<s.size)(b:Zl s k a=.skip k' l'):l'+Qe (s.data.toList.drop k')=a+Qe (s.data.toList.drop k):=by
 unfold Zl at b
 split at b
 ·rename_i e
  injection b with c d;subst c d;rw[P1 s k h,if_pos e];omega
 split at b
 ·rename_i e f
  injection b with c d;subst c d;rw[Tb s k h e]
 split at b
 ·injection b with c d;subst c d
  rw[Sl Zy rfl]
 repeat' (split at b)
 all_goals contradiction
theorem JC {s:ByteArray}{k:Nat}{a b:Int}(h:Ti s k a b=true):Zv s k=a/\Zv s (k+1)=b/\k+2<=s.size:=by
 simp[Ti]at h;exact⟨h.1.2,h.2,h.1.1⟩
theorem Ph {s:ByteArray}{k d k':Nat}{t:Tk}(h:k<s.size)(a:Zl s k d=.tok t k'):Qe (s.data.toList.drop k')=Qe (s.data.toList.drop k):=by
 unfold Zl at a
 split at a
 ·contradiction
 rename_i f
 split at a
 ·contradiction
 split at a
 ·contradiction
 split at a
 ·split at a
  ·injection a with e b;subst b;exact Sl Zi rfl s k
  split at a
  ·contradiction
  ·injection a with e b;subst b;exact Sl Zi rfl s k
 split at a
 ·split at a
  ·contradiction
  ·injection a with e b;subst b;exact Sl iD rfl s k
 split at a
 ·injection a with e b;subst b;exact Tb s k h f
 split at a
 ·rename_i c
  injection a with e b;subst b;simp only[Bool.or_eq_true]at c
  have g:Zv s (k+1)≠10/\k+2<=s.size:=by
   rcases c with c|c
   ·have:=JC c;omega
   ·have:=JC c;omega
  rw[show k+2=(k+1)+1 from rfl,Tb s (k+1) (by omega) g.1,Tb s k h f]
 ·contradiction
theorem LV {s:ByteArray}:∀(n k a:Nat)(b ts:List Tk),s.size-k=n->(∀t,t∈b->LS t)->ZL s k a b=.ok ts->
  ∃body,ts=body++[⟨3,I,a+Qe (s.data.toList.drop k)⟩]/\∀t,t∈body->LS t:=by
 intro n
 induction n using Nat.strongRecOn with
 |ind n l=>
  intro k a b ts m c h;by_cases d:k<s.size
  ·cases f:Zl s k a with
   |skip k' l'=>
    rw[YY d f]at h;have:=Ww d f;have i:=Qk d f;obtain⟨body,e,j⟩:=l (s.size-k') (by omega) k' l' b ts rfl c h;exact⟨body,by rw[e,i],j⟩
   |tok t k'=>
    rw[Ve d f]at h;have:=Va d f;have i:=Ph d f
    obtain⟨body,e,j⟩:=l (s.size-k') (by omega) k' a (b++[t]) ts rfl (fun u g=>by
     rcases List.mem_append.1 g with g|g
     ·exact c u g
     ·simp at g;subst g;exact LT d f) h
    exact⟨body,by rw[e,i],j⟩
   |bad=>rw[XN d f]at h;cases h
  ·rw[Vf d]at h
   injection h with h;subst h;refine⟨b,?_,c⟩;rw[dL (by simpa using d)];rfl
def Uk (t:Tk):Int:=if t.sort=0 then 110 else if t.sort=1 then 105 else if Xh t.text then 107 else 115
def Vw (t:Tk):List Value:=[.string t.text,.int .u8 (Uk t),.int .i64 t.line]
def WX (ts:List Tk):List Value:=ts.flatMap Vw
theorem LW (ts:List Tk)(t:Tk):WX (ts++[t])=WX ts++Vw t:=by simp[WX]
theorem MT:(S.info? 166).map (fun i=>(i.zero,i.size,i.bytes))=some (some (.agg #[.string I,.int .u8 0,.int .i64 0]),3,32):=by kernel_rfl
