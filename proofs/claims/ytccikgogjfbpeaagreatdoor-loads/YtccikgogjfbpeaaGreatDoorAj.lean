import Derived.Test.YtccikgogjfbpeaaGreatDoorAe
import Derived.Test.YtccikgogjfbpeaaGreatDoorAf
open _root_.ByteArray renaming empty->I
namespace Go.Proofs.YtccikgogjfbpeaaGreatDoor
set_option maxRecDepth 30000
set_option maxHeartbeats 8000000
def X5:List ByteArray:=[WU,Ub,RD,W7,Z6,Vw,YL,Yi,Va,Tv,Y1,V8,T5]
def VC (t:Tk):Prop:=∀m,m∈X5->Zn t m=(t.text.toList==m.toList)
theorem UY {a b}(h:(a.toList==b.toList)=true)(k):ZC a k=ZC b k:=by
 have e:a.toList=b.toList:=by simpa using h
 rw[ByteArray.toList_eq,ByteArray.toList_eq]at e;unfold ZC;rw[e]
theorem Qd (m):Y7 m=yC.contains m.data.toList:=by unfold Y7;rw[ByteArray.toList_eq]
theorem Fl:∀m,m∈X5->(ZJ (ZC m 0)=true/\yC.contains m.data.toList=true)\/(ZC m 0=59\/ZC m 0=58\/ZC m 0=44\/ZC m 0=46\/ZC m 0=45):=by decide
theorem Py (m)(h:m∈X5):(ZJ (ZC m 0)=true/\Y7 m=true)\/(ZC m 0=59\/ZC m 0=58\/ZC m 0=44\/ZC m 0=46\/ZC m 0=45):=by
 rw[Qd];exact Fl m h
theorem Ap {a b}(h:(a.toList==b.toList)=true):Y7 a=Y7 b:=by
 have e:a.toList=b.toList:=by simpa using h
 unfold Y7;rw[e]
theorem Sb (x l):VC ⟨2,x,l⟩:=fun m _=>by simp[Zn]
theorem Iy {x l}(h:ZJ (ZC x 0)=true)(c:Y7 x=false):VC ⟨0,x,l⟩:=by
 intro m d;simp only[Zn]
 cases b:(x.toList==m.toList)with
 |false=>simp
 |true=>
  exfalso
  rcases Py m d with⟨_,a⟩|a
  ·rw[<-Ap b,c]at a;cases a
  rw[<-UY b 0]at a
  simp[ZJ]at h;omega
theorem Fm {x l}(h:iD (ZC x 0)=true):VC ⟨1,x,l⟩:=by
 intro m c;simp only[Zn]
 cases b:(x.toList==m.toList)with
 |false=>simp
 |true=>
  exfalso
  simp[iD]at h;rcases Py m c with⟨a,_⟩|a
  ·rw[<-UY b 0]at a
   simp[ZJ]at a;omega
  rw[<-UY b 0]at a
  omega
theorem Fo (l):VC ⟨3,I,l⟩:=by
 intro m d;simp only[Zn]
 cases b:(I.toList==m.toList)with
 |false=>simp
 |true=>
  exfalso
  have c:ZC I 0=0:=by decide
  rcases Py m d with⟨a,_⟩|a
  ·rw[<-UY b 0,c]at a
   simp[ZJ]at a
  rw[<-UY b 0,c]at a
  omega
theorem WX (s k n)(h:1<=n):ZC (s.extract k (k+n)) 0=ZC s k:=by
 rw[SM s k (k+n) 0 (by omega)];rfl
def Iz (t:Tk):Prop:=VC t/\(t.sort=1->1<=t.text.size)/\t.sort≠3/\(t.sort=0->t.text.size<=8)/\ZC t.text 0≠78/\ZC t.text 0≠73
theorem QQ (s:ByteArray)(k n)(h:k+n<=s.size):(s.extract k (k+n)).size=n:=by
 rw[ByteArray.size_extract];omega
theorem IA {s k f k' t}(h:k<s.size)(a:Zs s k f=.tok t k'):Iz t:=by
 unfold Zs at a
 split at a
 ·contradiction
 split at a
 ·contradiction
 split at a
 ·contradiction
 split at a
 ·rename_i i
  have d:=XH Zq s k h (by simp[Zq,i]);have c:=We Zq s k (by omega)
  have l:ZC (s.extract k (k+ZM Zq s k)) 0≠78/\ZC (s.extract k (k+ZM Zq s k)) 0≠73:=by
   rw[WX _ _ _ d];simp[ZJ]at i;omega
  split at a
  ·injection a with b g;subst b;exact⟨Sb _ _,fun e=>by simp at e,by simp,fun e=>by simp at e,l⟩
  split at a
  ·contradiction
  rename_i n o
  injection a with b g;subst b;exact⟨Iy (by rw[WX _ _ _ d];exact i) (by simpa using n),fun e=>by simp at e,by simp,fun _=>by show(s.extract _ _).size<=8;rw[QQ _ _ _ c];omega,l⟩
 split at a
 ·rename_i j
  have d:=XH iD s k h j;have c:=We iD s k (by omega)
  split at a
  ·contradiction
  injection a with b g
  subst b;exact⟨Fm (by rw[WX _ _ _ d];exact j),fun _=>by show 1<=(s.extract _ _).size;rw[QQ _ _ _ c];exact d,by simp,fun e=>by simp at e,by show ZC (s.extract _ _) 0≠78/\_;rw[WX _ _ _ d];simp[iD]at j;omega⟩
 split at a
 ·rename_i p
  injection a with b g;subst b;exact⟨Sb _ _,fun e=>by simp at e,by simp,fun e=>by simp at e,by show ZC (s.extract _ _) 0≠78/\_;rw[WX _ _ _ (by omega)];omega⟩
 split at a
 ·rename_i m
  injection a with b g;subst b;simp only[Bool.or_eq_true]at m
  exact⟨Sb _ _,fun e=>by simp at e,by simp,fun e=>by simp at e,by
   show ZC (s.extract _ _) 0≠78/\_
   rw[WX _ _ _ (by omega)];simp[P5]at m
   omega⟩
 contradiction
def Pq (l:List UInt8):Nat:=l.count 10
theorem IB (c r):Pq (c::r)=Pq r+(if(c.toNat:Int)=10 then 1 else 0):=by
 unfold Pq;rw[List.count_cons]
 have e:(c==10)=decide ((c.toNat:Int)=10):=by
  rw[Bool.eq_iff_iff];simp only[beq_iff_eq,decide_eq_true_eq];rw[<-UInt8.toNat_inj];have:(10:UInt8).toNat=10:=rfl;omega
 rw[e];simp
theorem EW (p:Int->Bool)(a:p 10=false):∀(l:List UInt8),Pq (l.drop (X0 p l))=Pq l
 |[]=>rfl
 |c::r=>by
  simp only[X0]
  split
  ·rename_i b
   rw[List.drop_succ_cons,EW p a r,IB,if_neg (fun e=>by rw[e,a]at b;cases b)];rfl
  rfl
theorem Rk (p)(a:p 10=false)(s:ByteArray)(k):Pq (s.data.toList.drop (k+ZM p s k))=Pq (s.data.toList.drop k):=by
 unfold ZM;rw[<-EW p a (s.data.toList.drop k),List.drop_drop]
theorem NH (s k)(h:k<s.size):Pq (s.data.toList.drop k)=Pq (s.data.toList.drop (k+1))+(if ZC s k=10 then 1 else 0):=by
 rw[dC (by simpa using h),IB,Nc s k h];rfl
theorem TK (s k)(h:k<s.size)(a:ZC s k≠10):Pq (s.data.toList.drop (k+1))=Pq (s.data.toList.drop k):=by
 rw[NH s k h,if_neg a];rfl
theorem Pz {s k a k' l'}(h:k<s.size)(b:Zs s k a=.skip k' l'):l'+Pq (s.data.toList.drop k')=a+Pq (s.data.toList.drop k):=by
 unfold Zs at b
 split at b
 ·rename_i e
  injection b with c d;subst c d;rw[NH s k h,if_pos e];omega
 split at b
 ·rename_i e f
  injection b with c d;subst c d;rw[TK s k h e]
 split at b
 ·injection b with c d;subst c d
  rw[Rk ZV rfl]
 repeat' (split at b)
 all_goals contradiction
theorem Fp {s k a b}(h:P5 s k a b=true):ZC s k=a/\ZC s (k+1)=b/\k+2<=s.size:=by
 simp[P5]at h;exact⟨h.1.2,h.2,h.1.1⟩
theorem OG {s k d k' t}(h:k<s.size)(a:Zs s k d=.tok t k'):Pq (s.data.toList.drop k')=Pq (s.data.toList.drop k):=by
 unfold Zs at a
 split at a
 ·contradiction
 rename_i f
 split at a
 ·contradiction
 split at a
 ·contradiction
 split at a
 ·split at a
  ·injection a with e b;subst b;exact Rk Zq rfl s k
  split at a
  ·contradiction
  injection a with e b;subst b;exact Rk Zq rfl s k
 split at a
 ·split at a
  ·contradiction
  injection a with e b;subst b;exact Rk iD rfl s k
 split at a
 ·injection a with e b;subst b;exact TK s k h f
 split at a
 ·rename_i c
  injection a with e b;subst b;simp only[Bool.or_eq_true]at c
  have g:ZC s (k+1)≠10/\k+2<=s.size:=by
   rcases c with c|c
   ·have:=Fp c;omega
   have:=Fp c;omega
  rw[show k+2=(k+1)+1 from rfl,TK s (k+1) (by omega) g.1,TK s k h f]
 contradiction
theorem IC {s}:∀n k a b ts,s.size-k=n->(∀t,t∈b->Iz t)->ZK s k a b=.ok ts->
  ∃body,ts=body++[⟨3,I,a+Pq (s.data.toList.drop k)⟩]/\∀t,t∈body->Iz t:=by
 intro n
 induction n using Nat.strongRecOn with
 |ind n l=>
  intro k a b ts m c h;by_cases d:k<s.size
  ·cases f:Zs s k a with
   |skip k' l'=>
    rw[YH d f]at h;have:=X1 d f;have i:=Pz d f;obtain⟨body,e,j⟩:=l (s.size-k') (by omega) k' l' b ts rfl c h;exact⟨body,by rw[e,i],j⟩
   |tok t k'=>
    rw[WE d f]at h;have:=WD d f;have i:=OG d f
    obtain⟨body,e,j⟩:=l (s.size-k') (by omega) k' a (b++[t]) ts rfl (fun u g=>by
     rcases List.mem_append.1 g with g|g
     ·exact c u g
     simp at g;subst g;exact IA d f) h
    exact⟨body,by rw[e,i],j⟩
   |bad=>rw[Xp d f]at h;cases h
  rw[WF d]at h
  injection h with h;subst h;refine⟨b,?_,c⟩;rw[dL (by simpa using d)];rfl
abbrev bs (l:List UInt8):ByteArray:=⟨l.toArray⟩
def At (ts:List Tk)(i:Nat)(l:List Tk):Prop:=ts.drop i=l
