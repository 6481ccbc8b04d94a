import Derived.Test.YtccikgogjfbpeaaGreatDoorAe
open List renaming getD_eq_getElem?_getD->I
namespace Go.Proofs.YtccikgogjfbpeaaGreatDoor
set_option maxRecDepth 30000
set_option maxHeartbeats 8000000
open Go.RowKit
theorem UX (s w)(g:Dg s):
  Calls Tryz.prog 133 #[.string s] w fun e w'=>e=.returned (.int .i64 (Yu s.data.toList))/\w'=w:=by
 have b:=Za g;have h:=g.1;go_enter Tryz.func133,Tryz.ntmps133;go_wp2
 go_loop [3,4] (fun n i=>∃k:Nat,k<=s.size/\i=.int .i64 k/\n=.int .i64 (Yu (s.data.toList.take k))) (fun _ i=>s.size-(intOf i).toNat)
 case atStart=>exact⟨0,Nat.zero_le _,rfl,rfl⟩
 obtain⟨k,j,rfl,rfl⟩:=hrel;have p:=SL s b.o k j;by_cases a:k<s.size
 ·have l:=fun w=>VH (P:=Tryz.prog) Tryz.underlying9 s k (k:Int) rfl a w
  have d:=Za (Nr s b.o k a);have m:=b.o.2 k a
  have f:(k:Int)<(s.size:Int):=by omega
  generalize Yu (s.data.toList.take k)=n at*;generalize ZC s k=c at*;go_wp2;refine⟨⟨k+1,by omega,by go_num,?_⟩,by simp[intOf];omega⟩;rw[d.o,Int.mul_comm]
 have f:¬(k:Int)<(s.size:Int):=by omega
 go_wp2;go_ret;exact⟨ZO (by rw[List.take_of_length_le (by simp;omega)]),rfl⟩
def XX (s:ByteArray)(k:Nat):Nat:=if P5 s k 46 46||P5 s k 45 62 then 2 else if ZC s k=59\/ZC s k=58\/ZC s k=44 then 1 else 0
theorem Of (s k a b)(h:k+2<=s.size):((s.extract k (k+2)).toList==[a,b])=P5 s k (a.toNat:Int) (b.toNat:Int):=by
 rw[ByteArray.toList_eq,Lib.extract_data,show k+2-k=2 from by omega];unfold P5 ZC
 have c:(s.data.toList.drop k).length=s.size-k:=by simp
 have g0:s.data.toList.getD k 0=(s.data.toList.drop k).getD 0 0:=by simp[I]
 have g1:s.data.toList.getD (k+1) 0=(s.data.toList.drop k).getD 1 0:=by simp[I]
 rw[g0,g1];generalize s.data.toList.drop k=l at*
 match l,c with
 |[],c=>simp at c;omega
 |[_],c=>simp at c;omega
 |x::y::r,c=>
  have e:∀u v:UInt8,(u==v)=decide ((u.toNat:Int)=(v.toNat:Int)):=by
   intro u v;rw[Bool.eq_iff_iff];simp only[beq_iff_eq,decide_eq_true_eq];rw[<-UInt8.toNat_inj];omega
  simp[h,e]
theorem Iw (s)(k:Nat)(w)(r:k<s.size)(z:s.size<=3000):
  Calls Tryz.prog 129 #[.string s,.int .i64 k] w fun e w'=>e=.returned (.int .i64 (XX s k))/\w'=w:=by
 have t:=fun w=>VH (P:=Tryz.prog) Tryz.underlying9 s k (k:Int) rfl r w
 by_cases i:k+2<=s.size
 ·have l:(k:Int)+1<(s.size:Int):=by omega
  have u:(k:Int)<=(k:Int)+2:=by omega
  have v:(k:Int)+2<=(s.size:Int):=by omega
  have A:((k:Int)+2).toNat=k+2:=by omega
  have t1:((s.extract k (k+2)).toList==[46,46])=P5 s k 46 46:=Of s k 46 46 i;have q:((s.extract k (k+2)).toList==[45,62])=P5 s k 45 62:=Of s k 45 62 i
  cases h:P5 s k 46 46 with
  |true=>
   have a:Hid (XX s k=2):=by show _=_;simp[XX,h]
   rw[h]at t1;go_enter Tryz.func129,Tryz.ntmps129;go_wp2;go_ret;exact⟨ZO (by rw[a.o];rfl),rfl⟩
  |false=>
   cases j:P5 s k 45 62 with
   |true=>
    have a:Hid (XX s k=2):=by show _=_;simp[XX,h,j]
    rw[h]at t1;rw[j]at q;go_enter Tryz.func129,Tryz.ntmps129;go_wp2;go_ret;exact⟨ZO (by rw[a.o];rfl),rfl⟩
   |false=>
    have a:Hid (XX s k=if ZC s k=59\/ZC s k=58\/ZC s k=44 then 1 else 0):=by show _=_;simp[XX,h,j]
    rw[h]at t1;rw[j]at q;generalize ZC s k=c at*;by_cases c1:c=59
    ·have m:(c==59)=true:=by simp[c1]
     have b:=Za c1;go_enter Tryz.func129,Tryz.ntmps129;go_wp2;go_ret;exact⟨ZO (by rw[a.o,b.o];rfl),rfl⟩
    have m:(c==59)=false:=by simp[c1]
    by_cases d:c=58
    ·have n:(c==58)=true:=by simp[d]
     have b:=Za d;go_enter Tryz.func129,Tryz.ntmps129;go_wp2;go_ret;exact⟨ZO (by rw[a.o,b.o];rfl),rfl⟩
    have n:(c==58)=false:=by simp[d]
    by_cases f:c=44
    ·have p:(c==44)=true:=by simp[f]
     have b:=Za f;go_enter Tryz.func129,Tryz.ntmps129;go_wp2;go_ret;exact⟨ZO (by rw[a.o,b.o];rfl),rfl⟩
    have p:(c==44)=false:=by simp[f]
    have g:Hid (XX s k=0):=by show _=_;rw[a.o,if_neg (by omega)]
    go_enter Tryz.func129,Tryz.ntmps129;go_wp2;go_ret;exact⟨ZO (by rw[g.o];rfl),rfl⟩
 have l:¬(k:Int)+1<(s.size:Int):=by omega
 have x:P5 s k 46 46=false:=by simp[P5,i]
 have y:P5 s k 45 62=false:=by simp[P5,i]
 have a:Hid (XX s k=if ZC s k=59\/ZC s k=58\/ZC s k=44 then 1 else 0):=by show _=_;simp[XX,x,y]
 generalize ZC s k=c at*;by_cases c1:c=59
 ·have m:(c==59)=true:=by simp[c1]
  have b:=Za c1;go_enter Tryz.func129,Tryz.ntmps129;go_wp2;go_ret;exact⟨ZO (by rw[a.o,b.o];rfl),rfl⟩
 have m:(c==59)=false:=by simp[c1]
 by_cases d:c=58
 ·have n:(c==58)=true:=by simp[d]
  have b:=Za d;go_enter Tryz.func129,Tryz.ntmps129;go_wp2;go_ret;exact⟨ZO (by rw[a.o,b.o];rfl),rfl⟩
 have n:(c==58)=false:=by simp[d]
 by_cases f:c=44
 ·have p:(c==44)=true:=by simp[f]
  have b:=Za f;go_enter Tryz.func129,Tryz.ntmps129;go_wp2;go_ret;exact⟨ZO (by rw[a.o,b.o];rfl),rfl⟩
 have p:(c==44)=false:=by simp[f]
 have g:Hid (XX s k=0):=by show _=_;rw[a.o,if_neg (by omega)]
 go_enter Tryz.func129,Tryz.ntmps129;go_wp2;go_ret;exact⟨ZO (by rw[g.o];rfl),rfl⟩
