import Derived.Test.YtccikgogjfbpeaaGreatDoorAk
import Derived.Test.YtccikgogjfbpeaaGreatDoorAm
open Go.Value renaming string->I,bool->J
namespace Go.Proofs.YtccikgogjfbpeaaGreatDoor
set_option maxRecDepth 30000
set_option maxHeartbeats 8000000
open Go.RowKit
def ui:Value->Nat
 |I t=>t.size
 |_=>0
theorem FQ {t}(g:1<t.size)(f:ZC t 0=48):Yj t.data.toList=Yj (t.extract 1 t.size).data.toList:=by
 rw[Lib.extract_data]
 have c:t.data.toList.length=t.size:=by simp
 have d:t.data.toList.getD 0 0=48:=by
  unfold ZC at f;rw[<-UInt8.toNat_inj];have:(48:UInt8).toNat=48:=rfl;omega
 match e:t.data.toList,c with
 |[],c=>simp at c;omega
 |[_],c=>simp at c;omega
 |a::b::r,c=>
  rw[e]at d;simp at d;subst d;rw[VB,List.drop_succ_cons,List.drop_zero,List.take_of_length_le (by simp at c ⊢;omega)]
theorem Mh {t}(h:t.size<=1\/ZC t 0≠48):Yj t.data.toList=t.data.toList:=by
 have c:t.data.toList.length=t.size:=by simp
 match e:t.data.toList,c with
 |[],_=>rfl
 |[a],_=>exact Ue a
 |a::b::r,c=>
  refine VO a _ (fun d=>?_);rcases h with h|h
  ·simp at c;omega
  apply h
  unfold ZC;rw[e,d];rfl
theorem CJ (s w)(h:s.size<=3000):
  Calls Tryz.prog 83 #[I s] w fun e w'=>(∃t,e=.returned (I t)/\t.data.toList=Yj s.data.toList)/\w'=w:=by
 go_enter Tryz.func83,Tryz.ntmps83;go_wp2_with fail
 go_loop [0] (fun v=>∃t:ByteArray,v=I t/\t.size<=3000/\Hid (Yj t.data.toList=Yj s.data.toList)) ui
 case atStart=>exact⟨s,rfl,h,rfl⟩
 obtain⟨t,rfl,l,d⟩:=hrel;by_cases i:1<t.size
 ·have f:(1:Int)<(t.size:Int):=by omega
  have g:=fun w=>VH (P:=Tryz.prog) Tryz.underlying9 t 0 (0:Int) rfl (by omega) w
  have j:(1:Int)<=(t.size:Int):=by omega
  by_cases b:ZC t 0=48
  ·have a:=Za ((FQ i b).symm.trans d.o)
   rw[b]at g;go_wp2;exact⟨⟨_,rfl,by rw[ByteArray.size_extract];omega,a⟩,by simp[ui];omega⟩
  have a:=Za ((Mh (Or.inr b)).symm.trans d.o)
  have k:(ZC t 0==48)=false:=by simp[b]
  generalize ZC t 0=c at*;go_wp2;go_ret;exact⟨⟨t,rfl,a.o⟩,rfl⟩
 have f:¬(1:Int)<(t.size:Int):=by omega
 have a:=Za ((Mh (Or.inl (by omega))).symm.trans d.o);go_wp2;go_ret;exact⟨⟨t,rfl,a.o⟩,rfl⟩
theorem CK (w q a c body)(hq:w.cell? ⟨q,0,none⟩=some (.slice a body.length c))(i:0<body.length->∃g,a=some ⟨g,0,none⟩/\xV w g body)(hb:body.length<=3000)(G:∀t,t∈body->t.text.size<=3000):
  Calls Tryz.prog 45 #[.pointer (some ⟨q,0,none⟩)] w fun e w'=>(∃t,e=.returned (I t)/\t.data.toList=VQ body body.length)/\w'=w:=by
 have O:=Za i;have f0:=Za G;obtain⟨n,hn⟩:∃n,body.length=n:=⟨_,rfl⟩;rw[hn]at hq hb ⊢;have HN:=Za hn;clear i G hn;go_enter Tryz.func45,Tryz.ntmps45;go_wp2_with fail
 go_loop [3,4,5,6] (fun o fb gb ix=>∃k l E F,k<=n/\o=I l/\fb=J E/\gb=J F/\ix=.int .i64 (k:Nat)/\l.size<=k*3002/\Hid (l.data.toList++ZS E F (Yo body k (n-k))=VQ body n)) (fun _ _ _ ix=>n-(intOf ix).toNat)
 case atStart=>exact⟨0,⟨#[]⟩,true,false,Nat.zero_le _,rfl,rfl,rfl,rfl,by decide,by show _=_;rfl⟩
 obtain⟨k,l,E,F,hk,rfl,rfl,rfl,rfl,P,HR⟩:=hrel;by_cases g0:k<n
 ·obtain⟨t,G⟩:∃t,body[k]?=some t:=⟨_,gE (by have:=HN.o;omega)⟩
  obtain⟨g,hg,i⟩:=O.o (by have:=HN.o;omega);rw[hg]at hq;obtain⟨r0,r1,r2⟩:=i k t G;have HT:=Za (Vn G);have Q:=Za i;have R:=Za (f0.o t (mG G))
  have i0:(k:Int)<(n:Int):=by omega
  obtain⟨dg,S⟩:∃dg,SD body k=dg:=⟨_,rfl⟩;have p:=Za S;clear i G hg S r2;go_upto_region 8 with fail
  go_cut [8]from 10 to 118 (fun s8 y=>s8=J dg/\y=w)
  case first=>
   clear r0 r1;by_cases T:k=0
   ·have d0:decide ((0:Int)<(k:Int))=false:=by simp;omega
    have r:decide (0<k)=false:=by simp;omega
    have d2:decide ((2:Int)<(k:Int))=false:=by simp;omega
    have u:decide (2<k)=false:=by simp;omega
    have e:dg=false:=by rw[<-p.o];unfold SD;rw[r,u];rfl
    subst e;clear T;go_wp2_with fail;go_meet;exact⟨rfl,rfl⟩
   have d0:decide ((0:Int)<(k:Int))=true:=by simp;omega
   have r:decide (0<k)=true:=by simp;omega
   obtain⟨U,M⟩:∃U,body[k-1]?=some U:=⟨_,gE (by have:=HN.o;omega)⟩;obtain⟨p0,_,_⟩:=Q.o (k-1) U M;have z:=Za (Vn M);obtain⟨m,N⟩:∃m,k-1=m:=⟨_,rfl⟩;rw[N]at p0
   have y0:IntKind.i64.wrap ((k:Int)-1)=((m:Nat):Int):=by rw[IntWalk.i64_in _ (by omega)];omega
   have A0:(m:Int)<(n:Int):=by omega
   have HM:=Za N
   cases A:(U.text.toList==[98,105,110])with
   |true=>
    have e:dg=true:=by rw[<-p.o];unfold SD Ll;rw[z.o,A,r];rfl
    subst e;clear T N M;go_wp2_with fail;go_meet;exact⟨rfl,rfl⟩
   |false=>
    by_cases k2:2<k
    ·have d2:decide ((2:Int)<(k:Int))=true:=by simp;omega
     have u:decide (2<k)=true:=by simp;omega
     cases V:(U.text.toList==[46,46])with
     |false=>
      have e:dg=false:=by rw[<-p.o];unfold SD Ll;rw[z.o,A,V,r,u];rfl
      subst e;clear T N M k2;go_wp2_with fail;go_meet;exact⟨rfl,rfl⟩
     |true=>
      obtain⟨tq,H⟩:∃tq,body[k-3]?=some tq:=⟨_,gE (by have:=HN.o;omega)⟩;obtain⟨p3,_,_⟩:=Q.o (k-3) tq H;have j0:=Za (Vn H);obtain⟨m3,W⟩:∃m3,k-3=m3:=⟨_,rfl⟩;rw[W]at p3
      have B0:IntKind.i64.wrap ((k:Int)-3)=((m3:Nat):Int):=by rw[IntWalk.i64_in _ (by omega)];omega
      have w0:(m3:Int)<(n:Int):=by omega
      have e:dg=(tq.text.toList==[98,105,110]):=by rw[<-p.o];unfold SD Ll;rw[z.o,j0.o,A,V,r,u];rfl
      subst e;clear T N M k2 W H;go_wp2_with fail;go_meet;exact⟨rfl,rfl⟩
    have d2:decide ((2:Int)<(k:Int))=false:=by simp;omega
    have u:decide (2<k)=false:=by simp;omega
    have e:dg=false:=by rw[<-p.o];unfold SD Ll;rw[z.o,A,r,u];rfl
    subst e;clear T N M k2;go_wp2_with fail;go_meet;exact⟨rfl,rfl⟩
  obtain⟨rfl,d⟩:=hcut;replace d:=d.symm;subst d;have f1:=xW t
  have X:Xc body k=if decide (t.sort=1)&&!dg then Yj t.text.data.toList else t.text.data.toList:=by unfold Xc;rw[HT.o,p.o]
  have v:=Za X;clear X;obtain⟨bs,Y⟩:∃bs,decide (t.sort=1)=bs:=⟨_,rfl⟩;rw[Y]at f1 v;clear Y;generalize UB t=KD at*;go_upto_region 9 with fail
  go_cut [81]from 10 to 118 (fun l0 y=>l0=J (bs&&!dg)/\y=w)
  case first=>
   cases bs with
   |false=>
    go_wp2_with fail;go_meet;exact⟨rfl,rfl⟩
   |true=>
    go_wp2_with fail;go_meet;exact⟨rfl,rfl⟩
  obtain⟨rfl,d⟩:=hcut;replace d:=d.symm;subst d;obtain⟨bd,Z⟩:∃bd,(bs&&!dg)=bd:=⟨_,rfl⟩;rw[Z]at v ⊢;clear Z f1 r0 r1
  go_upto_if 81 with fail
  go_cut [7]from 10 to 118 (fun s7 y=>(∃f:ByteArray,s7=I f/\Hid (f.data.toList=Xc body k))/\y=w)
  case first=>
   cases bd with
   |false=>
    have HE:Hid (t.text.data.toList=Xc body k):=by show _=_;rw[v.o];rfl
    go_wp2_with fail;go_meet;exact⟨⟨t.text,rfl,HE⟩,rfl⟩
   |true=>
    go_wp2_with fail;refine(CJ t.text w R.o).mono ?_;rintro e w1 ⟨⟨t',rfl,h⟩,he⟩;replace he:=he.symm;subst he
    have HE:Hid (t'.data.toList=Xc body k):=by show _=_;rw[v.o,h];rfl
    clear h;go_wp2_with fail;go_meet;exact⟨⟨t',rfl,HE⟩,rfl⟩
  obtain⟨⟨f,rfl,a0⟩,d⟩:=hcut;replace d:=d.symm;subst d
  have m0:Hid (l.data.toList++ZS E F (Xc body k::Yo body (k+1) (n-(k+1)))=VQ body n):=by have e:=HR.o;rw[NO g0]at e;exact e
  obtain⟨x,B⟩:∃x,Uv f.data.toList=x:=⟨_,rfl⟩;have n0:=Za B;obtain⟨C,K⟩:∃b,(f.toList==[59])=b:=⟨_,rfl⟩;obtain⟨D,b0⟩:∃b,(f.toList==[46,46])=b:=⟨_,rfl⟩
  have o0:Hid ((f.data.toList==[59])=C):=by show _=_;rw[<-ByteArray.toList_eq];exact K
  have q0:Hid ((f.data.toList==[46,46])=D):=by show _=_;rw[<-ByteArray.toList_eq];exact b0
  have j:((f.toList==[59])||(f.toList==[44])||(f.toList==[58])||(f.toList==[46,46]))=x:=by rw[<-B];unfold Uv;rw[ByteArray.toList_eq]
  go_upto_region 11 with fail
  go_cut [9]from 10 to 118 (fun s9 y=>s9=J x/\y=w)
  case first=>
   clear B
   cases C with
   |true=>
    have e:x=true:=by rw[<-j,K];rfl
    subst e;go_wp2_with fail;go_meet;exact⟨rfl,rfl⟩
   |false=>
    cases c0:(f.toList==[44])with
    |true=>
     have e:x=true:=by rw[<-j,c0];simp
     subst e;go_wp2_with fail;go_meet;exact⟨rfl,rfl⟩
    |false=>
     cases e0:(f.toList==[58])with
     |true=>
      have e:x=true:=by rw[<-j,e0];simp
      subst e;go_wp2_with fail;go_meet;exact⟨rfl,rfl⟩
     |false=>
      have e:x=D:=by rw[<-j,K,c0,e0,b0];rfl
      subst e;go_wp2_with fail;go_meet;exact⟨rfl,rfl⟩
  obtain⟨rfl,d⟩:=hcut;replace d:=d.symm;subst d;clear B j;go_upto_region 12 with fail
  go_cut [107]from 10 to 118 (fun s y=>s=J (!E&&!F&&!x)/\y=w)
  case first=>
   cases E with
   |true=>go_wp2_with fail;go_meet;exact⟨rfl,rfl⟩
   |false=>
    cases F with
    |true=>go_wp2_with fail;go_meet;exact⟨rfl,rfl⟩
    |false=>go_wp2_with fail;go_meet;exact⟨rfl,rfl⟩
  obtain⟨rfl,d⟩:=hcut;replace d:=d.symm;subst d;obtain⟨sp,L⟩:∃sp,(!E&&!F&&!x)=sp:=⟨_,rfl⟩;rw[L]
  have s0:Hid (ZS E F (Xc body k::Yo body (k+1) (n-(k+1)))=(if sp then[32]else[])++(f.data.toList++(if C then 10::ZS true D (Yo body (k+1) (n-(k+1)))else ZS false D (Yo body (k+1) (n-(k+1)))))):=by
   show _=_
   rw[<-a0.o];simp only[ZS];rw[n0.o,L,o0.o,q0.o]
  clear L
  have C0:f.size<=3000:=by
   have e1:f.data.toList.length=f.size:=by simp
   have e2:(Xc body k).length<=t.text.size:=by
    rw[v.o]
    have e3:t.text.data.toList.length=t.text.size:=by simp
    split
    ·rcases Nat.eq_zero_or_pos t.text.data.toList.length with h0|h0
     ·rw[List.length_eq_zero_iff.1 h0];simp[Yj]
     have:=(Qb t.text.data.toList (fun e=>by rw[e]at h0;simp at h0)).2
     omega
    omega
   rw[a0.o]at e1;have:=R.o;omega
  have x0:l.size<=10000000:=by omega
  have z1:(l++(⟨#[32]⟩:ByteArray)).size=l.size+1:=by rw[ByteArray.size_append];rfl
  have z2:(l++(⟨#[32]⟩:ByteArray)++f).size=l.size+1+f.size:=by rw[ByteArray.size_append,z1]
  have z3:(l++f).size=l.size+f.size:=by rw[ByteArray.size_append]
  have t0:=Za P;have z0:(⟨#[32]⟩:ByteArray).size=1:=rfl;have v0:(⟨#[10]⟩:ByteArray).size=1:=rfl;clear P
  cases sp
  all_goals
   cases C
   all_goals
    go_wp2;refine⟨⟨k+1,_,_,_,by omega,rfl,rfl,rfl,by go_num,by have:=t0.o;simp only[ByteArray.size_append,z0,v0];omega,?_⟩,by simp[intOf];omega⟩
    show _=_
    rw[<-m0.o,s0.o];simp
 have i0:¬(k:Int)<(n:Int):=by omega
 have HE:Hid (l.data.toList=VQ body n):=by
  have e:=HR.o;rw[show n-k=0 from by omega]at e;simp only[Yo,ZS,List.append_nil]at e;exact e
 go_wp2;go_ret;exact⟨⟨l,rfl,HE.o⟩,rfl⟩
