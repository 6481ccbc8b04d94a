import Derived.Test.YtccikgogjfbpeaaGreatDoorQu
open Option renaming none->I,some->J
open Go.Value renaming int->S,bool->Z,string->U,slice->K
open Go.IntKind renaming i64->Y,i64->G
open Go renaming Value->O,World->E
open List renaming getElem?_append_left->H,length_cons->D
namespace Go.Proofs.YtccikgogjfbpeaaGreatDoor
set_option maxRecDepth 30000
set_option maxHeartbeats 8000000
open Go.RowKit
structure UD (w0 w:E)(p q X i:Nat)(f:Fa)(cs:Nat->O):Prop where
 wp:TG w p q i f
 xb:XB w X cs
 fr:Fr (fun j=>j=p) w0 w
 xl:w0.heap.size<=X
 ne:X≠p
theorem UD.move {w0 w:E}{p q X i:Nat}{f:Fa}{b:Nat->O}(h:UD w0 w p q X i f b)(k:Nat):UD w0 (w.setCell ⟨p,1,I⟩ (S Y k)) p q X k f b:=by
 have a:=h.wp.move k;exact⟨a.1,h.xb.fr a.2 h.ne,h.fr.trans a.2,h.xl,h.ne⟩
theorem UD.set {w0 w:E}{p q X i:Nat}{f:Fa}{a:Nat->O}(h:UD w0 w p q X i f a){k:Nat}(c:k<13)(v:O):UD w0 (w.setCell ⟨X,k,I⟩ v) p q X i f (WU a k v):=by
 have b:=h.xb.set c v;exact⟨h.wp.fr b.2 (fun e=>h.ne e.symm),b.1,h.fr.setCell (p:=⟨X,k,I⟩) (Or.inr h.xl) v,h.xl,h.ne⟩
theorem UD.call {w0 w w':E}{p q X i a:Nat}{f f':Fa}{b:Nat->O}(h:UD w0 w p q X i f b)(d:TG w' p q a f')(c:Fr (fun j=>j=p) w w'):UD w0 w' p q X a f' b:=⟨d,h.xb.fr c h.ne,h.fr.trans c,h.xl,h.ne⟩
theorem UD.look {w0 w w':E}{p q X i:Nat}{f:Fa}{a:Nat->O}(h:UD w0 w p q X i f a)(b:F0 w w'):UD w0 w' p q X i f a:=h.call (h.wp.fr b (by simp)) b.no
theorem I4 {base:Nat}{w:E}:∀{rs:List Z8}{a:List O}{j:Nat}{r:Z8},U4 base w rs a->rs[j]?=J r->a[j*13]?=J (U r.name)
 |[],_,j,_,_,hj=>by simp at hj
 |r::rs,a,0,r',⟨c,rest,e,h1,h2⟩,hj=>by
  simp at hj;subst hj;obtain⟨d,f,g,b,_⟩:=h1;rw[e,b];rfl
 |r::rs,a,j+1,r',⟨c,rest,e,h1,h2⟩,hj=>by
  have:=I4 h2 (j:=j) (r:=r') (by simpa using hj);obtain⟨d,f,g,b,_⟩:=h1
  have l:c.length=13:=by rw[b];rfl
  rw[e,aR (by omega),l,show(j+1)*13-13=j*13 from by omega];exact this
theorem JP {w:E}{base:Nat}{v:O}{n:Nat}{b:List O}(h:w.ownsRow base 170 13 v n b):
  ∃a c,v=K a n c/\∀j u,j<n->b[j*13]?=J u->∃g,a=J ⟨g,0,I⟩/\base<=g/\g<w.heap.size/\w.cell? ⟨g,j*13,I⟩=J u:=by
 obtain⟨a,c,e⟩:=oL h;refine⟨a,c,e,fun j u o f=>?_⟩;obtain⟨g,cap,d,i,k⟩:=h.form (by omega);rw[e]at d;injection d with l _ m;subst l m;subst e;refine⟨g,rfl,i,k,?_⟩;have:=h.cells (g:=g) rfl _ _ f
 rwa [Tc,Nat.zero_add]at this
theorem T4:(Tryz.prog.info? 170).map (fun i=>(i.zero,i.size,i.bytes))=J (J (.agg #[U ByteArray.empty,S Y 0,S Y 0,S Y 0,S Y 0,K I 0 0,K I 0 0,Z false,S Y 0,S Y 0,K I 0 0,Z false,Z false]),13,152):=by kernel_rfl
def Ez (a:ByteArray):Nat->O
 |0=>U a
 |1=>S Y 0
 |2=>S Y 0
 |3=>S Y 0
 |4=>S Y 0
 |5=>K I 0 0
 |6=>K I 0 0
 |7=>Z false
 |8=>S Y 0
 |9=>S Y 0
 |10=>K I 0 0
 |_=>Z false
theorem C5 (w:E)(a:ByteArray):XB (w.alloc (.cells #[U a,S Y 0,S Y 0,S Y 0,S Y 0,K I 0 0,K I 0 0,Z false,S Y 0,S Y 0,K I 0 0,Z false,Z false] 170)) w.heap.size (Ez a):=by
 have b:=aN w (.cells #[U a,S Y 0,S Y 0,S Y 0,S Y 0,K I 0 0,K I 0 0,Z false,S Y 0,S Y 0,K I 0 0,Z false,Z false] 170);refine⟨fun o c=>bC b o _ ?_,bF b⟩
 match o,c with
 |0,_=>rfl
 |1,_=>rfl
 |2,_=>rfl
 |3,_=>rfl
 |4,_=>rfl
 |5,_=>rfl
 |6,_=>rfl
 |7,_=>rfl
 |8,_=>rfl
 |9,_=>rfl
 |10,_=>rfl
 |11,_=>rfl
 |12,_=>rfl
theorem PB.rules {w a:E}{B b p q g i:Nat}{f:Fa}{body:List Tk}{M:Nat}{F d V:O}{l:List Zd}{m:List Z8}{C c:List O}{N:Z8}{o:Obj}(h:PB w B b p q g i f body M F d l m C)(G:CM b w N c)(H:(w.alloc o).drew.grownBy a d.ownBlock)(R:a.ownsRow b 170 13 V (m.length+1) (C++c)):
  a.cell? ⟨q,2,I⟩=J d/\(∀o,a.frozen? ⟨q,o,I⟩=false)/\PB (a.setCell ⟨q,2,I⟩ V) B b p q g i f body M F V l (m++[N]) (C++c)/\Fr (fun j=>B<=j) w (a.setCell ⟨q,2,I⟩ V):=by
 have x:∀k,d.ownBlock=J k->b<=k:=fun k r=>(h.lo.lt k r).1
 have t:Fr (fun k=>d.ownBlock=J k) w a:=(((Fr.refl (fun k=>d.ownBlock=J k) w).alloc o).drew).grown H (fun k r=>Or.inl r)
 have u:∀k,k<b->¬d.ownBlock=J k:=fun k r e=>by have:=x k e;omega
 have K:q<w.heap.size:=bL w _ h.q1;have S:g<w.heap.size:=h.wt.lt;have T:=h.gB;have U:=h.pB;have W:=h.qB;have P:a.cell? ⟨q,2,I⟩=J d:=(t.cell (p:=⟨q,2,I⟩) K (u q h.qB.2)).trans h.q2
 have Q:∀o,a.frozen? ⟨q,o,I⟩=false:=fun o=>(t.frozen (p:=⟨q,o,I⟩) K (u q h.qB.2)).trans (h.fq o)
 have L:=h.wp.fr t (u p h.pB.2);have s:=h.wt.fr t (u q h.qB.2) (u g (by omega));have y:Fr (fun j=>j=q) a (a.setCell ⟨q,2,I⟩ V):=(Fr.refl (fun j=>j=q) a).setCell (p:=⟨q,2,I⟩) (Or.inl rfl) _;have z:(w.alloc o).drew.ownsRow b 170 13 d m.length C:=(h.lo.alloc _).drew
 have r:∀v n D,w.ownsRow b 3 1 v n D->(a.setCell ⟨q,2,I⟩ V).ownsRow b 3 1 v n D:=fun v n D X=>by
  have A:(w.alloc o).drew.ownsRow b 3 1 v n D:=(X.alloc _).drew;exact oB (A.kept H (WW A z (by decide))) (by simp;omega) _
 refine⟨P,Q,⟨L.fr y (fun e=>h.ne e.symm),?_,?_,World.cell?_setCell_same _ _ _ P,fun o=>by simp[Q o],?_,?_,U4.snoc (G.keep r) (U4.keep r h.ru),h.gB,h.pB,h.qB,h.ne,?_⟩,?_⟩
 ·refine⟨?_,nL s.lt y.size,s.row.fr y s.lt (by omega)⟩
  rw[cO _ _ _ _ (by simp)];exact s.c0
 ·rw[cO _ _ _ _ (by simp)]
  exact(t.cell (p:=⟨q,1,I⟩) K (u q h.qB.2)).trans h.q1
 ·have A:(w.alloc o).drew.ownsRow b 189 3 F l.length (YU l):=(h.ro.alloc _).drew
  exact oB (A.kept H (WW A z (by decide))) (by simp;omega) _
 ·rw[lA]
  exact oB R (by simp;omega) _
 ·exact Nat.le_trans h.b2 (Nat.le_trans t.size y.size)
 ·exact(t.mono (fun k r=>by have:=x k r;omega)).trans (y.mono (fun k e=>by omega))
def BR:O->Nat
 |U t=>t.size
 |_=>0
theorem JQ {t:ByteArray}(g:1<t.size)(f:Zv t 0=48):Yh t.data.toList=Yh (t.extract 1 t.size).data.toList:=by
 rw[Lib.extract_data]
 have c:t.data.toList.length=t.size:=by simp
 have d:t.data.toList.getD 0 0=48:=by
  unfold Zv at f;rw[<-UInt8.toNat_inj];have:(48:UInt8).toNat=48:=rfl;omega
 match e:t.data.toList,c with
 |[],c=>simp at c;omega
 |[_],c=>simp at c;omega
 |a::b::r,c=>
  rw[e]at d;simp at d;subst d;rw[Vi,List.drop_succ_cons,List.drop_zero,List.take_of_length_le (by simp at c ⊢;omega)]
theorem Od {t:ByteArray}(h:t.size<=1\/Zv t 0≠48):Yh t.data.toList=t.data.toList:=by
 have c:t.data.toList.length=t.size:=by simp
 match e:t.data.toList,c with
 |[],_=>rfl
 |[a],_=>exact VU a
 |a::b::r,c=>
  refine Vx a _ (fun d=>?_);rcases h with h|h
  ·simp at c;omega
  ·apply h
   unfold Zv;rw[e,d];rfl
theorem GK (s:ByteArray)(w:E)(h:s.size<=3000):
  Calls Tryz.prog 83 #[U s] w fun e w'=>(∃t,e=.returned (U t)/\t.data.toList=Yh s.data.toList)/\w'=w:=by
 go_enter Tryz.func83,Tryz.ntmps83;go_wp2_with fail
 go_loop [0] (fun v=>∃t:ByteArray,v=U t/\t.size<=3000/\Hid (Yh t.data.toList=Yh s.data.toList)) BR
 case atStart=>exact⟨s,rfl,h,rfl⟩
 case round=>
  obtain⟨t,rfl,l,d⟩:=hrel;by_cases i:1<t.size
  ·have f:(1:Int)<(t.size:Int):=by omega
   have g:=fun w=>ZN (P:=Tryz.prog) Tryz.underlying9 t 0 (0:Int) rfl (by omega) w
   have j:(1:Int)<=(t.size:Int):=by omega
   by_cases a:Zv t 0=48
   ·have b:=Za ((JQ i a).symm.trans d.o)
    rw[a]at g;clear a;go_wp2;exact⟨⟨_,rfl,by rw[ByteArray.size_extract];omega,b⟩,by simp[BR];omega⟩
   ·have b:=Za ((Od (Or.inr a)).symm.trans d.o)
    have k:(Zv t 0==48)=false:=by simp[a]
    generalize Zv t 0=c at*;clear a;go_wp2;go_ret;exact⟨⟨t,rfl,b.o⟩,rfl⟩
  ·have f:¬(1:Int)<(t.size:Int):=by omega
   have b:=Za ((Od (Or.inl (by omega))).symm.trans d.o);go_wp2;go_ret;exact⟨⟨t,rfl,b.o⟩,rfl⟩
theorem GL (w:E)(q:Nat)(a:Option Addr)(c:Nat)(body:List Tk)(hq:w.cell? ⟨q,0,I⟩=J (K a body.length c))(i:0<body.length->∃g,a=J ⟨g,0,I⟩/\CJ w g body)(hb:body.length<=3000)(M:∀t,t∈body->t.text.size<=3000):
  Calls Tryz.prog 45 #[.pointer (J ⟨q,0,I⟩)] w fun e w'=>(∃t,e=.returned (U t)/\t.data.toList=Vz body body.length)/\w'=w:=by
 have T:=Za i;have n0:=Za M;obtain⟨n,hn⟩:∃n,body.length=n:=⟨_,rfl⟩;rw[hn]at hq hb ⊢;have HN:=Za hn;clear i M hn;go_enter Tryz.func45,Tryz.ntmps45;go_wp2_with fail
 go_loop [3,4,5,6] (fun o fb gb ix=>∃k l H L,k<=n/\o=U l/\fb=Z H/\gb=Z L/\ix=S Y (k:Nat)/\l.size<=k*3002/\Hid (l.data.toList++ZT H L (Yo body k (n-k))=Vz body n)) (fun _ _ _ ix=>n-(intOf ix).toNat)
 case atStart=>exact⟨0,⟨#[]⟩,true,false,Nat.zero_le _,rfl,rfl,rfl,rfl,by decide,by show _=_;rfl⟩
 case round=>
  obtain⟨k,l,H,L,hk,rfl,rfl,rfl,rfl,V,HR⟩:=hrel;by_cases o0:k<n
  ·obtain⟨t,M⟩:∃t,body[k]?=J t:=⟨_,gE (by have:=HN.o;omega)⟩
   obtain⟨g,hg,i⟩:=T.o (by have:=HN.o;omega);rw[hg]at hq;obtain⟨r0,r1,r2⟩:=i k t M;have HT:=Za (WS M);have W:=Za i;have X:=Za (n0.o t (mG M))
   have q0:(k:Int)<(n:Int):=by omega
   obtain⟨v,a0⟩:∃v,TK body k=v:=⟨_,rfl⟩;have p:=Za a0;clear i M hg a0 r2;go_upto_region 8 with fail
   go_cut [8]from 10 to 118 (fun s8 z=>s8=Z v/\z=w)
   case first=>
    clear r0 r1;by_cases k0:k=0
    ·have d0:decide ((0:Int)<(k:Int))=false:=by simp;omega
     have r:decide (0<k)=false:=by simp;omega
     have d2:decide ((2:Int)<(k:Int))=false:=by simp;omega
     have u:decide (2<k)=false:=by simp;omega
     have e:v=false:=by rw[<-p.o];unfold TK;rw[r,u];rfl
     subst e;clear k0;go_wp2_with fail;go_meet;exact⟨rfl,rfl⟩
    ·have d0:decide ((0:Int)<(k:Int))=true:=by simp;omega
     have r:decide (0<k)=true:=by simp;omega
     obtain⟨tp,Q⟩:∃tp,body[k-1]?=J tp:=⟨_,gE (by have:=HN.o;omega)⟩;obtain⟨p0,_,_⟩:=W.o (k-1) tp Q;have A:=Za (WS Q);obtain⟨m,R⟩:∃m,k-1=m:=⟨_,rfl⟩;rw[R]at p0
     have F0:G.wrap ((k:Int)-1)=((m:Nat):Int):=by rw[IntWalk.i64_in _ (by omega)];omega
     have G0:(m:Int)<(n:Int):=by omega
     have HM:=Za R
     cases B:(tp.text.toList==[98,105,110])with
     |true=>
      have e:v=true:=by rw[<-p.o];unfold TK No;rw[A.o,B,r];rfl
      subst e;clear k0 R Q;go_wp2_with fail;go_meet;exact⟨rfl,rfl⟩
     |false=>
      by_cases k2:2<k
      ·have d2:decide ((2:Int)<(k:Int))=true:=by simp;omega
       have u:decide (2<k)=true:=by simp;omega
       cases b0:(tp.text.toList==[46,46])with
       |false=>
        have e:v=false:=by rw[<-p.o];unfold TK No;rw[A.o,B,b0,r,u];rfl
        subst e;clear k0 R Q k2;go_wp2_with fail;go_meet;exact⟨rfl,rfl⟩
       |true=>
        obtain⟨tq,N⟩:∃tq,body[k-3]?=J tq:=⟨_,gE (by have:=HN.o;omega)⟩;obtain⟨p3,_,_⟩:=W.o (k-3) tq N;have s0:=Za (WS N);obtain⟨m3,c0⟩:∃m3,k-3=m3:=⟨_,rfl⟩;rw[c0]at p3
        have H0:G.wrap ((k:Int)-3)=((m3:Nat):Int):=by rw[IntWalk.i64_in _ (by omega)];omega
        have D0:(m3:Int)<(n:Int):=by omega
        have e:v=(tq.text.toList==[98,105,110]):=by rw[<-p.o];unfold TK No;rw[A.o,s0.o,B,b0,r,u];rfl
        subst e;clear k0 R Q k2 c0 N;go_wp2_with fail;go_meet;exact⟨rfl,rfl⟩
      ·have d2:decide ((2:Int)<(k:Int))=false:=by simp;omega
       have u:decide (2<k)=false:=by simp;omega
       have e:v=false:=by rw[<-p.o];unfold TK No;rw[A.o,B,r,u];rfl
       subst e;clear k0 R Q k2;go_wp2_with fail;go_meet;exact⟨rfl,rfl⟩
   case rest=>
    obtain⟨rfl,d⟩:=hcut;replace d:=d.symm;subst d;have f1:=CK t
    have e0:Y4 body k=if decide (t.sort=1)&&!v then Yh t.text.data.toList else t.text.data.toList:=by unfold Y4;rw[HT.o,p.o]
    have x:=Za e0;clear e0;obtain⟨bs,f0⟩:∃bs,decide (t.sort=1)=bs:=⟨_,rfl⟩;rw[f0]at f1 x;clear f0;generalize Uk t=KD at*;go_upto_region 9 with fail
    go_cut [81]from 10 to 118 (fun t0 z=>t0=Z (bs&&!v)/\z=w)
    case first=>
     cases bs with
     |false=>
      go_wp2_with fail;go_meet;exact⟨rfl,rfl⟩
     |true=>
      go_wp2_with fail;go_meet;exact⟨rfl,rfl⟩
    case rest=>
     obtain⟨rfl,d⟩:=hcut;replace d:=d.symm;subst d;obtain⟨bd,g0⟩:∃bd,(bs&&!v)=bd:=⟨_,rfl⟩;rw[g0]at x ⊢;clear g0 f1 r0 r1
     go_upto_if 81 with fail
     go_cut [7]from 10 to 118 (fun s7 z=>(∃f:ByteArray,s7=U f/\Hid (f.data.toList=Y4 body k))/\z=w)
     case first=>
      cases bd with
      |false=>
       have HE:Hid (t.text.data.toList=Y4 body k):=by show _=_;rw[x.o];rfl
       go_wp2_with fail;go_meet;exact⟨⟨t.text,rfl,HE⟩,rfl⟩
      |true=>
       go_wp2_with fail;refine(GK t.text w X.o).mono ?_;rintro e w1 ⟨⟨t',rfl,h⟩,he⟩;replace he:=he.symm;subst he
       have HE:Hid (t'.data.toList=Y4 body k):=by show _=_;rw[x.o,h];rfl
       clear h;go_wp2_with fail;go_meet;exact⟨⟨t',rfl,HE⟩,rfl⟩
     case rest=>
      obtain⟨⟨f,rfl,i0⟩,d⟩:=hcut;replace d:=d.symm;subst d
      have v0:Hid (l.data.toList++ZT H L (Y4 body k::Yo body (k+1) (n-(k+1)))=Vz body n):=by have e:=HR.o;rw[P6 o0]at e;exact e
      obtain⟨y,C⟩:∃y,Ug f.data.toList=y:=⟨_,rfl⟩;have w0:=Za C;obtain⟨D,O⟩:∃b,(f.toList==[59])=b:=⟨_,rfl⟩;obtain⟨F,j0⟩:∃b,(f.toList==[46,46])=b:=⟨_,rfl⟩
      have x0:Hid ((f.data.toList==[59])=D):=by show _=_;rw[<-ByteArray.toList_eq];exact O
      have y0:Hid ((f.data.toList==[46,46])=F):=by show _=_;rw[<-ByteArray.toList_eq];exact j0
      have j:((f.toList==[59])||(f.toList==[44])||(f.toList==[58])||(f.toList==[46,46]))=y:=by rw[<-C];unfold Ug;rw[ByteArray.toList_eq]
      go_upto_region 11 with fail
      go_cut [9]from 10 to 118 (fun s9 z=>s9=Z y/\z=w)
      case first=>
       clear C
       cases D with
       |true=>
        have e:y=true:=by rw[<-j,O];rfl
        subst e;go_wp2_with fail;go_meet;exact⟨rfl,rfl⟩
       |false=>
        cases l0:(f.toList==[44])with
        |true=>
         have e:y=true:=by rw[<-j,l0];simp
         subst e;go_wp2_with fail;go_meet;exact⟨rfl,rfl⟩
        |false=>
         cases m0:(f.toList==[58])with
         |true=>
          have e:y=true:=by rw[<-j,m0];simp
          subst e;go_wp2_with fail;go_meet;exact⟨rfl,rfl⟩
         |false=>
          have e:y=F:=by rw[<-j,O,l0,m0,j0];rfl
          subst e;go_wp2_with fail;go_meet;exact⟨rfl,rfl⟩
      case rest=>
       obtain⟨rfl,d⟩:=hcut;replace d:=d.symm;subst d;clear C j;go_upto_region 12 with fail
       go_cut [107]from 10 to 118 (fun s z=>s=Z (!H&&!L&&!y)/\z=w)
       case first=>
        cases H with
        |true=>go_wp2_with fail;go_meet;exact⟨rfl,rfl⟩
        |false=>
         cases L with
         |true=>go_wp2_with fail;go_meet;exact⟨rfl,rfl⟩
         |false=>go_wp2_with fail;go_meet;exact⟨rfl,rfl⟩
       case rest=>
        obtain⟨rfl,d⟩:=hcut;replace d:=d.symm;subst d;obtain⟨sp,P⟩:∃sp,(!H&&!L&&!y)=sp:=⟨_,rfl⟩;rw[P]
        have A0:Hid (ZT H L (Y4 body k::Yo body (k+1) (n-(k+1)))=(if sp then[32]else[])++(f.data.toList++(if D then 10::ZT true F (Yo body (k+1) (n-(k+1)))else ZT false F (Yo body (k+1) (n-(k+1)))))):=by
         show _=_
         rw[<-i0.o];simp only[ZT];rw[w0.o,P,x0.o,y0.o]
        clear P
        have I0:f.size<=3000:=by
         have e1:f.data.toList.length=f.size:=by simp
         have e2:(Y4 body k).length<=t.text.size:=by
          rw[x.o]
          have e3:t.text.data.toList.length=t.text.size:=by simp
          split
          ·rcases Nat.eq_zero_or_pos t.text.data.toList.length with h0|h0
           ·rw[List.length_eq_zero_iff.1 h0];simp[Yh]
           ·have:=(Ra t.text.data.toList (fun e=>by rw[e]at h0;simp at h0)).2
            omega
          ·omega
         rw[i0.o]at e1;have:=X.o;omega
        have E0:l.size<=10000000:=by omega
        have z1:(l++(⟨#[32]⟩:ByteArray)).size=l.size+1:=by rw[ByteArray.size_append];rfl
        have z2:(l++(⟨#[32]⟩:ByteArray)++f).size=l.size+1+f.size:=by rw[ByteArray.size_append,z1]
        have z3:(l++f).size=l.size+f.size:=by rw[ByteArray.size_append]
        have B0:=Za V;have z0:(⟨#[32]⟩:ByteArray).size=1:=rfl;have C0:(⟨#[10]⟩:ByteArray).size=1:=rfl;clear V
        cases sp
        all_goals
         cases D
         all_goals
          go_wp2;refine⟨⟨k+1,_,_,_,by omega,rfl,rfl,rfl,by go_num,by have:=B0.o;simp only[ByteArray.size_append,z0,C0];omega,?_⟩,by simp[intOf];omega⟩
          show _=_
          rw[<-v0.o,A0.o];simp
  ·have q0:¬(k:Int)<(n:Int):=by omega
   have HE:Hid (l.data.toList=Vz body n):=by
    have e:=HR.o;rw[show n-k=0 from by omega]at e;simp only[Yo,ZT,List.append_nil]at e;exact e
   go_wp2;go_ret;exact⟨⟨l,rfl,HE.o⟩,rfl⟩
section
variable {body:List Tk} {en:Tk}
theorem PC (b:en.sort=3){i:Nat}(h:(Zs (body++[en]) i).sort≠3):body[i]?=J (Zs (body++[en]) i):=by
 unfold Zs at h ⊢;rw[gD]at h ⊢;by_cases a:i<body.length
 ·rw[H a,gE a]
  rfl
 ·exfalso
  apply h;rw[aR (by omega)];by_cases c:i-body.length=0
  ·rw[c];exact b
  ·rw[List.getElem?_eq_none (by simp;omega)];rfl
theorem ZU (c:en.sort=3){i a:Nat}{t:Tk}{k:Nat}(d:a≠3)(h:Ya (body++[en]) i a=.ok (t,k)):body[i]?=J t/\t.sort=a/\k=i+1:=by
 obtain⟨rfl,b,e⟩:=YI h;exact⟨PC c (by rw[b];exact d),b,e⟩
theorem VV (a:en.sort=3){i:Nat}{m:ByteArray}(h:Zq (Zs (body++[en]) i) m=true):∃t,body[i]?=J t/\(t.text.toList==m.data.toList)=true/\t.sort=2:=by
 simp only[Zq,Bool.and_eq_true,decide_eq_true_eq]at h;exact⟨_,PC a (by rw[h.1];decide),by rw[<-ByteArray.toList_eq m];exact h.2,h.1⟩
theorem YD (a:en.sort=3){i:Nat}{m:ByteArray}{u:Unit}{k:Nat}(h:ZG (body++[en]) i m=.ok (u,k)):(∃t,body[i]?=J t/\(t.text.toList==m.data.toList)=true/\t.sort=2)/\k=i+1:=by
 refine⟨?_,YB h⟩;unfold ZG at h
 split at h
 ·rename_i b;exact VV a b
 ·cases h
theorem UE (b:en.sort=3)(c:∀t,t∈body->Vh t){i:Nat}{m:ByteArray}(d:m∈YO)(e:(Zs (body++[en]) i).sort≠3)(h:¬Zq (Zs (body++[en]) i) m=true):∃t,body[i]?=J t/\(t.text.toList==m.data.toList)=false:=by
 have a:=PC b e;refine⟨_,a,?_⟩;have f:=c _ (mG a) m d;rw[<-ByteArray.toList_eq m,<-f]
 simpa using h
theorem X7 (a:∀t,t∈body->t.sort≠3){i:Nat}{t:Tk}(h:body[i]?=J t):(Zs (body++[en]) i).sort≠3:=by
 have b:=(iG.1 h).1
 have e:Zs (body++[en]) i=t:=by
  unfold Zs;rw[gD,H b,h];rfl
 rw[e];exact a t (mG h)
theorem I5 (h:en.sort=3){b:Nat}(o:b≠3):∀(m i:Nat)(d l:List Tk)(k:Nat),(body++[en]).length-i=m->We (body++[en]) i b d=.ok (l,k)->
  ∃r,l=d++r/\(∀j t,r[j]?=J t->body[i+1+2*j]?=J t)/\(∀j,j<r.length->∃t,body[i+2*j]?=J t/\(t.text.toList==[44])=true)/\k=i+2*r.length/\¬Zq (Zs (body++[en]) k) Yq=true:=by
 intro m
 induction m using Nat.strongRecOn with
 |ind m p=>
  intro i d l k B c;rw[We]at c
  split at c
  ·rename_i e
   have q:=Uv e
   split at c
   ·cases c
   ·rename_i t f s
    obtain⟨g,n,C⟩:=ZU h o s;obtain⟨r,v,w,x,E,y⟩:=p ((body++[en]).length-f) (by omega) f _ l k rfl c;obtain⟨z,c1,A,_⟩:=VV h e;refine⟨t::r,by rw[v,List.append_assoc];rfl,fun j u a=>?_,fun j a=>?_,by simp only[D];omega,y⟩
    ·cases j with
     |zero=>simp at a;subst a;exact g
     |succ j=>
      have:=w j u (by simpa using a);rw[show i+1+2*(j+1)=f+1+2*j from by omega];exact this
    ·cases j with
     |zero=>exact⟨z,c1,A⟩
     |succ j=>
      obtain⟨u,u1,u2⟩:=x j (by simpa using a);rw[show i+2*(j+1)=f+2*j from by omega];exact⟨u,u1,u2⟩
  ·rename_i e
   injection c with c;injection c with g n;subst g n;exact⟨[],by simp,fun j t a=>by simp at a,fun j a=>by simp at a,by simp,e⟩
theorem JR:Yq∈YO:=by simp[YO]
theorem M5 (b:en.sort=3)(m:∀t,t∈body->Vh t){i a:Nat}(f:a≠3){l:List Tk}{k:Nat}(h:Xi (body++[en]) (i+1) a=.ok (l,k))(n:(Zs (body++[en]) k).sort≠3):C0 body i l/\k=i+2*l.length:=by
 unfold Xi at h
 split at h
 ·cases h
 ·rename_i t c o
  obtain⟨p,z,A⟩:=ZU b f o;obtain⟨r,q,s,v,B,w⟩:=I5 b f _ c [t] l k rfl h;have x:l=t::r:=q;subst x
  have g:k=i+2*(t::r).length:=by simp only[D];omega
  refine⟨⟨fun j u d=>?_,fun j y e=>?_,?_,by simp⟩,g⟩
  ·cases j with
   |zero=>simp at d;subst d;exact p
   |succ j=>
    have:=s j u (by simpa using d);rw[show i+1+2*(j+1)=c+1+2*j from by omega];exact this
  ·cases j with
   |zero=>omega
   |succ j=>
    obtain⟨u,u1,u2⟩:=v j (by simpa using e);rw[show i+2*(j+1)=c+2*j from by omega];exact⟨u,u1,u2⟩
  ·rw[<-g]
   exact UE b m JR n w
theorem Oe (e:en.sort=3)(m:∀t,t∈body->Vh t)(n:∀t,t∈body->t.sort≠3){i:Nat}{kw:ByteArray}(f:kw∈YO){l:List Tk}{k:Nat}(h:YM (body++[en]) i kw=.ok (l,k))(g:(Zs (body++[en]) k).sort≠3):C1 body i kw.data.toList l/\k=i+2*l.length/\(Zs (body++[en]) i).sort≠3:=by
 unfold YM at h
 split at h
 ·rename_i j
  obtain⟨t,c,d,_⟩:=VV e j;obtain⟨a,b⟩:=M5 e m (by decide) h g;exact⟨⟨t,c,Or.inl ⟨d,a⟩⟩,b,X7 n c⟩
 ·rename_i j
  injection h with h;injection h with c d;subst c d;obtain⟨t,c,d⟩:=UE e m f g j;exact⟨⟨t,c,Or.inr ⟨d,rfl⟩⟩,by simp,g⟩
theorem JS (f:en.sort=3)(q:∀t,t∈body->Vh t)(r:∀t,t∈body->t.sort≠3){i:Nat}{o:Option (Tk×Tk)}{k:Nat}(h:XR (body++[en]) i ZS=.ok (o,k))(p:(Zs (body++[en]) k).sort≠3):BN body i [97,109,111,117,110,116] o/\k=i+TF o/\(Zs (body++[en]) i).sort≠3:=by
 unfold XR at h
 split at h
 ·rename_i l
  obtain⟨t,d,g,_⟩:=VV f l;obtain⟨C,j,c,e⟩:=bI h;injection e with e;injection e with s u;subst s u;rw[Wk]at c;obtain⟨a,D,v,c⟩:=bI c;obtain⟨_,w,x,c⟩:=bI c;obtain⟨b,E,y,c⟩:=bI c;injection c with c;injection c with n z;obtain⟨A,F,G⟩:=ZU f (by decide) v;have H:=(YD f x).2;obtain⟨B,I,J⟩:=ZU f (by decide) y;subst n;refine⟨⟨t,d,g,A,?_⟩,by simp only[TF];omega,X7 r d⟩;rw[show i+3=w from by omega];exact B
 ·rename_i l
  injection h with h;injection h with d g;subst d g;obtain⟨t,d,g⟩:=UE f q (m:=ZS) (by simp[YO]) p l;exact⟨⟨t,d,g⟩,rfl,p⟩
theorem GM (b:en.sort=3)(n:∀t,t∈body->Vh t)(v:∀t,t∈body->t.sort≠3){o:Nat}{a:Rv}{k:Nat}(h:Xj (body++[en]) (o+1)=.ok (a,k))(w:(Zs (body++[en]) k).sort≠3):CI body o a k:=by
 unfold Xj at h
 split at h
 ·rename_i s
  obtain⟨t,f,u,_⟩:=VV b s;injection h with h;injection h with p q;subst p q;exact⟨t,f,Or.inl ⟨rfl,u,rfl⟩⟩
 ·rename_i s
  split at h
  ·rename_i i
   obtain⟨t,f,u,_⟩:=VV b i;obtain⟨l,j,g,e⟩:=bI h;injection e with e;injection e with p q;subst p q;obtain⟨c,d⟩:=M5 b n (by decide) g w;obtain⟨x,u1,u2⟩:=UE b n (m:=Yj) (by simp[YO]) (X7 v f) s;rw[f]at u1;injection u1 with u1;subst u1;exact⟨t,f,Or.inr ⟨rfl,u2,u,o+1,rfl,c,d⟩⟩
  ·rename_i i
   obtain⟨l,j,g,e⟩:=bI h;injection e with e;injection e with p q;subst p q
   have r:(Zs (body++[en]) (o+1)).sort≠3:=by
    unfold Xi at g
    split at g
    ·cases g
    ·rename_i t z y
     exact X7 v (ZU b (by decide) y).1
   obtain⟨c,d⟩:=M5 b n (by decide) g w;obtain⟨t,f,u2⟩:=UE b n (m:=Yj) (by simp[YO]) r s;obtain⟨x,u3,u4⟩:=UE b n (m:=ZY) (by simp[YO]) r i;rw[f]at u3;injection u3 with u3;subst u3;exact⟨t,f,Or.inr ⟨rfl,u2,u4,o,rfl,c,d⟩⟩
theorem D0 (a:en.sort=3)(f:∀t,t∈body->Vh t)(d:∀t,t∈body->t.sort≠3){i:Nat}{r:XX}{k:Nat}(h:Wf (body++[en]) (i+1)=.ok (r,k))(m:(Zs (body++[en]) k).sort≠3)(c:WL (.rule r)):MY body i r k:=by
 unfold Wf at h;obtain⟨V,n,o,h⟩:=bI h;obtain⟨rk,W,p,h⟩:=bI h;obtain⟨_,X,q,h⟩:=bI h;obtain⟨_,s,u,h⟩:=bI h;obtain⟨Y,v,b,h⟩:=bI h;obtain⟨g,Z,w,h⟩:=bI h;obtain⟨j,x,y,h⟩:=bI h;obtain⟨z,A,B,h⟩:=bI h;obtain⟨_,j9,C,h⟩:=bI h;obtain⟨ac,D,e,h⟩:=bI h;injection h with h;injection h with E F;subst E F;obtain⟨G,a2,a3⟩:=ZU a (by decide) o;obtain⟨H,b2,b3⟩:=ZU a (by decide) p;obtain⟨_,c3⟩:=YD a q;obtain⟨_,c4⟩:=YD a u;rw[Wk]at b;obtain⟨p1,q1,I,b⟩:=bI b;obtain⟨_,J,K,b⟩:=bI b;obtain⟨p2,q3,L,b⟩:=bI b;injection b with b;injection b with M f2;subst M;obtain⟨N,x2,x3⟩:=ZU a (by decide) I;have x4:=(YD a K).2;obtain⟨O,y2,y3⟩:=ZU a (by decide) L;obtain⟨⟨ta,P,_,_⟩,Q⟩:=YD a C;obtain⟨u1,u2,u3⟩:=Oe a f d (kw:=WD) (by simp[YO]) B (X7 d P);obtain⟨v1,v2,v3⟩:=JS a f d y u3;obtain⟨R,w2,w3⟩:=Oe a f d (kw:=Wc) (by simp[YO]) w v3
 have S:v=i+8:=by omega
 subst S;rw[Q]at e;have l:=GM a f d e m;rw[w2]at v1
 have T:x=i+8+2*g.length+TF j:=by omega
 rw[T]at u1
 have U:A=i+8+2*g.length+TF j+2*z.length:=by omega
 rw[U]at l;refine⟨G,?_,?_,?_,R,v1,u1,l,c.2.1,c.2.2.1,c.2.2.2.1,c.2.2.2.2.1,c.2.2.2.2.2.1,c.2.2.2.2.2.2.1⟩
 ·rw[show i+2=n from by omega];exact H
 ·rw[show i+5=s from by omega];exact N
 ·rw[show i+7=J from by omega];exact O
end
