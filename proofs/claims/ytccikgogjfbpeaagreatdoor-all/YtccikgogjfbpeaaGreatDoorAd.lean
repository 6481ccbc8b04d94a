import Derived.Test.YtccikgogjfbpeaaGreatDoorAc
import Derived.Test.YtccikgogjfbpeaaGreatDoorShelf
import Derived.Lib.ItoaMem
import Derived.Lib.AppendIntMem
import Derived.Lib.ItoaLen
open Option renaming some->I,none->Y
open Go.Value renaming int->J,string->V,slice->U,bool->L,pointer->z0,oneCell'->m4
open Go.IntKind renaming i64->P,i64->m8
open List renaming length_cons->Z,length_map->D,length_nil->G,length_append->M,append_assoc->N,append_nil->A,flatMap_cons->z7,mem_map->z9,getElem?_map->y8,getElem?_append_left->y9,replicate->q5,length_eq_zero_iff->q7,mem_append->q8,take_of_length_le->k0,mem_of_mem_take->p7,take_add_one->p9,cons_append->b4,length_take->b5,getElem?_eq_none->b6,length_replicate->b7,mem_of_getElem?->b8,mem_of_mem_drop->b9,map_cons->c5,flatMap_append->c6,length_drop->c8,nil_append->c9,map_append->m0,map_map->m5,length->m6
open Go.Proofs.Tryz renaming prog->K
open Go.RowKit renaming Hid->E
open Go.Ending renaming returned->H,returned->m3
open Nat renaming strongRecOn->C,zero_le->q0,le_trans->q6,mul_le_mul->p0,le_refl->p3,zero_add->p4,lt_or_ge->p6,add_mul->c7
open Go renaming Calls->F,World->p5,Value->m7
open Go.Obj renaming cells->z8
open _root_.ByteArray renaming empty->y7
open UInt8 renaming ofNat->j0
open Go.Proofs.Tryz
namespace Go.Proofs.YtccikgogjfbpeaaGreatDoor
set_option linter.defProp false
set_option maxRecDepth 30000
set_option maxHeartbeats 8000000
inductive Hs where
 |rules|mccs|amounts|curs|ints|names|action|NAME|INT
 |lit (m:ByteArray)
def Oe:List Hs:=[.lit Va,.NAME,.INT,.INT,.lit Vk,.rules]
def Mu:List Hs:=[.lit Uh,.NAME,.INT,.lit TK,.lit Qf,.INT,.lit Ue,.INT,.mccs,.amounts,.curs,.lit Sq,.action,.lit Vk,.rules]
def YB (s:Hs)(t:Tk):Option (List Hs):=
 match s with
 | .rules=>I (if Zn t Va then Oe else if Zn t Uh then Mu else[])
 | .mccs=>I (if Zn t Vj then[.lit Vj,.INT,.ints]else[])
 | .amounts=>I (if Zn t Z9 then[.lit Z9,.INT,.lit Ue,.INT]else[])
 | .curs=>I (if Zn t VG then[.lit VG,.INT,.ints]else[])
 | .ints=>I (if Zn t Y8 then[.lit Y8,.INT,.ints]else[])
 | .names=>I (if Zn t Y8 then[.lit Y8,.NAME,.names]else[])
 | .action=>I (if Zn t YU then[.lit YU]else if Zn t Yn then[.lit Yn,.NAME,.names]else[.NAME,.names])
 |_=>Y
def U6 (s:Hs)(t:Tk):Bool:=
 match s with
 | .NAME=>decide (t.sort=0)
 | .INT=>decide (t.sort=1)
 | .lit m=>Zn t m
 |_=>false
def YQ (ts:List Tk):Nat->List Hs->Nat->Option (Option Nat)
 |_,[],i=>I (if(Zp ts i).sort=3 then Y else I i)
 |0,_::_,_=>Y
 |m+1,s::rest,i=>match YB s (Zp ts i)with
  |some l=>YQ ts m (l++rest) i
  |none=>if U6 s (Zp ts i)then YQ ts m rest (i+1)else I (I i)
section
variable {ts:List Tk}
def Tz (m i):YQ ts m [] i=I (if(Zp ts i).sort=3 then Y else I i):=by cases m<;>rfl
def Mv (a:List Tk)(b:List Hs)(i:Nat)(r:Option Nat):Prop:=∃m,YQ a m b i=I r
def Uw {s a l i r}(h:YB s (Zp ts i)=I l)(b:Mv ts (l++a) i r):Mv ts (s::a) i r:=by
 obtain⟨m,c⟩:=b;exact⟨m+1,by simp only[YQ,h];exact c⟩
def Pv {s a i r}(h:YB s (Zp ts i)=Y)(b:U6 s (Zp ts i)=true)(c:Mv ts a (i+1) r):Mv ts (s::a) i r:=by
 obtain⟨m,d⟩:=c;exact⟨m+1,by simp only[YQ,h,b,if_true];exact d⟩
def Ht {s a i}(h:YB s (Zp ts i)=Y)(b:U6 s (Zp ts i)=false):Mv ts (s::a) i (I i):=
 ⟨1,by simp only[YQ,h,b];rfl⟩
def yo (a:List Tk)(b:List Hs)(i l:Nat):Prop:=∃j,Mv a b i (I j)/\(Zp a j).line=l
structure Yj {α:Type}(ts:List Tk)(st:List Hs)(p:Except Nat (α×Nat))(i:Nat):Prop where
 err:∀rest l,p=.error l->yo ts (st++rest) i l
 ok:∀rest a j r,p=.ok (a,j)->Mv ts rest j r->Mv ts (st++rest) i r
def VX {α}(a:α)(i):Yj ts [] (.ok (a,i)) i:=
 ⟨fun _ _ h=>(by cases h),fun b d j r h c=>by injection h with h;injection h with _ h;subst h;exact c⟩
def ZH {α β st1 st2 p}{f:α->Nat->Except Nat (β×Nat)}{i}(e:Yj ts st1 p i)(m:∀a j,p=.ok (a,j)->Yj ts st2 (f a j) j):Yj ts (st1++st2) (Y1 p f) i:=by
 constructor
 ·intro c l h
  cases d:p with
  |error n=>
   rw[d]at h
   have o:n=l:=by injection h
   subst o;rw[N];exact e.err _ _ d
  |ok r=>
   obtain⟨a,j⟩:=r;rw[d]at h;obtain⟨q,g,s⟩:=(m a j d).err c l h;rw[N];exact⟨q,e.ok _ a j _ d g,s⟩
 intro c b k r h g;obtain⟨a,j,d,t⟩:=bI h;rw[N];exact e.ok _ a j _ d ((m a j d).ok c b k r t g)
def X7 {α β b p}{g:α->β}{i}(c:Yj ts b p i):Yj ts b (Y1 p fun a i=>.ok (g a,i)) i:=by
 have h:=ZH (st2:=[]) (f:=fun a i=>(.ok (g a,i):Except Nat (β×Nat))) c (fun a j _=>VX (g a) j)
 rwa [A]at h
def XE {α s l}{p:Except Nat (α×Nat)}{i}(e:YB s (Zp ts i)=I l)(h:Yj ts l p i):Yj ts [s] p i:=by
 constructor
 ·intro b f c;obtain⟨j,d,g⟩:=h.err b f c;exact⟨j,Uw e d,g⟩
 intro b a j r c d;exact Uw e (h.ok b a j r c d)
def Pw (i b s)(d:∀t,YB s t=Y)(e:∀t,U6 s t=decide (t.sort=b)):Yj ts [s] (Yb ts i b) i:=by
 constructor
 ·intro c l h;unfold Yb at h
  split at h
  ·cases h
  rename_i f;injection h with h;exact⟨i,Ht (d _) (by rw[e];simpa using f),h⟩
 intro c a j r h g;obtain⟨rfl,k,rfl⟩:=Yx h;exact Pv (d _) (by rw[e];simpa using k) g
def UP (i):Yj ts [.NAME] (Yb ts i 0) i:=Pw i 0 .NAME (fun _=>rfl) (fun _=>rfl)
def WS (i):Yj ts [.INT] (Yb ts i 1) i:=Pw i 1 .INT (fun _=>rfl) (fun _=>rfl)
def X8 (i m):Yj ts [.lit m] (ZG ts i m) i:=by
 constructor
 ·intro b l h;unfold ZG at h
  split at h
  ·cases h
  rename_i c;injection h with h;exact⟨i,Ht rfl (by show Zn _ _=false;simpa using c),h⟩
 intro b a j r h d;unfold ZG at h
 split at h
 ·rename_i e;injection h with h;injection h with _ h;subst h;exact Pv rfl e d
 cases h
def Wv {α e}{p:Except Nat (α×Nat)}{i m}(f:Zn (Zp ts i) m=true)(h:Yj ts e p (i+1)):Yj ts (.lit m::e) p i:=by
 constructor
 ·intro b l c;obtain⟨j,d,g⟩:=h.err b l c;exact⟨j,Pv rfl f d,g⟩
 intro b a j r c d;exact Pv rfl f (h.ok b a j r c d)
def Px (c f p)(u:∀t,YB f t=I (if Zn t Y8 then[.lit Y8,p,f]else[]))(q:∀i,Yj ts [p] (Yb ts i c) i):
  ∀n i g,ts.length-i=n->Yj ts [f] (X5 ts i c g) i:=by
 intro n
 induction n using C with
 |ind n v=>
  intro i g A;rw[X5]
  split
  ·rename_i k;have w:=Uu k;refine XE (l:=[.lit Y8,p,f]) (by rw[u,if_pos k]) (Wv k ?_)
   cases m:Yb ts (i+1) c with
   |error l=>
    constructor
    ·intro b x h;have:=(q (i+1)).err (f::b) x (by rw[m];simpa using h);exact this
    intro b a j r h;simp at h
   |ok r=>
    obtain⟨t,o⟩:=r;have e:=(Yx m).2.2;have d:=v (ts.length-o) az o (g++[t]) rfl
    constructor
    ·intro b l h;simp only at h;obtain⟨y,s,z⟩:=d.err b l h;exact⟨y,(q (i+1)).ok (f::b) t o _ m s,z⟩
    intro b a j r h s;simp only at h;exact(q (i+1)).ok (f::b) t o _ m (d.ok b a j r h s)
  rename_i k;refine XE (l:=[]) (by rw[u,if_neg k]) (VX _ _)
def QG (i a):Xv ts i a=Y1 (Yb ts i a) fun t b=>X5 ts b a [t]:=by
 unfold Xv Y1
 cases Yb ts i a with
 |error l=>rfl
 |ok r=>rfl
def Ih (i):Yj ts [.INT,.ints] (Xv ts i 1) i:=by
 rw[QG];exact ZH (st1:=[.INT]) (WS i) (fun a j _=>Px 1 .ints .INT (fun _=>rfl) WS _ j [a] rfl)
def Qk (i):Yj ts [.NAME,.names] (Xv ts i 0) i:=by
 rw[QG];exact ZH (st1:=[.NAME]) (UP i) (fun a j _=>Px 0 .names .NAME (fun _=>rfl) UP _ j [a] rfl)
def SO (i a c)(d:∀t,YB c t=I (if Zn t a then[.lit a,.INT,.ints]else[])):Yj ts [c] (Xq ts i a) i:=by
 unfold Xq
 split
 ·rename_i b;exact XE (l:=[.lit a,.INT,.ints]) (by rw[d,if_pos b]) (Wv b (Ih (i+1)))
 rename_i b;exact XE (l:=[]) (by rw[d,if_neg b]) (VX _ _)
def Py (i):Yj ts [.INT,.lit Ue,.INT] (U2 ts i) i:=by
 rw[WO]
 exact ZH (st1:=[.INT]) (WS i) fun a j _=>ZH (st1:=[.lit Ue]) (X8 j Ue) fun _ k _=>X7 (WS k)
def Ns (i):Yj ts [.amounts] (Wz ts i Z9) i:=by
 unfold Wz
 split
 ·rename_i a;exact XE (l:=[.lit Z9,.INT,.lit Ue,.INT]) (by show I (if _ then _ else _)=_;rw[if_pos a]) (Wv a (X7 (Py (i+1))))
 rename_i a;exact XE (l:=[]) (by show I (if _ then _ else _)=_;rw[if_neg a]) (VX _ _)
def Mw (i):Yj ts [.action] (Xr ts i) i:=by
 unfold Xr
 split
 ·rename_i b;exact XE (l:=[.lit YU]) (by show I (if _ then _ else _)=_;rw[if_pos b]) (Wv b (VX _ _))
 rename_i b
 split
 ·rename_i a;exact XE (l:=[.lit Yn,.NAME,.names]) (by show I (if _ then _ else _)=_;rw[if_neg b,if_pos a]) (Wv a (X7 (Qk (i+1))))
 rename_i a;exact XE (l:=[.NAME,.names]) (by show I (if _ then _ else _)=_;rw[if_neg b,if_neg a]) (X7 (Qk i))
def Ko (i):Yj ts [.NAME,.INT,.INT] (WN ts i) i:=by
 unfold WN
 exact ZH (st1:=[.NAME]) (UP i) fun _ j _=>ZH (st1:=[.INT]) (WS j) fun _ k _=>X7 (WS k)
def Ii (i):Yj ts [.NAME,.INT,.lit TK,.lit Qf,.INT,.lit Ue,.INT,.mccs,.amounts,.curs,.lit Sq,.action] (Wo ts i) i:=by
 unfold Wo
 exact ZH (st1:=[.NAME]) (UP i) fun _ i _=>ZH (st1:=[.INT]) (WS i) fun _ i _=>
  ZH (st1:=[.lit TK]) (X8 i TK) fun _ i _=>ZH (st1:=[.lit Qf]) (X8 i Qf) fun _ i _=>
  ZH (st1:=[.INT,.lit Ue,.INT]) (Py i) fun _ i _=>ZH (st1:=[.mccs]) (SO i Vj .mccs (fun _=>rfl)) fun _ i _=>
  ZH (st1:=[.amounts]) (Ns i) fun _ i _=>ZH (st1:=[.curs]) (SO i VG .curs (fun _=>rfl)) fun _ i _=>
  ZH (st1:=[.lit Sq]) (X8 i Sq) fun _ i _=>X7 (Mw i)
def Kp:∀n i a,ts.length-i=n->
  (∀s j,Zs ts i a=.ok (s,j)->Mv ts [.rules] i Y)/\(∀l,Zs ts i a=.error l->yo ts [.rules] i l):=by
 intro n
 induction n using C with
 |ind n B=>
  intro i a G;by_cases c:(Zp ts i).sort=3
  ·have g:Mv ts [.rules] i Y:=by
    have D:∀m,Zn (Zp ts i) m=false:=fun m=>by simp[Zn,c]
    refine Uw (l:=[]) (by simp[YB,D]) ⟨0,?_⟩;rw[A,Tz,if_pos c]
   rw[XL c];exact⟨fun _ _ _=>g,fun _ h=>by cases h⟩
  have H:i<ts.length:=by
   rcases p6 i ts.length with y|y
   ·exact y
   exfalso
   apply c;unfold Zp;rw[gD,b6 y];rfl
  have d:∀(z:List Hs),YB .rules (Zp ts i)=I (z++[.lit Vk,.rules])->Yj ts z (ZW ts i) i->
    (∀s j,Zs ts i a=.ok (s,j)->Mv ts [.rules] i Y)/\(∀l,Zs ts i a=.error l->yo ts [.rules] i l):=by
   intro z w x
   cases b:ZW ts i with
   |error l=>
    rw[YR c b];refine⟨fun _ _ h=>(by cases h),fun E h=>?_⟩;injection h with h;subst h;obtain⟨j,g,t⟩:=x.err [.lit Vk,.rules] l b;exact⟨j,Uw w (by rw[A];exact g),t⟩
   |ok r=>
    obtain⟨e,j⟩:=r;have F:=Vb b
    cases q:ZG ts j Vk with
    |error l=>
     rw[Xg c b q];refine⟨fun _ _ h=>(by cases h),fun E h=>?_⟩;injection h with h;subst h;obtain⟨v,g,t⟩:=(X8 j Vk).err [.rules] l q;exact⟨v,Uw w (by rw[A];exact x.ok _ e j _ b g),t⟩
    |ok r=>
     obtain⟨u,k⟩:=r;rw[Wg c b q];have J:=Yz q;have f:=B (ts.length-k) az k (a++[e]) rfl;refine⟨fun s v h=>?_,fun l h=>?_⟩
     ·exact Uw w (by rw[A];exact x.ok _ e j _ b ((X8 j Vk).ok [.rules] u k _ q (f.1 s v h)))
     obtain⟨v,g,t⟩:=f.2 l h;exact⟨v,Uw w (by rw[A];exact x.ok _ e j _ b ((X8 j Vk).ok [.rules] u k _ q g)),t⟩
  by_cases o:Zn (Zp ts i) Va=true
  ·refine d [.lit Va,.NAME,.INT,.INT] (by show I (if _ then _ else _)=_;rw[if_pos o];rfl) ?_;unfold ZW;rw[if_pos o];exact Wv o (X7 (Ko (i+1)))
  by_cases p:Zn (Zp ts i) Uh=true
  ·refine d [.lit Uh,.NAME,.INT,.lit TK,.lit Qf,.INT,.lit Ue,.INT,.mccs,.amounts,.curs,.lit Sq,.action] (by show I (if _ then _ else _)=_;rw[if_neg o,if_pos p];rfl) ?_;unfold ZW;rw[if_neg o]
   exact ZH (st1:=[.lit Uh]) (X8 i Uh) fun _ j _=>X7 (Ii j)
  have b:ZW ts i=.error (Zp ts i).line:=by
   unfold ZW;rw[if_neg o];unfold ZG;rw[if_neg p];rfl
  rw[YR c b];refine⟨fun _ _ h=>(by cases h),fun l h=>?_⟩;injection h with h;subst h;refine⟨i,Uw (l:=[]) (by show I (if _ then _ else _)=_;rw[if_neg o,if_neg p]) ⟨0,?_⟩,rfl⟩;rw[A,Tz,if_neg c]
end
def Wi:List ByteArray:=[Va,Uh,Qf,Vj,Z9,VG,YU,Yn,Vk,TK,Y8,Ue,Sq]
def VK (t:Tk):Prop:=∀m,m∈Wi->Zn t m=(t.text.toList==m.toList)
def U7 {a b}(h:(a.toList==b.toList)=true)(k):Zy a k=Zy b k:=by
 have e:a.toList=b.toList:=by simpa using h
 rw[ByteArray.toList_eq,ByteArray.toList_eq]at e;unfold Zy;rw[e]
def QH (m):Xe m=vA.contains m.data.toList:=by unfold Xe;rw[ByteArray.toList_eq]
def Ep:∀m,m∈Wi->(ZM (Zy m 0)=true/\vA.contains m.data.toList=true)\/(Zy m 0=59\/Zy m 0=58\/Zy m 0=44\/Zy m 0=46\/Zy m 0=45):=aB
def Of (m)(h:m∈Wi):(ZM (Zy m 0)=true/\Xe m=true)\/(Zy m 0=59\/Zy m 0=58\/Zy m 0=44\/Zy m 0=46\/Zy m 0=45):=by
 rw[QH];exact Ep m h
def yq {a b}(h:(a.toList==b.toList)=true):Xe a=Xe b:=by
 have e:a.toList=b.toList:=by simpa using h
 unfold Xe;rw[e]
def Su (x l):VK ⟨2,x,l⟩:=fun m _=>by simp[Zn]
def Hu {x l}(h:ZM (Zy x 0)=true)(c:Xe x=false):VK ⟨0,x,l⟩:=by
 intro m d;simp only[Zn]
 cases b:(x.toList==m.toList)with
 |false=>simp
 |true=>
  exfalso
  rcases Of m d with⟨_,a⟩|a
  ·rw[<-yq b,c]at a;cases a
  rw[<-U7 b 0]at a;simp[ZM]at h;omega
def Eq {x l}(h:iD (Zy x 0)=true):VK ⟨1,x,l⟩:=by
 intro m c;simp only[Zn]
 cases b:(x.toList==m.toList)with
 |false=>simp
 |true=>
  exfalso
  simp[iD]at h;rcases Of m c with⟨a,_⟩|a
  ·rw[<-U7 b 0]at a;simp[ZM]at a;omega
  rw[<-U7 b 0]at a;omega
def Er (l):VK ⟨3,y7,l⟩:=by
 intro m d;simp only[Zn]
 cases b:(y7.toList==m.toList)with
 |false=>simp
 |true=>
  exfalso
  have c:Zy y7 0=0:=aB;rcases Of m d with⟨a,_⟩|a
  ·rw[<-U7 b 0,c]at a;simp[ZM]at a
  rw[<-U7 b 0,c]at a;omega
def Ve (s k n)(h:1<=n):Zy (s.extract k (k+n)) 0=Zy s k:=by
 rw[Rl s k (k+n) 0 z];rfl
def Hv (t:Tk):Prop:=VK t/\(t.sort=1->1<=t.text.size)/\t.sort≠3/\(t.sort=0->t.text.size<=8)/\Zy t.text 0≠78/\Zy t.text 0≠73
def Pz (s:ByteArray)(k n)(h:k+n<=s.size):(s.extract k (k+n)).size=n:=by
 rw[ByteArray.size_extract];omega
def Hw {s k f n t}(h:k<s.size)(a:Zt s k f=.tok t n):Hv t:=by
 unfold Zt at a
 split at a
 ·contradiction
 split at a
 ·contradiction
 split at a
 ·contradiction
 split at a
 ·rename_i i;have d:=XT Zr s k h (by simp[Zr,i]);have c:=Xz Zr s k z
  have l:Zy (s.extract k (k+ZB Zr s k)) 0≠78/\Zy (s.extract k (k+ZB Zr s k)) 0≠73:=by
   rw[Ve _ _ _ d];simp[ZM]at i;omega
  split at a
  ·injection a with b g;subst b;exact⟨Su _ _,fun e=>by simp at e,y,fun e=>by simp at e,l⟩
  split at a
  ·contradiction
  rename_i o p;injection a with b g;subst b;exact⟨Hu (by rw[Ve _ _ _ d];exact i) (by simpa using o),fun e=>by simp at e,y,fun _=>by show(s.extract _ _).size<=8;rw[Pz _ _ _ c];omega,l⟩
 split at a
 ·rename_i j;have d:=XT iD s k h j;have c:=Xz iD s k z
  split at a
  ·contradiction
  injection a with b g;subst b;exact⟨Eq (by rw[Ve _ _ _ d];exact j),fun _=>by show 1<=(s.extract _ _).size;rw[Pz _ _ _ c];exact d,y,fun e=>by simp at e,by show Zy (s.extract _ _) 0≠78/\_;rw[Ve _ _ _ d];simp[iD]at j;omega⟩
 split at a
 ·rename_i q;injection a with b g;subst b;exact⟨Su _ _,fun e=>by simp at e,y,fun e=>by simp at e,by show Zy (s.extract _ _) 0≠78/\_;rw[Ve _ _ _ z];omega⟩
 split at a
 ·rename_i m;injection a with b g;subst b;simp only[Bool.or_eq_true]at m
  exact⟨Su _ _,fun e=>by simp at e,y,fun e=>by simp at e,by
   show Zy (s.extract _ _) 0≠78/\_
   rw[Ve _ _ _ z];simp[OS]at m
   omega⟩
 contradiction
def P6 (l:List UInt8):Nat:=l.count 10
def Hx (c r):P6 (c::r)=P6 r+(if(c.toNat:Int)=10 then 1 else 0):=by
 unfold P6;rw[List.count_cons]
 have e:(c==10)=decide ((c.toNat:Int)=10):=by
  rw[Bool.eq_iff_iff];simp only[beq_iff_eq,decide_eq_true_eq];rw[<-UInt8.toNat_inj];have:(10:UInt8).toNat=10:=rfl;omega
 rw[e];simp
def Cg (p:Int->Bool)(a:p 10=false):∀(l:List UInt8),P6 (l.drop (Z5 p l))=P6 l
 |[]=>rfl
 |c::r=>by
  simp only[Z5]
  split
  ·rename_i b;rw[List.drop_succ_cons,Cg p a r,Hx,if_neg (fun e=>by rw[e,a]at b;cases b)];rfl
  rfl
def RP (p)(a:p 10=false)(s:ByteArray)(k):P6 (s.data.toList.drop (k+ZB p s k))=P6 (s.data.toList.drop k):=by
 unfold ZB;rw[<-Cg p a (s.data.toList.drop k),List.drop_drop]
def Mx (s k)(h:k<s.size):P6 (s.data.toList.drop k)=P6 (s.data.toList.drop (k+1))+(if Zy s k=10 then 1 else 0):=by
 rw[dC (by simpa using h),Hx,P8 s k h];rfl
def T4 (s k)(h:k<s.size)(a:Zy s k≠10):P6 (s.data.toList.drop (k+1))=P6 (s.data.toList.drop k):=by
 rw[Mx s k h,if_neg a];rfl
def Og {s k a f g}(h:k<s.size)(b:Zt s k a=.skip f g):g+P6 (s.data.toList.drop f)=a+P6 (s.data.toList.drop k):=by
 unfold Zt at b
 split at b
 ·rename_i e;injection b with c d;subst c d;rw[Mx s k h,if_pos e];omega
 split at b
 ·rename_i e i;injection b with c d;subst c d;rw[T4 s k h e]
 split at b
 ·injection b with c d;subst c d;rw[RP ZY rfl]
 repeat' (split at b)
 all_goals contradiction
def Es {s k a b}(h:OS s k a b=true):Zy s k=a/\Zy s (k+1)=b/\k+2<=s.size:=by
 simp[OS]at h;exact⟨h.1.2,h.2,h.1.1⟩
def Nt {s k d f t}(h:k<s.size)(a:Zt s k d=.tok t f):P6 (s.data.toList.drop f)=P6 (s.data.toList.drop k):=by
 unfold Zt at a
 split at a
 ·contradiction
 rename_i g
 split at a
 ·contradiction
 split at a
 ·contradiction
 split at a
 ·split at a
  ·injection a with e b;subst b;exact RP Zr rfl s k
  split at a
  ·contradiction
  injection a with e b;subst b;exact RP Zr rfl s k
 split at a
 ·split at a
  ·contradiction
  injection a with e b;subst b;exact RP iD rfl s k
 split at a
 ·injection a with e b;subst b;exact T4 s k h g
 split at a
 ·rename_i c;injection a with e b;subst b;simp only[Bool.or_eq_true]at c
  have i:Zy s (k+1)≠10/\k+2<=s.size:=by
   rcases c with c|c
   ·have:=Es c;omega
   have:=Es c;omega
  rw[show k+2=(k+1)+1 from rfl,T4 s (k+1) z i.1,T4 s k h g]
 contradiction
def Hy {s}:∀n k b c j,s.size-k=n->(∀t,t∈c->Hv t)->ZN s k b c=.ok j->
  ∃a,j=a++[⟨3,y7,b+P6 (s.data.toList.drop k)⟩]/\∀t,t∈a->Hv t:=by
 intro n
 induction n using C with
 |ind n p=>
  intro k b c j r d h;by_cases f:k<s.size
  ·cases g:Zt s k b with
   |skip l q=>
    rw[YP f g]at h;have:=We f g;have m:=Og f g;obtain⟨a,e,o⟩:=p (s.size-l) z l q c j rfl d h;exact⟨a,by rw[e,m],o⟩
   |tok t l=>
    rw[WK f g]at h;have:=WJ f g;have m:=Nt f g
    obtain⟨a,e,o⟩:=p (s.size-l) z l b (c++[t]) j rfl (fun u i=>by
     rcases q8.1 i with i|i
     ·exact d u i
     simp at i;subst i;exact Hw f g) h
    exact⟨a,by rw[e,m],o⟩
   |bad=>rw[XC f g]at h;cases h
  rw[WL f]at h;injection h with h;subst h;refine⟨c,?_,d⟩;rw[dL (by simpa using f)];rfl
abbrev bs (l:List UInt8):ByteArray:=⟨l.toArray⟩
def Sv (l):(bs l).size=l.length:=rfl
def uU (p:Int->Bool):List UInt8->Prop
 |[]=>True
 |c::_=>p (c.toNat:Int)=false
def QI (p:Int->Bool){l:List UInt8}(a:uU p l):∀(w:List UInt8),(∀c,c∈w->p (c.toNat:Int)=true)->Z5 p (w++l)=w.length
 |[],_=>by
  cases l with
  |nil=>rfl
  |cons c r=>simp only[c9,Z5,G];rw[if_neg (by rw[a];decide)]
 |c::w,h=>by
  simp only[b4,Z5,Z];rw[if_pos (h c y),QI p a w (fun x b=>h x (by simp[b]))]
def At (a:List Tk)(i:Nat)(l:List Tk):Prop:=a.drop i=l
structure tU (body:List Tk)(i:Nat)(l:List Tk):Prop where
 it:∀j t,l[j]?=I t->body[i+1+2*j]?=I t
 cm:∀j,0<j->j<l.length->∃t,body[i+2*j]?=I t/\(t.text.toList==[44])=true
 en:∃t,body[i+2*l.length]?=I t/\(t.text.toList==[44])=false
 ps:0<l.length
def pQ (t:Tk)(l:List UInt8):Prop:=(t.text.toList==l)=true
def tV (a:List Tk)(i:Nat)(b:List UInt8)(l:List Tk):Prop:=
 ∃t,a[i]?=I t/\(((t.text.toList==b)=true/\tU a i l)\/((t.text.toList==b)=false/\l=[]))
def rJ (a:List Tk)(i:Nat)(b:List UInt8)(o:Option (Tk×Tk)):Prop:=
 ∃t,a[i]?=I t/\match o with
  |some c=>(t.text.toList==b)=true/\a[i+1]?=I c.1/\a[i+3]?=I c.2
  |none=>(t.text.toList==b)=false
def SP (o:Option (Tk×Tk)):Nat:=match o with|some _=>4|none=>0
def uV (b:List Tk)(d:Nat)(a:Bv)(j:Nat):Prop:=
  ∃ t,b[d+1]?=I t/\
    ((a=⟨true,false,[]⟩/\(t.text.toList==[100,101,99,108,105,110,101])=true/\j=d+2)\/
     (a.decline=false/\(t.text.toList==[100,101,99,108,105,110,101])=false/\(t.text.toList==[99,104,101,97,112,101,115,116])=a.cheapest/\
       ∃c,(d+1=if a.cheapest then c else c+1)/\tU b c a.routes/\j=c+2*a.routes.length))
structure Ij (body:List Tk)(i:Nat)(r:Pj)(j:Nat):Prop where
 nm:body[i+1]?=I r.name
 rk:body[i+2]?=I r.rank
 b1:body[i+5]?=I r.bin.1
 b2:body[i+7]?=I r.bin.2
 mc:tV body (i+8) [109,99,99] r.mcc
 am:rJ body (i+8+2*r.mcc.length) [97,109,111,117,110,116] r.amount
 cu:tV body (i+8+2*r.mcc.length+SP r.amount) [99,117,114] r.cur
 ac:uV body (i+8+2*r.mcc.length+SP r.amount+2*r.cur.length) r.act j
 dg:Dg r.rank.text/\Dg r.bin.1.text/\Dg r.bin.2.text/\(∀t,t∈r.mcc->Dg t.text)/\(∀t,t∈r.cur->Dg t.text)/\(∀ab,r.amount=I ab->Dg ab.1.text/\Dg ab.2.text)
def My {a k n}(h:k<n):Yt a k (n-k)=Xj a k::Yt a (k+1) (n-(k+1)):=by
 rw[show n-k=(n-(k+1))+1 from z];rfl
def Vx {a k t}(h:a[k]?=I t):Zp a k=t:=by
 unfold Zp;rw[gD,h];rfl
section
variable {body:List Tk} {en:Tk}
def NP (b:en.sort=3){i}(h:(Zp (body++[en]) i).sort≠3):body[i]?=I (Zp (body++[en]) i):=by
 unfold Zp at h ⊢;rw[gD]at h ⊢;by_cases a:i<body.length
 ·rw[y9 a,gE a];rfl
 exfalso
 apply h;rw[aR z];by_cases c:i-body.length=0
 ·rw[c];exact b
 rw[b6 aF];rfl
def ZV (c:en.sort=3){i a t k}(d:a≠3)(h:Yb (body++[en]) i a=.ok (t,k)):body[i]?=I t/\t.sort=a/\k=i+1:=by
 obtain⟨rfl,b,e⟩:=Yx h;exact⟨NP c (by rw[b];exact d),b,e⟩
def Um (a:en.sort=3){i m}(h:Zn (Zp (body++[en]) i) m=true):∃t,body[i]?=I t/\(t.text.toList==m.data.toList)=true/\t.sort=2:=by
 simp only[Zn,Bool.and_eq_true,decide_eq_true_eq]at h;exact⟨_,NP a (by rw[h.1];decide),by rw[<-ByteArray.toList_eq m];exact h.2,h.1⟩
def YM (a:en.sort=3){i m u k}(h:ZG (body++[en]) i m=.ok (u,k)):(∃t,body[i]?=I t/\(t.text.toList==m.data.toList)=true/\t.sort=2)/\k=i+1:=by
 refine⟨?_,Yz h⟩;unfold ZG at h
 split at h
 ·rename_i b;exact Um a b
 cases h
def U8 (b:en.sort=3)(c:∀t,t∈body->VK t){i m}(d:m∈Wi)(e:(Zp (body++[en]) i).sort≠3)(h:¬Zn (Zp (body++[en]) i) m=true):∃t,body[i]?=I t/\(t.text.toList==m.data.toList)=false:=by
 have a:=NP b e;refine⟨_,a,?_⟩;have f:=c _ (mG a) m d;rw[<-ByteArray.toList_eq m,<-f]
 simpa using h
def Ww (a:∀t,t∈body->t.sort≠3){i t}(h:body[i]?=I t):(Zp (body++[en]) i).sort≠3:=by
 have b:=(iG.1 h).1
 have e:Zp (body++[en]) i=t:=by
  unfold Zp;rw[gD,y9 b,h];rfl
 rw[e];exact a t (mG h)
def Ch (g:en.sort=3){want}(n:want≠3):∀m i c l k,(body++[en]).length-i=m->X5 (body++[en]) i want c=.ok (l,k)->
  ∃r,l=c++r/\(∀j t,r[j]?=I t->body[i+1+2*j]?=I t)/\(∀j,j<r.length->∃t,body[i+2*j]?=I t/\(t.text.toList==[44])=true)/\k=i+2*r.length/\¬Zn (Zp (body++[en]) k) Y8=true:=by
 intro m
 induction m using C with
 |ind m o=>
  intro i c l k B b;rw[X5]at b
  split at b
  ·rename_i d;have p:=Uu d
   split at b
   ·cases b
   rename_i t e q;obtain⟨f,h,D⟩:=ZV g n q;obtain⟨r,s,v,w,E,x⟩:=o ((body++[en]).length-e) az e _ l k rfl b;obtain⟨y,z,A,_⟩:=Um g d;refine⟨t::r,by rw[s,N];rfl,fun j u a=>?_,fun j a=>?_,by simp only[Z];omega,x⟩
   ·cases j with
    |zero=>simp at a;subst a;exact f
    |succ j=>
     have:=v j u (by simpa using a);rw[show i+1+2*(j+1)=e+1+2*j from az];exact this
   cases j with
   |zero=>exact⟨y,z,A⟩
   |succ j=>
    obtain⟨u,u1,u2⟩:=w j (by simpa using a);rw[show i+2*(j+1)=e+2*j from az];exact⟨u,u1,u2⟩
  rename_i d;injection b with b;injection b with f h;subst f h;exact⟨[],aA,fun j t a=>by simp at a,fun j a=>by simp at a,aA,d⟩
def Et:Y8∈Wi:=by simp[Wi]
def Ik (b:en.sort=3)(m:∀t,t∈body->VK t){i a}(f:a≠3){l k}(h:Xv (body++[en]) (i+1) a=.ok (l,k))(n:(Zp (body++[en]) k).sort≠3):tU body i l/\k=i+2*l.length:=by
 unfold Xv at h
 split at h
 ·cases h
 rename_i t c o;obtain⟨p,z,A⟩:=ZV b f o;obtain⟨r,q,s,v,B,w⟩:=Ch b f _ c [t] l k rfl h;have x:l=t::r:=q;subst x
 have g:k=i+2*(t::r).length:=by simp only[Z];omega
 refine⟨⟨fun j u d=>?_,fun j y e=>?_,?_,aA⟩,g⟩
 ·cases j with
  |zero=>simp at d;subst d;exact p
  |succ j=>
   have:=s j u (by simpa using d);rw[show i+1+2*(j+1)=c+1+2*j from az];exact this
 ·cases j with
  |zero=>omega
  |succ j=>
   obtain⟨u,u1,u2⟩:=v j (by simpa using e);rw[show i+2*(j+1)=c+2*j from az];exact⟨u,u1,u2⟩
 rw[<-g];exact U8 b m Et n w
def Mz (e:en.sort=3)(m:∀t,t∈body->VK t)(n:∀t,t∈body->t.sort≠3){i kw}(f:kw∈Wi){l k}(h:Xq (body++[en]) i kw=.ok (l,k))(g:(Zp (body++[en]) k).sort≠3):tV body i kw.data.toList l/\k=i+2*l.length/\(Zp (body++[en]) i).sort≠3:=by
 unfold Xq at h
 split at h
 ·rename_i j;obtain⟨t,c,d,_⟩:=Um e j;obtain⟨a,b⟩:=Ik e m aB h g;exact⟨⟨t,c,Or.inl ⟨d,a⟩⟩,b,Ww n c⟩
 rename_i j;injection h with h;injection h with c d;subst c d;obtain⟨t,c,d⟩:=U8 e m f g j;exact⟨⟨t,c,Or.inr ⟨d,rfl⟩⟩,y,g⟩
def Eu (f:en.sort=3)(q:∀t,t∈body->VK t)(r:∀t,t∈body->t.sort≠3){i o k}(h:Wz (body++[en]) i Z9=.ok (o,k))(p:(Zp (body++[en]) k).sort≠3):rJ body i [97,109,111,117,110,116] o/\k=i+SP o/\(Zp (body++[en]) i).sort≠3:=by
 unfold Wz at h
 split at h
 ·rename_i l;obtain⟨t,d,g,_⟩:=Um f l;obtain⟨z,j,c,e⟩:=bI h;injection e with e;injection e with s u;subst s u;rw[WO]at c;obtain⟨a,A,g1,c⟩:=bI c;obtain⟨_,v,g2,c⟩:=bI c;obtain⟨b,B,g3,c⟩:=bI c;injection c with c;injection c with n w;obtain⟨x,C,D⟩:=ZV f aB g1;have E:=(YM f g2).2;obtain⟨y,F,G⟩:=ZV f aB g3;subst n;refine⟨⟨t,d,g,x,?_⟩,by simp only[SP];omega,Ww r d⟩;rw[show i+3=v from az];exact y
 rename_i l;injection h with h;injection h with d g;subst d g;obtain⟨t,d,g⟩:=U8 f q (m:=Z9) (by simp[Wi]) p l;exact⟨⟨t,d,g⟩,rfl,p⟩
def BI (b:en.sort=3)(n:∀t,t∈body->VK t)(v:∀t,t∈body->t.sort≠3){o a k}(h:Xr (body++[en]) (o+1)=.ok (a,k))(w:(Zp (body++[en]) k).sort≠3):uV body o a k:=by
 unfold Xr at h
 split at h
 ·rename_i s;obtain⟨t,f,u,_⟩:=Um b s;injection h with h;injection h with p q;subst p q;exact⟨t,f,Or.inl ⟨rfl,u,rfl⟩⟩
 rename_i s
 split at h
 ·rename_i i;obtain⟨t,f,u,_⟩:=Um b i;obtain⟨l,j,g,e⟩:=bI h;injection e with e;injection e with p q;subst p q;obtain⟨c,d⟩:=Ik b n aB g w;obtain⟨x,u1,u2⟩:=U8 b n (m:=YU) (by simp[Wi]) (Ww v f) s;rw[f]at u1;injection u1 with u1;subst u1;exact⟨t,f,Or.inr ⟨rfl,u2,u,o+1,rfl,c,d⟩⟩
 rename_i i;obtain⟨l,j,g,e⟩:=bI h;injection e with e;injection e with p q;subst p q
 have r:(Zp (body++[en]) (o+1)).sort≠3:=by
  unfold Xv at g
  split at g
  ·cases g
  rename_i t z y;exact Ww v (ZV b aB y).1
 obtain⟨c,d⟩:=Ik b n aB g w;obtain⟨t,f,u2⟩:=U8 b n (m:=YU) (by simp[Wi]) r s;obtain⟨x,u3,u4⟩:=U8 b n (m:=Yn) (by simp[Wi]) r i;rw[f]at u3;injection u3 with u3;subst u3;exact⟨t,f,Or.inr ⟨rfl,u2,u4,o,rfl,c,d⟩⟩
def vH (a:en.sort=3)(f:∀t,t∈body->VK t)(d:∀t,t∈body->t.sort≠3){i r k}(h:Wo (body++[en]) (i+1)=.ok (r,k))(n:(Zp (body++[en]) k).sort≠3)(c:VI (.rule r)):Ij body i r k:=by
 unfold Wo at h;obtain⟨V,o,g1,h⟩:=bI h;obtain⟨W,X,g2,h⟩:=bI h;obtain⟨_,Y,g3,h⟩:=bI h;obtain⟨_,p,q,h⟩:=bI h;obtain⟨Z,s,b,h⟩:=bI h;obtain⟨g,j6,u,h⟩:=bI h;obtain⟨j,v,w,h⟩:=bI h;obtain⟨x,y,z,h⟩:=bI h;obtain⟨_,j9,A,h⟩:=bI h;obtain⟨ac,B,e,h⟩:=bI h;injection h with h;injection h with C D;subst C D;obtain⟨E,a2,a3⟩:=ZV a aB g1;obtain⟨F,b2,b3⟩:=ZV a aB g2;obtain⟨_,c3⟩:=YM a g3;obtain⟨_,c4⟩:=YM a q;rw[WO]at b;obtain⟨p1,q1,G,b⟩:=bI b;obtain⟨_,H,I,b⟩:=bI b;obtain⟨p2,q3,J,b⟩:=bI b;injection b with b;injection b with K f2;subst K;obtain⟨L,x2,x3⟩:=ZV a aB G;have x4:=(YM a I).2;obtain⟨M,y2,y3⟩:=ZV a aB J;obtain⟨⟨ta,N,_,_⟩,O⟩:=YM a A;obtain⟨u1,u2,u3⟩:=Mz a f d (kw:=VG) (by simp[Wi]) z (Ww d N);obtain⟨l,v2,P⟩:=Eu a f d w u3;obtain⟨Q,R,w3⟩:=Mz a f d (kw:=Vj) (by simp[Wi]) u P;have S:s=i+8:=az;subst S;rw[O]at e;have m:=BI a f d e n;rw[R]at l;have T:v=i+8+2*g.length+SP j:=az;rw[T]at u1;have U:y=i+8+2*g.length+SP j+2*x.length:=az;rw[U]at m;refine⟨E,?_,?_,?_,Q,l,u1,m,c.2.1,c.2.2.1,c.2.2.2.1,c.2.2.2.2.1,c.2.2.2.2.2.1,c.2.2.2.2.2.2.1⟩
 ·rw[show i+2=o from az];exact F
 ·rw[show i+5=p from az];exact L
 rw[show i+7=H from az];exact M
end
abbrev Bs:=List UInt8
def Vn (t:Tk):Bs:=Lib.decDigits (Zd t)
def YF (t:Tk):Bs:=t.text.data.toList
def TA (a:Tk->Bs)(l:List Tk):List Bs:=l.flatMap fun t=>[[44],a t]
def PB (a:Tk->Bs):List Tk->List Bs
 |[]=>[]
 |t::r=>a t::TA a r
def Y0 (kw:Bs)(l:List Tk):List Bs:=if l=[]then[]else kw::PB Vn l
def yr:Option (Tk×Tk)->List Bs
 |none=>[]
 |some a=>[[97,109,111,117,110,116],Vn a.1,[46,46],Vn a.2]
def Nu (a:Bv):List Bs:=if a.decline then[[100,101,99,108,105,110,101]]else(if a.cheapest then[[99,104,101,97,112,101,115,116]]else[])++PB YF a.routes
def MA:VC->List Bs
 | .route r=>[[114,111,117,116,101],YF r.name,Vn r.base,Vn r.rate,[59]]
 | .rule r=>[[114,117,108,101],YF r.name,Vn r.rank,[58],[98,105,110],YF r.bin.1,[46,46],YF r.bin.2]++Y0 [109,99,99] r.mcc++yr r.amount++Y0 [99,117,114] r.cur++[[45,62]]++Nu r.act++[[59]]
def Vy (a:List Tk)(i:Nat)(b:List Bs):Prop:=Yt a i b.length=b
def Ql (c:List Tk):∀(a k b:Nat),Yt c k (a+b)=Yt c k a++Yt c (k+a) b
 |0,k,b=>by rw[p4];rfl
 |a+1,k,b=>by
  rw[show a+1+b=(a+b)+1 from z]
  show Xj c k::Yt c (k+1) (a+b)=Xj c k::Yt c (k+1) a++_
  rw[Ql c a (k+1) b,show k+1+a=k+(a+1)from z];rfl
def Vy.nil (body i):Vy body i []:=rfl
def Vy.append {a i b c}(d:Vy a i b)(e:Vy a (i+b.length) c):Vy a i (b++c):=by
 unfold Vy at*;rw[lA,Ql,d,e]
def Vy.one {a i s}(h:Xj a i=s):Vy a i [s]:=by
 unfold Vy
 show Xj a i::Yt a (i+1) 0=[s]
 rw[h];rfl
def Vy.cons {body i s r}(h:Xj body i=s)(a:Vy body (i+1) r):Vy body i (s::r):=Vy.append (Vy.one h) a
def VL {t a b}(h:(t.text.toList==a)=true)(c:(a==b)=false):Kg t b=false:=by
 unfold Kg
 have e:t.text.toList=a:=by simpa using h
 rw[e];exact c
def MB {t a}(h:(t.text.toList==a)=true):Kg t a=true:=h
section
variable {body:List Tk}
def Oh {t}(a:VK t)(b:t.sort≠2){m}(c:m∈Wi):Kg t m.data.toList=false:=by
 unfold Kg;have h:=a m c;rw[ByteArray.toList_eq m]at h;rw[<-h];simp[Zn,b]
def UV {i a}(h:body[i]?=I a)(b:Kg a [98,105,110]=false)(c:Kg a [46,46]=false):Ra body (i+1)=false:=by
 unfold Ra;rw[show i+1-1=i from z,Vx h,b,c];simp
def BJ {i a b}(h:body[i+2]?=I a)(c:body[i]?=I b)(d:Kg a [98,105,110]=false)(e:Kg b [98,105,110]=false):Ra body (i+3)=false:=by
 unfold Ra;rw[show i+3-1=i+2 from z,show i+3-3=i from z,Vx h,Vx c,d,e];simp
def yt {i a}(h:body[i]?=I a)(b:Kg a [98,105,110]=true):Ra body (i+1)=true:=by
 unfold Ra;rw[show i+1-1=i from z,Vx h,b];simp
def BK {i a b}(h:body[i+2]?=I a)(c:body[i]?=I b)(d:Kg a [46,46]=true)(e:Kg b [98,105,110]=true):Ra body (i+3)=true:=by
 unfold Ra;rw[show i+3-1=i+2 from z,show i+3-3=i from z,Vx h,Vx c,d,e];simp
def VM {i t}(h:body[i]?=I t)(a:t.sort≠1):Xj body i=YF t:=by
 unfold Xj;rw[Vx h,show decide (t.sort=1)=false from by simpa using a];rfl
def XV {i t a}(h:body[i]?=I t)(c:t.sort=2)(b:(t.text.toList==a)=true):Xj body i=a:=by
 rw[VM h z]
 have e:t.text.toList=a:=by simpa using b
 rw[ByteArray.toList_eq]at e;exact e
def BL {i t}(h:body[i]?=I t)(a:t.sort=1)(b:Dg t.text)(c:1<=t.text.size)(d:Ra body i=false):Xj body i=Vn t:=by
 unfold Xj;rw[Vx h,d,show decide (t.sort=1)=true from by simpa using a];exact KY t b c
def K1 {i t}(h:body[i]?=I t)(a:Ra body i=true):Xj body i=YF t:=by
 unfold Xj;rw[Vx h,a];simp[YF]
end
/-! ### Blanks -/
def T5 (s:Bs):Prop:=UD s=false
def Ci {s}(h:T5 s):(s==[59])=false/\(s==[46,46])=false:=by
 unfold T5 UD at h;simp only[Bool.or_eq_false_iff]at h;exact⟨h.1.1.1,h.2⟩
def Z7 {s}(h:T5 s)(r):ZU false false (s::r)=32::(s++ZU false false r)/\ZU true false (s::r)=s++ZU false false r/\ZU false true (s::r)=s++ZU false false r:=by
 have a:=(Ci h).1;have b:=(Ci h).2;have c:UD s=false:=h
 refine⟨?_,?_,?_⟩<;>simp[ZU,a,b,c]
def Ev (f g r):ZU f g ([44]::r)=44::ZU false false r:=by simp[ZU,UD]
def Ew (f g r):ZU f g ([58]::r)=58::ZU false false r:=by simp[ZU,UD]
def K3 (f g r):ZU f g ([46,46]::r)=46::46::ZU false true r:=by simp[ZU,UD]
def K4 (f g r):ZU f g ([59]::r)=59::10::ZU true false r:=by simp[ZU,UD]
structure F2 (body:List Tk):Prop where
 lit:∀t,t∈body->VK t
 ns:∀t,t∈body->t.sort≠3
 dg:∀t,t∈body->t.sort=1->Dg t.text/\1<=t.text.size
section
variable {body:List Tk} {en:Tk}
def Il (a l):(TA a l).length=2*l.length:=by
 induction l with
 |nil=>rfl
 |cons t r b=>
  have e:TA a (t::r)=[[44],a t]++TA a r:=by simp[TA]
  rw[e,lA,b];simp;omega
def Un (c:F2 body){i t}(h:body[i]?=I t)(a:t.sort=1)(d:Ra body i=false):Xj body i=Vn t:=by
 have b:=c.dg t (mG h) a;exact BL h a b.1 b.2 d
def yu (j:en.sort=3){want}(u:want≠3)(c)(f:∀i t d,body[i]?=I d->(d.text.toList==[44])=true->body[i+1]?=I t->t.sort=want->Xj body (i+1)=c t):
  ∀m i b l k,(body++[en]).length-i=m->X5 (body++[en]) i want b=.ok (l,k)->∃r,l=b++r/\Vy body i (TA c r)/\k=i+2*r.length:=by
 intro m
 induction m using C with
 |ind m v=>
  intro i b l k B a;rw[X5]at a
  split at a
  ·rename_i n;have w:=Uu n
   split at a
   ·cases a
   rename_i t o x;obtain⟨g,h,y⟩:=ZV j u x;obtain⟨r,z,p,D⟩:=v ((body++[en]).length-o) az o _ l k rfl a;obtain⟨d,q,s,A⟩:=Um j n;refine⟨t::r,by rw[z,N];rfl,?_,by simp only[Z];omega⟩
   have e:TA c (t::r)=[44]::c t::TA c r:=by simp[TA]
   rw[e];refine Vy.cons (XV q A s) (Vy.cons (f i t d q s g h) ?_);rw[y]at p;exact p
  injection a with a;injection a with g h;subst g h;exact⟨[],aA,Vy.nil _ _,aA⟩
def tW (c:F2 body):∀i t a,body[i]?=I a->(a.text.toList==[44])=true->body[i+1]?=I t->t.sort=1->Xj body (i+1)=Vn t:=fun _ _ _ d b e f=>Un c e f (UV d (VL b aB) (VL b aB))
def Cj:∀i t a,body[i]?=I a->(a.text.toList==[44])=true->body[i+1]?=I t->t.sort=0->Xj body (i+1)=YF t:=fun _ _ _ _ _ b c=>VM b z
def MC (c:en.sort=3){want}(d:want≠3)(a)(b:∀i t e,body[i]?=I e->(e.text.toList==[44])=true->body[i+1]?=I t->t.sort=want->Xj body (i+1)=a t){i l k}(g:∀t,body[i]?=I t->t.sort=want->Xj body i=a t)(h:Xv (body++[en]) i want=.ok (l,k)):Vy body i (PB a l)/\k=i+(PB a l).length/\l≠[]:=by
 unfold Xv at h
 split at h
 ·cases h
 rename_i t j m;obtain⟨n,o,p⟩:=ZV c d m;obtain⟨r,q,f,u⟩:=yu c d a b _ j [t] l k rfl h;have s:l=t::r:=q;subst s;rw[p]at f;refine⟨Vy.cons (g t n o) f,?_,y⟩;simp only[PB,Z,Il];omega
def O2 (d:en.sort=3)(f:F2 body){i kw}(a:(kw.data.toList==[98,105,110])=false)(b:(kw.data.toList==[46,46])=false){l k}(h:Xq (body++[en]) i kw=.ok (l,k)):Vy body i (Y0 kw.data.toList l)/\k=i+(Y0 kw.data.toList l).length:=by
 unfold Xq at h
 split at h
 ·rename_i j;obtain⟨t,g,c,m⟩:=Um d j;obtain⟨n,r,o⟩:=MC d aB Vn (tW f) (i:=i+1) (fun s p q=>Un f p q (UV g (VL c a) (VL c b))) h
  have e:Y0 kw.data.toList l=kw.data.toList::PB Vn l:=by simp[Y0,o]
  rw[e];exact⟨Vy.cons (XV g m c) n,by simp only[Z];omega⟩
 injection h with h;injection h with a b;subst a b;exact⟨Vy.nil _ _,by simp[Y0]⟩
def Hz (f:en.sort=3)(n:F2 body){i o k}(h:Wz (body++[en]) i Z9=.ok (o,k)):Vy body i (yr o)/\k=i+(yr o).length:=by
 unfold Wz at h
 split at h
 ·rename_i s;obtain⟨t,l,g,u⟩:=Um f s;obtain⟨I,j,c,e⟩:=bI h;injection e with e;injection e with v w;subst v w;rw[WO]at c;obtain⟨a,J,g1,c⟩:=bI c;obtain⟨_,x,g2,c⟩:=bI c;obtain⟨b,K,g3,c⟩:=bI c;injection c with c;injection c with m y;obtain⟨z,A,B⟩:=ZV f aB g1;obtain⟨⟨L,p,q,C⟩,M⟩:=YM f g2;obtain⟨r,D,N⟩:=ZV f aB g3;subst m;rw[B]at p;have E:x=i+3:=az;rw[E]at r;have d:=p;refine⟨Vy.cons (XV l u g) (Vy.cons (Un n z A (UV l (VL g aB) (VL g aB))) (Vy.cons (XV d C q) (Vy.one (Un n r D (BJ d l (VL q aB) (VL g aB)))))),by simp only[yr,Z,G];omega⟩
 injection h with h;injection h with F H;subst F H;exact⟨Vy.nil _ _,by simp[yr]⟩
def Ex (d:en.sort=3){i a k}(h:Xr (body++[en]) i=.ok (a,k)):Vy body i (Nu a)/\k=i+(Nu a).length:=by
 unfold Xr at h
 split at h
 ·rename_i f;obtain⟨t,m,n,o⟩:=Um d f;injection h with h;injection h with b c;subst b c;exact⟨Vy.one (XV m o n),rfl⟩
 split at h
 ·rename_i f;obtain⟨t,m,n,o⟩:=Um d f;obtain⟨l,j,g,e⟩:=bI h;injection e with e;injection e with b c;subst b c;obtain⟨p,r,_⟩:=MC d aB YF Cj (i:=i+1) (fun s q u=>VM q z) g;exact⟨Vy.cons (XV m o n) p,by simp[Nu];omega⟩
 obtain⟨l,j,g,e⟩:=bI h;injection e with e;injection e with b c;subst b c;obtain⟨p,r,_⟩:=MC d aB YF Cj (i:=i) (fun s q u=>VM q z) g;exact⟨p,by simpa[Nu]using r⟩
def MD (a:F2 body){i:Nat}{t}(h:body[i]?=I t)(b:t.sort≠2):Kg t [98,105,110]=false/\Kg t [46,46]=false:=
 ⟨Oh (a.lit t (b8 h)) b (m:=Qf) (by simp[Wi]),Oh (a.lit t (b8 h)) b (m:=Ue) (by simp[Wi])⟩
def BM (e:en.sort=3)(d:F2 body){i r k}(h:WN (body++[en]) i=.ok (r,k)):Vy body i [YF r.name,Vn r.base,Vn r.rate]/\k=i+3:=by
 unfold WN at h;obtain⟨a,v,g1,h⟩:=bI h;obtain⟨b,w,g2,h⟩:=bI h;obtain⟨c,x,g3,h⟩:=bI h;injection h with h;injection h with o p;subst o p;obtain⟨f,j,q⟩:=ZV e aB g1;obtain⟨g,l,s⟩:=ZV e aB g2;obtain⟨t,u,y⟩:=ZV e aB g3;subst q;subst s;have m:=MD d f (by rw[j];decide);have n:=MD d g (by rw[l];decide);exact⟨Vy.cons (VM f (by rw[j];decide)) (Vy.cons (Un d g l (UV f m.1 m.2)) (Vy.one (Un d t u (UV g n.1 n.2)))),z⟩
def yv (a:en.sort=3)(c:F2 body){i r k}(h:Wo (body++[en]) i=.ok (r,k)):
  Vy body i ([YF r.name,Vn r.rank,[58],[98,105,110],YF r.bin.1,[46,46],YF r.bin.2]++(Y0 [109,99,99] r.mcc++(yr r.amount++(Y0 [99,117,114] r.cur++([45,62]::Nu r.act)))))/\
   k=i+([YF r.name,Vn r.rank,[58],[98,105,110],YF r.bin.1,[46,46],YF r.bin.2]++(Y0 [109,99,99] r.mcc++(yr r.amount++(Y0 [99,117,114] r.cur++([45,62]::Nu r.act))))).length:=by
 unfold Wo at h;obtain⟨nm,j1,g1,h⟩:=bI h;obtain⟨rk,j2,g2,h⟩:=bI h;obtain⟨_,j3,g3,h⟩:=bI h;obtain⟨_,j4,A,h⟩:=bI h;obtain⟨bn,j5,b,h⟩:=bI h;obtain⟨e,p,B,h⟩:=bI h;obtain⟨am,f,C,h⟩:=bI h;obtain⟨g,q,D,h⟩:=bI h;obtain⟨_,j9,E,h⟩:=bI h;obtain⟨ac,F,j,h⟩:=bI h;injection h with h;injection h with H I;subst H I;obtain⟨l,s,J⟩:=ZV a aB g1;obtain⟨K,L,N⟩:=ZV a aB g2;obtain⟨⟨tc,O,P,Q⟩,R⟩:=YM a g3;obtain⟨⟨tb,m,n,S⟩,T⟩:=YM a A;rw[WO]at b;obtain⟨p1,q1,U,b⟩:=bI b;obtain⟨_,q2,V,b⟩:=bI b;obtain⟨W,q3,X,b⟩:=bI b;injection b with b;injection b with Y f2;obtain⟨y1,y2,y3⟩:=ZV a aB U;obtain⟨⟨td,t,u,z4⟩,z3⟩:=YM a V;obtain⟨u1,u2,u3⟩:=ZV a aB X;obtain⟨s6,v⟩:=O2 a c (kw:=Vj) aB aB B;obtain⟨s7,l7⟩:=Hz a c C;obtain⟨s8,w⟩:=O2 a c (kw:=VG) aB aB D;obtain⟨⟨ta,t1,t2,t4⟩,t3⟩:=YM a E;obtain⟨d,a0⟩:=Ex a j;subst Y;subst J N R T y3 z3 u3 f2;have x:=MD c l (by rw[s];decide);have o:=t
 have hd:Xj body (i+6)=YF W:=by
  refine K1 u1 ?_;exact BK (i:=i+3) o m (MB u) (MB n)
 rw[t3]at d;refine⟨Vy.append ?_ (Vy.append s6 ?_),?_⟩
 ·exact Vy.cons (VM l (by rw[s];decide)) (Vy.cons (Un c K L (UV l x.1 x.2)) (Vy.cons (XV O Q P) (Vy.cons (XV m S n) (Vy.cons (K1 y1 (yt m (MB n))) (Vy.cons (XV t z4 u) (Vy.one hd))))))
 ·have y:i+1+1+1+1+1+1+1+(Y0 Vj.data.toList e).length=p:=v.symm
  show Vy body (i+1+1+1+1+1+1+1+(Y0 Vj.data.toList e).length) _
  rw[y];refine Vy.append s7 ?_;rw[<-l7];refine Vy.append s8 ?_;have z:f+(Y0 [99,117,114] g).length=q:=w.symm
  show Vy body (f+(Y0 [99,117,114] g).length) _
  rw[z];exact Vy.cons (XV t1 t4 t2) d
 simp only[M,Z,G];have y:p=i+1+1+1+1+1+1+1+(Y0 [109,99,99] e).length:=v;have z:q=f+(Y0 [99,117,114] g).length:=w;omega
end
section
variable {body:List Tk} {en:Tk}
def K5 (r):MA (.rule r)=[114,117,108,101]::(([YF r.name,Vn r.rank,[58],[98,105,110],YF r.bin.1,[46,46],YF r.bin.2]++(Y0 [109,99,99] r.mcc++(yr r.amount++(Y0 [99,117,114] r.cur++([45,62]::Nu r.act)))))++[[59]]):=by
 simp[MA]
def K6 (b:en.sort=3)(q:F2 body){i e j k u}(h:ZW (body++[en]) i=.ok (e,j))(w:ZG (body++[en]) j Vk=.ok (u,k)):Vy body i (MA e)/\k=i+(MA e).length/\k<=body.length:=by
 obtain⟨⟨B,s,x,y⟩,C⟩:=YM b w;have v:k<=body.length:=aj (iG.1 s).1;have a:Xj body j=[59]:=XV s y x;unfold ZW at h
 split at h
 ·rename_i z;obtain⟨t,d,f,l⟩:=Um b z;obtain⟨r,D,g,m⟩:=bI h;injection m with m;injection m with n o;subst n o;obtain⟨p,c⟩:=BM b q g;refine⟨?_,by simp only[MA,Z,G];omega,v⟩
  show Vy body i ([114,111,117,116,101]::([YF r.name,Vn r.base,Vn r.rate]++[[59]]))
  refine Vy.cons (XV d l f) (Vy.append p (Vy.one ?_))
  show Xj body (i+1+3)=_
  rw[<-c];exact a
 obtain⟨_,E,g1,h⟩:=bI h;obtain⟨r,F,g2,h⟩:=bI h;injection h with h;injection h with n o;subst n o;obtain⟨⟨t,d,f,l⟩,A⟩:=YM b g1;subst A;obtain⟨p,c⟩:=yv b q g2;rw[K5];refine⟨Vy.cons (XV d l f) (Vy.append p (Vy.one ?_)),?_,v⟩
 ·rw[<-c];exact a
 simp only[Z,M,G]at c ⊢;omega
def BN (t:en.sort=3)(o:F2 body):∀m i c g k,(body++[en]).length-i=m->i<=body.length->Zs (body++[en]) i c=.ok (g,k)->∃d,g=c++d/\Vy body i (d.flatMap MA)/\k=i+(d.flatMap MA).length/\k=body.length:=by
 intro m
 induction m using C with
 |ind m v=>
  intro i c g k w E b;by_cases f:(Zp (body++[en]) i).sort=3
  ·rw[XL f]at b;injection b with b;injection b with p q;subst p q;refine⟨[],aA,Vy.nil _ _,aA,?_⟩;rcases p6 i body.length with h|h
   ·exfalso
    exact Ww o.ns (gE h) f
   omega
  cases a:ZW (body++[en]) i with
  |error l=>rw[YR f a]at b;cases b
  |ok r=>
   obtain⟨e,j⟩:=r
   cases n:ZG (body++[en]) j Vk with
   |error l=>rw[Xg f a n]at b;cases b
   |ok r=>
    obtain⟨u,s⟩:=r;rw[Wg f a n]at b;have p:=Vb a;have q:=Yz n;obtain⟨x,y,z⟩:=K6 t o a n;obtain⟨d,A,B,F,D⟩:=v ((body++[en]).length-s) (by simp only[M,Z,G]at w ⊢;omega) s _ g k rfl z b;refine⟨e::d,by rw[A,N];rfl,?_,?_,D⟩
    ·rw[z7];exact Vy.append x (by rw[<-y];exact B)
    rw[z7,lA];omega
def Im (c:en.sort=3)(d:F2 body){a k}(e:Zs (body++[en]) 0 []=.ok (a,k)):VW body body.length=ZU true false (a.flatMap MA):=by
 obtain⟨f,g,b,i,j⟩:=BN c d _ 0 [] a k rfl (q0 _) e;have h:a=f:=g;subst h;unfold Vy at b;unfold VW;rw[show body.length=(a.flatMap MA).length from z,b]
end
/-! ### Blanks -/
def Ga (u):T5 (Lib.decDigits u):=by
 unfold T5 UD;by_cases h:u<10
 ·rw[UU h];have b:∀v:Nat,v<10->(([j0 (48+v)]==[59]||[j0 (48+v)]==[44]||[j0 (48+v)]==[58]||[j0 (48+v)]==[46,46])=false):=aB;exact b u h
 rw[NO h]
 have i:1<=(Lib.decDigits (u/10)).length:=by
  rcases Nat.eq_zero_or_pos (Lib.decDigits (u/10)).length with d|d
  ·exact absurd (q7.1 d) (Ig _)
  exact d
 have a:∀c:UInt8,(Lib.decDigits (u/10)++[j0 (48+u % 10)]==[c])=false:=fun c=>by
  rw[Bool.eq_false_iff];intro e
  have f:Lib.decDigits (u/10)++[j0 (48+u % 10)]=[c]:=by simpa using e
  have:=congrArg m6 f;simp at this;exact Ig _ this
 rw[a,a,a];rw[Bool.false_or,Bool.false_or,Bool.false_or,Bool.eq_false_iff];intro e
 have f:Lib.decDigits (u/10)++[j0 (48+u % 10)]=[46]++[46]:=by simpa using e
 have g:=(List.append_inj_right' f rfl)
 have b:∀v:Nat,v<10->[j0 (48+v)]≠[46]:=aB;exact b (u % 10) z g
def T6 (t):T5 (Vn t):=Ga _
def yw {t}(a:VK t)(b:t.sort≠2):T5 (YF t):=by
 have h:∀m,m∈Wi->(YF t==m.data.toList)=false:=fun m c=>by
  have:=Oh a b c;unfold Kg at this;rw[ByteArray.toList_eq]at this;exact this
 unfold T5 UD;have d:=h Vk (by simp[Wi]);have e:=h Y8 (by simp[Wi]);have f:=h TK (by simp[Wi]);have g:=h Ue (by simp[Wi]);have i:(YF t==[59])=false:=d;have j:(YF t==[44])=false:=e;have k:(YF t==[58])=false:=f;have l:(YF t==[46,46])=false:=g;rw[i,j,k,l];rfl
def Oi (a:Tk->Bs):List Tk->Bs
 |[]=>[]
 |t::r=>a t++r.flatMap fun u=>44::32::a u
def K7 (a:Tk->Bs):∀(r:List Tk)(R:List Bs),(∀t,t∈r->T5 (a t))->ZU false false (TA a r++R)=(r.flatMap fun u=>44::32::a u)++ZU false false R
 |[],R,_=>rfl
 |t::r,R,h=>by
  have e:TA a (t::r)++R=[44]::a t::(TA a r++R):=by simp[TA]
  rw[e,Ev,(Z7 (h t y) _).1,K7 a r R (fun u b=>h u (by simp[b]))];simp
def Oj (a l R)(b:l≠[])(h:∀t,t∈l->T5 (a t)):ZU false false (PB a l++R)=32::(Oi a l++ZU false false R):=by
 cases l with
 |nil=>exact absurd rfl b
 |cons t r=>
  show ZU false false (a t::(TA a r++R))=_
  rw[(Z7 (h t y) _).1,K7 a r R (fun u c=>h u (by simp[c]))];simp[Oi]
def Ol (a:Bs)(l:List Tk):Bs:=if l=[]then[]else 32::(a++32::Oi Vn l)
def ME (a)(b:T5 a)(l R):ZU false false (Y0 a l++R)=Ol a l++ZU false false R:=by
 unfold Y0 Ol;by_cases h:l=[]
 ·simp[h]
 rw[if_neg h,if_neg h,b4,(Z7 b _).1,Oj Vn l R h (fun t _=>Ga _)];simp
def qt:Option (Tk×Tk)->Bs
 |none=>[]
 |some a=>[32,97,109,111,117,110,116,32]++(Vn a.1++(46::46::Vn a.2))
def vI (o R):ZU false false (yr o++R)=qt o++ZU false false R:=by
 cases o with
 |none=>rfl
 |some a=>
  show ZU false false ([97,109,111,117,110,116]::Vn a.1::[46,46]::Vn a.2::R)=_
  rw[(Z7 (s:=[97,109,111,117,110,116]) rfl _).1,(Z7 (T6 a.1) _).1,K3,(Z7 (T6 a.2) _).2.2];simp[qt]
def yx (a:Bv):Bs:=if a.decline then[32,100,101,99,108,105,110,101]else(if a.cheapest then[32,99,104,101,97,112,101,115,116]else[])++32::Oi YF a.routes
def yy (a R)(h:a.decline=false->a.routes≠[])(b:∀t,t∈a.routes->T5 (YF t)):ZU false false (Nu a++R)=yx a++ZU false false R:=by
 unfold Nu yx
 cases c:a.decline with
 |true=>
  show ZU false false ([100,101,99,108,105,110,101]::R)=_
  rw[(Z7 (s:=[100,101,99,108,105,110,101]) rfl _).1];rfl
 |false=>
  cases d:a.cheapest with
  |true=>
   show ZU false false ([99,104,101,97,112,101,115,116]::(PB YF a.routes++R))=_
   rw[(Z7 (s:=[99,104,101,97,112,101,115,116]) rfl _).1,Oj YF a.routes R (h c) b];simp
  |false=>
   show ZU false false (PB YF a.routes++R)=_
   rw[Oj YF a.routes R (h c) b];simp
def Gb:VC->Bs
 | .route r=>[114,111,117,116,101,32]++(YF r.name++(32::(Vn r.base++(32::(Vn r.rate++[59,10])))))
 | .rule r=>[114,117,108,101,32]++(YF r.name++(32::(Vn r.rank++(58::([32,98,105,110,32]++(YF r.bin.1++(46::46::(YF r.bin.2++(Ol [109,99,99] r.mcc++(qt r.amount++(Ol [99,117,114] r.cur++([32,45,62]++(yx r.act++[59,10])))))))))))))
def yz:VC->Prop
 | .route r=>T5 (YF r.name)
 | .rule r=>T5 (YF r.name)/\T5 (YF r.bin.1)/\T5 (YF r.bin.2)/\(r.act.decline=false->r.act.routes≠[])/\∀t,t∈r.act.routes->T5 (YF t)
def yA (e R)(h:yz e):ZU true false (MA e++R)=Gb e++ZU true false R:=by
 cases e with
 |route r=>
  show ZU true false ([114,111,117,116,101]::YF r.name::Vn r.base::Vn r.rate::[59]::R)=_
  rw[(Z7 (s:=[114,111,117,116,101]) rfl _).2.1,(Z7 h _).1,(Z7 (T6 r.base) _).1,(Z7 (T6 r.rate) _).1,K4];simp[Gb]
 |rule r=>
  obtain⟨a,b,c,d,f⟩:=h;rw[K5];have e:([114,117,108,101]::(([YF r.name,Vn r.rank,[58],[98,105,110],YF r.bin.1,[46,46],YF r.bin.2]++(Y0 [109,99,99] r.mcc++(yr r.amount++(Y0 [99,117,114] r.cur++([45,62]::Nu r.act)))))++[[59]]))++R=
    [114,117,108,101]::YF r.name::Vn r.rank::[58]::[98,105,110]::YF r.bin.1::[46,46]::YF r.bin.2::(Y0 [109,99,99] r.mcc++(yr r.amount++(Y0 [99,117,114] r.cur++([45,62]::(Nu r.act++([59]::R)))))):=y
  rw[e,(Z7 (s:=[114,117,108,101]) rfl _).2.1,(Z7 a _).1,(Z7 (T6 r.rank) _).1,Ew,(Z7 (s:=[98,105,110]) rfl _).1,(Z7 b _).1,K3,(Z7 c _).2.2,
   ME [109,99,99] rfl,vI,ME [99,117,114] rfl,(Z7 (s:=[45,62]) rfl _).1,yy _ _ d f,K4]
  simp[Gb]
def K8:∀(a:List VC),(∀e,e∈a->yz e)->ZU true false (a.flatMap MA)=a.flatMap Gb
 |[],_=>rfl
 |e::a,h=>by
  rw[z7,yA e _ (h e y),K8 a (fun x b=>h x (by simp[b]))];rfl
def Yd (n:Nat):Bs:=Lib.decDigits n
def T7 (n a:Nat):Bs:=q5 (a-(Yd n).length) 48++Yd n
def Xk:List Bs->Bs
 |[]=>[]
 |x::r=>x++r.flatMap fun u=>44::32::u
def gJ (a:Bs)(l:List Nat):Bs:=if l=[]then[]else 32::(a++32::Xk (l.map Yd))
def aJ:Option (Nat×Nat)->Bs
 |none=>[]
 |some a=>[32,97,109,111,117,110,116,32]++(Yd a.1++(46::46::Yd a.2))
def Z1 (a:List Zf)(p:Nat):Bs:=((a[p]?).map fun x=>x.name.data.toList).getD []
def rC (a:List Zf)(r:Ze):Bs:=if r.decline then[32,100,101,99,108,105,110,101]else(if r.cheapest then[32,99,104,101,97,112,101,115,116]else[])++32::Xk (r.routes.map (Z1 a))
def UE (r:Zf):Bs:=[114,111,117,116,101,32]++(r.name.data.toList++(32::(Yd r.base++(32::(Yd r.rate++[59,10])))))
def Om (a:List Zf)(r:Ze):Bs:=[114,117,108,101,32]++(r.name.data.toList++(32::(Yd r.rank++(58::([32,98,105,110,32]++(T7 r.lo r.digits++(46::46::(T7 r.hi r.digits++(gJ [109,99,99] r.mcc++(aJ r.am++(gJ [99,117,114] r.cur++([32,45,62]++(rC a r++[59,10])))))))))))))
def Wq (a:List Zf)(b:Nat):List Ze->Bs
 |[]=>(a.drop b).flatMap UE
 |r::rs=>((a.take r.ahead).drop b).flatMap UE++(Om a r++Wq a r.ahead rs)
def VN (a:List Zf)(b:List Ze):Bs:=Wq a 0 b
def MF (a l):Xk (l.map a)=Oi a l:=by
 cases l with
 |nil=>rfl
 |cons t r=>simp[Xk,Oi,List.flatMap_map]
def uW (a l):gJ a (l.map Zd)=Ol a l:=by
 unfold gJ Ol
 have e:(l.map Zd).map Yd=l.map Vn:=by rw[m5];rfl
 rw[e,MF]
 cases l<;>simp
def K9 (a:ByteArray):∀(l:List Zf)(i:Nat),0<=Zk a i l->∃x,l[(Zk a i l).toNat-i]?=I x/\x.name.data.toList=a.data.toList/\i<=(Zk a i l).toNat/\(Zk a i l).toNat<i+l.length
 |[],i,h=>by simp[Zk]at h
 |y::r,i,h=>by
  simp only[Zk]at h ⊢;by_cases b:(y.name.toList==a.toList)=true
  ·rw[if_pos b]
   have e:y.name.toList=a.toList:=by simpa using b
   rw[ByteArray.toList_eq,ByteArray.toList_eq]at e;exact⟨y,aA,e,aA,aA⟩
  rw[if_neg b]at h ⊢;obtain⟨x,c,d,f,g⟩:=K9 a r (i+1) h;refine⟨x,?_,d,z,by simp only[Z];omega⟩;rw[show(Zk a (i+1) r).toNat-i=((Zk a (i+1) r).toNat-(i+1))+1 from z]
  simpa using c
def On (a:List Zf):∀(l:List Tk)(i:Nat)(b:List Nat),Zx a i l=.ok b->b.map (Z1 a)=l.map YF/\∀p,p∈b->p<a.length
 |[],i,b,h=>by simp[Zx]at h;subst h;simp
 |t::r,i,b,h=>by
  simp only[Zx]at h;by_cases e:i=4
  ·rw[if_pos e]at h;cases h
  rw[if_neg e]at h;by_cases g:Zk t.text 0 a<0
  ·rw[if_pos g]at h;cases h
  rw[if_neg g]at h
  cases d:Zx a (i+1) r with
  |error f=>rw[d]at h;cases h
  |ok k=>
   rw[d]at h;injection h with h;subst h;obtain⟨m,n⟩:=On a r (i+1) k d;obtain⟨x,j,o,_,q⟩:=K9 t.text a 0 z;rw[Nat.sub_zero]at j;refine⟨?_,fun p c=>?_⟩
   ·rw[c5,c5,m]
    congr 1
    unfold Z1;rw[j];exact o
   rcases List.mem_cons.1 c with c|c
   ·rw[c];omega
   exact n p c
def vJ {a i e r}(h:Ya a i e=.ok r)(n:Dg e.bin.1.text)(o:Dg e.bin.2.text)(q:1<=e.bin.1.text.size)(s:1<=e.bin.2.text.size):Om a r=Gb (.rule e)/\r.ahead=a.length/\∀p,p∈r.routes->p<a.length:=by
 unfold Ya at h
 split at h
 ·cases h
 split at h
 ·cases h
 split at h
 ·cases h
 split at h
 ·cases h
 split at h
 ·cases h
 rename_i t
 split at h
 ·cases h
 cases j:Zq 9999 0 e.mcc with
 |error f=>rw[j]at h;cases h
 |ok b=>
  rw[j]at h
  dsimp only at h
  split at h
  ·cases h
  cases k:Zq 999 0 e.cur with
  |error f=>rw[k]at h;cases h
  |ok c=>
   rw[k]at h
   dsimp only at h
   cases l:Zx a 0 e.act.routes with
   |error f=>rw[l]at h;cases h
   |ok m=>
    rw[l]at h;injection h with h;subst h;have u:=(WR 9999 e.mcc 0 az).2 b j;have v:=(WR 999 e.cur 0 az).2 c k;obtain⟨w,x⟩:=On a e.act.routes 0 m l;refine⟨?_,rfl,x⟩;have d:e.bin.2.text.size=e.bin.1.text.size:=az;have y:T7 (Zd e.bin.1) e.bin.1.text.size=YF e.bin.1:=(Pt e.bin.1 n q).1
    have z:T7 (Zd e.bin.2) e.bin.1.text.size=YF e.bin.2:=by rw[<-d];exact(Pt e.bin.2 o s).1
    have A:aJ (e.amount.map fun g=>(Zd g.1,Zd g.2))=qt e.amount:=by cases e.amount<;>rfl
    have B:rC a ⟨e.name.text,Zd e.rank,e.bin.1.text.size,Zd e.bin.1,Zd e.bin.2,b,e.amount.map (fun g=>(Zd g.1,Zd g.2)),c,e.act.decline,e.act.cheapest,m,a.length⟩=yx e.act:=by
     unfold rC yx
     dsimp only
     rw[w,MF]
    unfold Om Gb
    dsimp only
    rw[y,z,A,B,u,v,uW,uW];rfl
def vK {a e t}(h:ZF a e=.ok t)(b:a.length<=6):UE t=Gb (.route e):=by
 have c:=(Tx a e b).2 t h;subst c;rfl
/-! ### The book grows -/
def vL (a:List Zf)(b:List Ze):Prop:=∀r,r∈b->r.ahead<=a.length/\∀p,p∈r.routes->p<a.length
def Gc {a t p}(h:p<a.length):Z1 (a++[t]) p=Z1 a p:=by
 unfold Z1;rw[y9 h]
def BO {a t r}(h:∀p,p∈r.routes->p<a.length):Om (a++[t]) r=Om a r:=by
 have e:r.routes.map (Z1 (a++[t]))=r.routes.map (Z1 a):=List.map_congr_left fun p b=>Gc (h p b)
 unfold Om rC;rw[e]
def MG (b:List Zf)(t:Zf):∀(c:List Ze)(a:Nat),a<=b.length->vL b c->Wq (b++[t]) a c=Wq b a c++UE t
 |[],a,h,_=>by
  simp only[Wq];rw[List.drop_append_of_le_length h,c6];simp
 |r::rs,a,h,hk=>by
  have d:=hk r y;simp only[Wq];rw[List.take_append_of_le_length d.1,BO d.2,MG b t rs r.ahead d.1 (fun x e=>hk x (by simp[e]))];simp
def Ja (b:List Zf)(r:Ze)(d:r.ahead=b.length):∀(c:List Ze)(a:Nat),Wq b a (c++[r])=Wq b a c++Om b r
 |[],a=>by
  simp only[Wq,c9];rw[d,List.take_length,List.drop_length];simp
 |x::rs,a=>by
  simp only[Wq,b4];rw[Ja b r d rs x.ahead];simp
def BP:VC->Prop
 | .route _=>True
 | .rule r=>1<=r.bin.1.text.size/\1<=r.bin.2.text.size
def QJ:∀(g:List VC)(a:List Zf)(b:List Ze)(p:List Zf×List Ze),a.length<=6->YG (a.map Zf.name)->vL a b->(∀x,x∈g->VI x/\BP x)->ZT a b g=.ok p->VN p.1 p.2=VN a b++g.flatMap Gb
 |[],a,b,p,_,_,_,_,h=>by
  simp only[ZT]at h;injection h with h;subst h;simp
 | .route e::g,a,b,p,h6,hd,hk,ho,h=>by
  cases c:ZF a e with
  |error f=>rw[YZ (f:=f) (by simp only[VD,c])]at h;cases h
  |ok t=>
   rw[Xx (p:=(a++[t],b)) (by simp only[VD,c])]at h;have j:=VV h6 hd c
   have i:vL (a++[t]) b:=fun r d=>⟨by have:=(hk r d).1;simp;omega,fun q c=>by have:=(hk r d).2 q c;simp;omega⟩
   have:=QJ g (a++[t]) b p j.2 j.1 i (fun x m=>ho x (by simp[m])) h;rw[this];unfold VN;rw[MG a t b 0 (q0 _) hk,vK c h6,z7,N]
 | .rule e::g,a,b,p,h6,hd,hk,ho,h=>by
  have n:=ho (.rule e) y
  cases c:Ya a b e with
  |error f=>rw[YZ (f:=f) (by simp only[VD,c])]at h;cases h
  |ok t=>
   rw[Xx (p:=(a,b++[t])) (by simp only[VD,c])]at h;have k:=n.1;have l:=n.2;obtain⟨o,s,u⟩:=vJ c k.2.2.1 k.2.2.2.1 l.1 l.2
   have i:vL a (b++[t]):=fun r d=>by
    rcases q8.1 d with d|d
    ·exact hk r d
    simp at d;subst d;exact⟨z,u⟩
   have:=QJ g a (b++[t]) p h6 hd i (fun x m=>ho x (by simp[m])) h;rw[this];unfold VN;rw[Ja a t s b 0,o,z7,N]
section
variable {body:List Tk} {en:Tk}
def yB (h:en.sort=3){want}(j:want≠3){Q:Tk->Prop}(n:∀t,t∈body->t.sort=want->Q t):∀m i b l k,(body++[en]).length-i=m->(∀t,t∈b->Q t)->X5 (body++[en]) i want b=.ok (l,k)->∀t,t∈l->Q t:=by
 intro m
 induction m using C with
 |ind m o=>
  intro i b l k s e a;rw[X5]at a
  split at a
  ·rename_i p;have q:=Uu p
   split at a
   ·cases a
   rename_i t f r;obtain⟨d,g,v⟩:=ZV h j r;refine o ((body++[en]).length-f) z f _ l k rfl (fun u c=>?_) a;rcases q8.1 c with c|c
   ·exact e u c
   simp at c;subst c;exact n u (mG d) g
  injection a with a;injection a with d g;subst d;exact e
def Gd (a:en.sort=3){want}(b:want≠3){Q:Tk->Prop}(c:∀t,t∈body->t.sort=want->Q t){i l k}(h:Xv (body++[en]) i want=.ok (l,k)):(∀t,t∈l->Q t)/\l≠[]:=by
 unfold Xv at h
 split at h
 ·cases h
 rename_i t d f;obtain⟨g,j,_⟩:=ZV a b f;refine⟨yB a b c _ d [t] l k rfl (fun u e=>by simp at e;subst e;exact c u (mG g) j) h,?_⟩;obtain⟨r,m,_⟩:=Ch a b _ d [t] l k rfl h;rw[m];simp
def vM (m:en.sort=3)(q:F2 body){i e k}(h:ZW (body++[en]) i=.ok (e,k)):yz e/\BP e:=by
 have n:∀t,t∈body->t.sort≠2->T5 (YF t):=fun t o s=>yw (q.lit t o) s
 unfold ZW at h
 split at h
 ·obtain⟨r,j,g,u⟩:=bI h;injection u with u;injection u with v _;subst v;unfold WN at g;obtain⟨a,I,g1,g⟩:=bI g;obtain⟨b,J,g2,g⟩:=bI g;obtain⟨c,S,g3,g⟩:=bI g;injection g with g;injection g with g _;subst g;obtain⟨w,A,_⟩:=ZV m aB g1;exact⟨n a (mG w) (by rw[A];decide),trivial⟩
 obtain⟨_,I,g1,h⟩:=bI h;obtain⟨r,J,g2,h⟩:=bI h;injection h with h;injection h with v _;subst v;unfold Wo at g2;obtain⟨K,T,w,g2⟩:=bI g2;obtain⟨U,V,A,g2⟩:=bI g2;obtain⟨_,W,X,g2⟩:=bI g2;obtain⟨_,Y,Z,g2⟩:=bI g2;obtain⟨bn,k5,f,g2⟩:=bI g2;obtain⟨mc,k6,a6,g2⟩:=bI g2;obtain⟨am,k7,a7,g2⟩:=bI g2;obtain⟨cu,k8,a8,g2⟩:=bI g2;obtain⟨_,k9,a9,g2⟩:=bI g2;obtain⟨x,L,d,g2⟩:=bI g2;injection g2 with g2;injection g2 with g2 _;subst g2;obtain⟨M,N,_⟩:=ZV m aB w;rw[WO]at f;obtain⟨B,q1,O,f⟩:=bI f;obtain⟨_,q2,x2,f⟩:=bI f;obtain⟨C,q3,P,f⟩:=bI f;injection f with f;injection f with f _;subst f;obtain⟨Q,D,_⟩:=ZV m aB O;obtain⟨R,E,_⟩:=ZV m aB P
 have p:(x.decline=false->x.routes≠[])/\∀t,t∈x.routes->T5 (YF t):=by
  have F:∀t,t∈body->t.sort=0->T5 (YF t):=fun t o s=>n t o (by rw[s];decide)
  unfold Xr at d
  split at d
  ·injection d with d;injection d with d _;subst d;exact⟨fun h=>by simp at h,fun t o=>by simp at o⟩
  split at d
  ·obtain⟨l,j,g,e⟩:=bI d;injection e with e;injection e with e _;subst e;obtain⟨y,z⟩:=Gd m aB F g;exact⟨fun _=>z,y⟩
  obtain⟨l,j,g,e⟩:=bI d;injection e with e;injection e with e _;subst e;obtain⟨y,z⟩:=Gd m aB F g;exact⟨fun _=>z,y⟩
 have G:=mG Q;have H:=mG R;exact⟨⟨n K (mG M) (by rw[N];decide),n B G (by rw[D];decide),n C H (by rw[E];decide),p.1,p.2⟩,(q.dg B G D).2,(q.dg C H E).2⟩
def Ck (h:en.sort=3)(n:F2 body):∀m i d f k,(body++[en]).length-i=m->(∀x,x∈d->yz x/\BP x)->Zs (body++[en]) i d=.ok (f,k)->∀x,x∈f->yz x/\BP x:=by
 intro m
 induction m using C with
 |ind m q=>
  intro i d f k s o b;by_cases g:(Zp (body++[en]) i).sort=3
  ·rw[XL g]at b;injection b with b;injection b with b _;subst b;exact o
  cases a:ZW (body++[en]) i with
  |error l=>rw[YR g a]at b;cases b
  |ok r=>
   obtain⟨e,j⟩:=r
   cases c:ZG (body++[en]) j Vk with
   |error l=>rw[Xg g a c]at b;cases b
   |ok r=>
    obtain⟨u,p⟩:=r;rw[Wg g a c]at b;have t:=Vb a;have v:=Yz c;obtain⟨_,_,w⟩:=K6 h n a c;refine q ((body++[en]).length-p) (by simp only[M,Z,G]at s ⊢;omega) p _ f k rfl (fun x c=>?_) b;rcases q8.1 c with c|c
    ·exact o x c
    simp at c;subst c;exact vM h n a
end
def Ge {s ts}(h:ZN s 0 1 []=.ok ts):∃body,ts=body++[⟨3,y7,1+P6 s.data.toList⟩]/\F2 body/\(∀t,t∈body->Hv t/\T1 s.size t):=by
 obtain⟨body,e,b⟩:=Hy _ 0 1 [] ts rfl (fun t a=>by simp at a) h;have c:=(Rm _ 0 1 [] ts rfl (fun t a=>by simp at a) h).1;rw[List.drop_zero]at e;refine⟨body,e,⟨fun t a=>(b t a).1,fun t a=>(b t a).2.2.1,fun t a d=>⟨(c t (by rw[e];simp[a])).1 d,(b t a).2.1 d⟩⟩,fun t a=>⟨b t a,c t (by rw[e];simp[a])⟩⟩
def yC {body l a k p}(c:F2 body)(d:Zs (body++[⟨3,y7,l⟩]) 0 []=.ok (a,k))(g:∀x,x∈a->VI x)(h:ZT [] [] a=.ok p):VN p.1 p.2=VW body body.length:=by
 have f:=Ck rfl c _ 0 [] a k rfl (fun x b=>by simp at b) d;rw[Im rfl c d,K8 a (fun e i=>(f e i).1)];have:=QJ a [] [] p y trivial (fun r j=>by simp at j) (fun x b=>⟨g x b,(f x b).2⟩) h;rw[this];rfl
def uX (a:List Tk)(i:Nat)(e:VC)(j:Nat):Prop:=
 j<a.length/\i<j/\match e with
 | .route r=>(∃t,a[i]?=I t/\(t.text.toList==[114,111,117,116,101])=true)/\a[i+1]?=I r.name/\a[i+2]?=I r.base/\a[i+3]?=I r.rate/\Dg r.base.text/\Dg r.rate.text/\j=i+4
 | .rule r=>(∃t,a[i]?=I t/\(t.text.toList==[114,111,117,116,101])=false)/\Ij a i r j
def Oo (body:List Tk):Nat->List VC->Prop
 |i,[]=>i=body.length
 |i,e::ys=>∃j,uX body i e j/\Oo body (j+1) ys
section
variable {body:List Tk} {en:Tk}
def tX (b:∀t,t∈body->t.sort≠3){i}(c:i<=body.length)(h:(Zp (body++[en]) i).sort=3):i=body.length:=by
 rcases p6 i body.length with a|a
 ·exfalso
  have:=Ww (en:=en) b (gE a);exact this h
 omega
def tY (b:en.sort=3)(c:F2 body){i j k e u}(h:ZW (body++[en]) i=.ok (e,j))(w:ZG (body++[en]) j Vk=.ok (u,k))(l:VI e):uX body i e j:=by
 obtain⟨⟨E,s,_,_⟩,_⟩:=YM b w;have d:=Vb h;have f:j<body.length:=(iG.1 s).1;unfold ZW at h
 split at h
 ·rename_i n;obtain⟨r,x,g,a⟩:=bI h;injection a with a;injection a with a o;subst a o;obtain⟨t,p,q,_⟩:=Um b n;unfold WN at g;obtain⟨F,v,g1,g⟩:=bI g;obtain⟨bs,y,g2,g⟩:=bI g;obtain⟨G,H,g3,g⟩:=bI g;injection g with g;injection g with z I;subst z;obtain⟨A,J,K⟩:=ZV b aB g1;obtain⟨B,L,M⟩:=ZV b aB g2;obtain⟨C,N,O⟩:=ZV b aB g3;refine⟨f,d,⟨t,p,q⟩,A,?_,?_,l.2.1,l.2.2,az⟩
  ·rw[show i+2=v from az];exact B
  rw[show i+3=y from az];exact C
 rename_i n;obtain⟨_,v,g1,h⟩:=bI h;obtain⟨r,x,g,a⟩:=bI h;injection a with a;injection a with a o;subst a o;obtain⟨⟨t,p,_,_⟩,q⟩:=YM b g1;subst q;obtain⟨D,u1,u2⟩:=U8 b c.lit (m:=Va) (by simp[Wi]) (Ww c.ns p) n;exact⟨f,d,⟨D,u1,u2⟩,vH b c.lit c.ns g (Ww c.ns s) l⟩
def Ey (n:en.sort=3)(o:F2 body):∀m i c d k,body.length-i=m->i<=body.length->(∀x,x∈d->VI x)->Zs (body++[en]) i c=.ok (d,k)->∃h,d=c++h/\Oo body i h:=by
 intro m
 induction m using C with
 |ind m t=>
  intro i c d k B v p a;by_cases f:(Zp (body++[en]) i).sort=3
  ·rw[XL f]at a;injection a with a;injection a with a _;subst a;exact⟨[],aA,tX o.ns v f⟩
  cases b:ZW (body++[en]) i with
  |error l=>rw[YR f b]at a;cases a
  |ok r=>
   obtain⟨e,j⟩:=r
   cases g:ZG (body++[en]) j Vk with
   |error l=>rw[Xg f b g]at a;cases a
   |ok r=>
    obtain⟨u,q⟩:=r;rw[Wg f b g]at a;have D:=Vb b;have w:=Yz g;obtain⟨⟨E,y,_,_⟩,_⟩:=YM n g;have z:j<body.length:=(iG.1 y).1;obtain⟨h,s,A⟩:=t (body.length-q) az q _ d k rfl az p a;refine⟨e::h,by rw[s,N];rfl,j,tY n o b g (p e (by rw[s];simp)),?_⟩;rw[<-w];exact A
end
def Kq {b a r}(h:XD b a Y r=Y):a.length<8:=by
 rcases p6 a.length 8 with c|c
 ·exact c
 exfalso
 unfold XD at h;rw[show decide (8<=a.length)=true from by simpa using c,YA,Vr,ZO,ZO,ZO,ZR]at h
 cases d:r.amount<;>rw[d]at h<;>simp only[Xi,ZO]at h<;>rw[ZR,Wh]at h<;>cases h
def MH {a r}(h:Wu a Y r=Y):a.length<6:=by
 rcases p6 a.length 6 with b|b
 ·exact b
 exfalso
 unfold Wu at h;rw[show decide (6<=a.length)=true from by simpa using b,YA,Vr,ZO,ZO]at h
 cases h
def O3 {s}:∀n k a b ts,s.size-k=n->k<=s.size->ZN s k a b=.ok ts->ts.length<=b.length+(s.size-k)+1:=by
 intro n
 induction n using C with
 |ind n f=>
  intro k a b ts j g h;by_cases c:k<s.size
  ·cases d:Zt s k a with
   |skip e i=>
    rw[YP c d]at h;have:=We c d;have:=f (s.size-e) z e i b ts rfl z h;omega
   |tok t e=>
    rw[WK c d]at h;have:=WJ c d;have:=f (s.size-e) z e a (b++[t]) ts rfl z h;simp only[M,Z,G]at this;omega
   |bad=>rw[XC c d]at h;cases h
  rw[WL c]at h;injection h with h;subst h;simp
def Kr (t:Zf):Prop:=t.name.size<=3000/\t.base<1000000000/\t.rate<1000000000
structure Ts (n:Nat)(r:Ze):Prop where
 nm:r.name.size<=3000
 rk:r.rank<1000000000
 dg:r.digits<=9
 lo:r.lo<1000000000/\(Yd r.lo).length<=r.digits
 hi:r.hi<1000000000/\(Yd r.hi).length<=r.digits
 mc:r.mcc.length<=4000/\∀x,x∈r.mcc->x<1000000000
 cu:r.cur.length<=4000/\∀x,x∈r.cur->x<1000000000
 am:∀ab,r.am=I ab->ab.1<1000000000/\ab.2<1000000000
 pl:r.routes.length<=4000/\∀x,x∈r.routes->x<n
 ah:r.ahead<=n
 bn:r.digits<=6/\r.hi<10^r.digits/\r.lo<=r.hi
def BQ:Nat->List Ze->Prop
 |_,[]=>True
 |told,r::rs=>told<=r.ahead/\BQ r.ahead rs
structure Yh (rts:List Zf)(rls:List Ze):Prop where
 rt:∀t,t∈rts->Kr t
 rl:∀r,r∈rls->Ts rts.length r
 ah:BQ 0 rls
 r6:rts.length<=6
 l8:rls.length<=8
def Jb {r:Ze}{n:Nat}(c:r.ahead=n):∀(b:List Ze)(a:Nat),a<=n->(∀x,x∈b->x.ahead<=n)->BQ a b->BQ a (b++[r])
 |[],a,h,_,_=>⟨z,trivial⟩
 |x::xs,a,_,ha,h=>⟨h.1,Jb c xs x.ahead (ha x aA) (fun y d=>ha y (by simp[d])) h.2⟩
def Ts.more {n r}(h:Ts n r){m}(a:n<=m):Ts m r:=
 ⟨h.nm,h.rk,h.dg,h.lo,h.hi,h.mc,h.cu,h.am,⟨h.pl.1,fun x b=>nL (h.pl.2 x b) a⟩,q6 h.ah a,h.bn⟩
def BR (t)(d:Dg t.text):Zd t<10^t.text.size:=by
 have h:=Ps t.text.data.toList 0 (fun c f=>by
  obtain⟨k,b,e⟩:=List.getElem_of_mem f;have a:=(d.2 k (by simpa using b)).2;unfold Zy at a;rw[gD,gE b,e]at a;simp at a
  omega)
 have e:t.text.data.toList.length=t.text.size:=y;rw[e]at h;unfold Zd ZA;omega
def Ez {b k e r}(h:Ya b k e=.ok r)(y:VI (.rule e))(i:BP (.rule e)):Ts b.length r/\r.ahead=b.length:=by
 obtain⟨z,A,l,m,B,C,u,D,E,F⟩:=y;have i:1<=e.bin.1.text.size/\1<=e.bin.2.text.size:=i;unfold Ya at h
 split at h
 ·cases h
 split at h
 ·cases h
 split at h
 ·cases h
 split at h
 ·cases h
 split at h
 ·cases h
 rename_i M G
 split at h
 ·cases h
 rename_i H
 cases n:Zq 9999 0 e.mcc with
 |error f=>rw[n]at h;cases h
 |ok d=>
  rw[n]at h
  dsimp only at h
  split at h
  ·cases h
  cases o:Zq 999 0 e.cur with
  |error f=>rw[o]at h;cases h
  |ok g=>
   rw[o]at h
   dsimp only at h
   cases p:Zx b 0 e.act.routes with
   |error f=>rw[p]at h;cases h
   |ok v=>
    rw[p]at h;injection h with h;subst h;have I:=(WR 9999 e.mcc 0 az).2 d n;have J:=(WR 999 e.cur 0 az).2 g o;obtain⟨K,L⟩:=On b e.act.routes 0 v p;have c:e.bin.2.text.size=e.bin.1.text.size:=az
    have N:v.length=e.act.routes.length:=by have:=congrArg m6 K;simpa using this
    refine⟨⟨z,Wp _ A,l.1,⟨Wp _ l,(Pt _ l i.1).2⟩,⟨Wp _ m,by dsimp only;rw[<-c];exact(Pt _ m i.2).2⟩,?_,?_,?_,⟨aO,L⟩,p3 _,aO,by dsimp only;rw[<-c];exact BR _ m,aO⟩,rfl⟩
    ·dsimp only
     rw[I];refine⟨by simpa using D,fun x q=>?_⟩;obtain⟨t,s,rfl⟩:=z9.1 q;exact Wp _ (B t s)
    ·dsimp only
     rw[J];refine⟨by simpa using E,fun x q=>?_⟩;obtain⟨t,s,rfl⟩:=z9.1 q;exact Wp _ (C t s)
    intro O a
    dsimp only at a
    cases j:e.amount with
    |none=>rw[j]at a;cases a
    |some w=>
     rw[j]at a;simp only[Option.map_some,Option.some.injEq]at a;subst a;exact⟨Wp _ (u w j).1,Wp _ (u w j).2⟩
def MI:∀(g:List VC)(a:List Zf)(b:List Ze)(p:List Zf×List Ze),Yh a b->YG (a.map Zf.name)->(∀x,x∈g->VI x/\BP x)->ZT a b g=.ok p->Yh p.1 p.2
 |[],a,b,p,hB,_,_,h=>by
  simp only[ZT]at h;injection h with h;subst h;exact hB
 | .route e::g,a,b,p,hB,hd,ho,h=>by
  have i:VI (.route e):=(ho (.route e) y).1
  cases c:ZF a e with
  |error f=>rw[YZ (f:=f) (by simp only[VD,c])]at h;cases h
  |ok t=>
   rw[Xx (p:=(a++[t],b)) (by simp only[VD,c])]at h;have k:=VV hB.r6 hd c;have m:=(Tx a e hB.r6).2 t c;refine MI g (a++[t]) b p ⟨fun u j=>?_,fun r d=>(hB.rl r d).more y,hB.ah,k.2,hB.l8⟩ k.1 (fun x l=>ho x (by simp[l])) h;rcases q8.1 j with j|j
   ·exact hB.rt u j
   simp at j;subst j;rw[m];exact⟨i.1,Wp _ i.2.1,Wp _ i.2.2⟩
 | .rule e::g,a,b,p,hB,hd,ho,h=>by
  have i:=ho (.rule e) y
  cases c:Ya a b e with
  |error f=>rw[YZ (f:=f) (by simp only[VD,c])]at h;cases h
  |ok t=>
   rw[Xx (p:=(a,b++[t])) (by simp only[VD,c])]at h;obtain⟨n,o⟩:=Ez c i.1 i.2;refine MI g a (b++[t]) p ⟨hB.rt,fun r d=>?_,Jb o b 0 (q0 _) (fun x l=>(hB.rl x l).ah) hB.ah,hB.r6,O0 hB.l8 c⟩ hd (fun x l=>ho x (by simp[l])) h;rcases q8.1 d with d|d
   ·exact hB.rl r d
   simp at d;subst d;exact n
def QK {s p}(h:Xc s=.ok p):Yh p.1 p.2:=by
 unfold Xc at h
 split at h
 ·cases h
 rename_i q
 cases a:ZN s 0 1 []with
 |error l=>rw[a]at h;cases h
 |ok ts=>
  rw[a]at h
  dsimp only at h
  cases b:Zs ts 0 []with
  |error l=>rw[b]at h;cases h
  |ok r=>
   obtain⟨e,k⟩:=r;rw[b]at h
   dsimp only at h
   obtain⟨g,f,j,i⟩:=Ge a;have c:=O3 _ 0 1 [] ts rfl (q0 _) a;simp only[G]at c;have m:=Mp (ts:=ts) (n:=s.size) (Rm _ 0 1 [] ts rfl y a).1 z z _ 0 [] e k rfl y b;rw[f]at b;have o:=Ck rfl j _ 0 [] e k rfl (fun x d=>by simp at d) b;exact MI e [] [] p ⟨y,y,trivial,y,y⟩ trivial (fun x d=>⟨m x d,(o x d).2⟩) h
open Go.RowKit
def QL (w:p5):Prop:=Lib.TabIs K w "internal/strconv.uint64pow10" .u64 Lib.pow10Tab
def QL.fr {w w'}(h:QL w)(a:F0 w w'):QL w':=Lib.tabBelow_of_tabIs h w' (a.below (p3 _))
def QL.below {w w'}(h:QL w){B}(b:w.heap.size<=B)(a:Below B w w'):QL w':=Lib.tabBelow_of_tabIs h w' ⟨a.os,a.tape,a.output,a.size,fun k c=>a.block k (nL c b)⟩
def ZS (l:List UInt8):ByteArray:=⟨l.toArray⟩
def XW (l):(ZS l).size=l.length:=rfl
def PC (n:Nat)(w)(h:n<=9223372036854775807)(d:QL w):F K 106 #[J P (n:Int)] w fun e a=>e=H (V (ZS (Yd n)))/\F0 w a:=
 (Tryz.strconv_Itoa (n:Int) z z w d).mono fun e a ⟨b,k,c,f⟩=>by
  rw[Lib.itoa_nonneg]at b;refine⟨b,?_⟩;subst f;refine⟨rfl,rfl,rfl,?_,fun i g _=>?_⟩
  ·show w.heap.size<=(w.heap++c).size
   simp
  show(w.heap++c)[i]?=w.heap[i]?
  exact Array.getElem?_append_left g
def XF (n)(h:n<1000000000):(Yd n).length<=21:=by
 have:=Lib.itoa_length_le (n:Int) z z;rw[Lib.itoa_nonneg]at this;exact this
def Bd (w:p5)(B b:Nat)(l:List UInt8):Prop:=Lib.IsBuilderF 116 5 B b (Lib.byteCells l) w
def Cm {T e B b p bs w j}(h:Lib.BuilderAtF T e B b p bs w)(k:F0 w j):Lib.BuilderAtF T e B b p bs j:=by
 obtain⟨l,v,m,⟨a,c⟩,d⟩:=h;refine⟨l,v,k.whole m,⟨a,?_⟩,d⟩;rcases c with n|⟨g,f,i,o,q,r,s,t⟩
 ·exact .inl n
 exact .inr ⟨g,f,i,o,q,r,k.whole s,t⟩
def Bd.fr {w w' B b l}(h:Bd w B b l)(a:F0 w w'):Bd w' B b l:=
 h.elim (fun x=>.inl (Cm x a)) (fun x=>.inr (Cm x a))
def Bd.lt {w B b l}(h:Bd w B b l):B<=b/\b<w.heap.size:=
 h.elim (fun x=>⟨x.1,x.lt⟩) (fun x=>⟨x.1,x.lt⟩)
def BS (B b l s w)(h:Bd w B b l)(a:l.length+s.size<=140737488355328)(d:B<=w.heap.size):
  F K 105 #[z0 (I ⟨b,0,Y⟩),V s] w fun e c=>e=H (.tuple #[J P s.size,.nilIface])/\Bd c B b (l++s.data.toList)/\Below B w c/\Lib.OthersKept 5 (I b) w c:=
 (Any.Builder_WriteString_k (ρ:=Tryz.lays156_ren) {Tryz.lays156 with} Tryz.Builder_Extra_156 B b (Lib.byteCells l) s w h (by rw[Lib.byteCells_length];exact a) d).mono fun e c ⟨g,f,i,j⟩=>by
  refine⟨g,?_,i,j⟩;rw[Lib.strCells_eq]at f
  have k:Lib.byteCells (l++s.data.toList)=Lib.byteCells l++Lib.byteCells s.data.toList:=by unfold Lib.byteCells;rw[m0]
  unfold Bd;rw[k];exact .inr f
def Gf (B b l w)(h:Bd w B b l)(a:B<=w.heap.size):
  F K 61 #[z0 (I ⟨b,0,Y⟩)] w fun e c=>e=H (V (ZS l))/\Below B w c:=
 (Tryz.Builder_String_any_k B b l w h a).mono fun _ _ ⟨d,_,f,_⟩=>⟨d,f⟩
def Gg (c):Lib.repeatL [48] c=q5 c 48:=by
 induction c with
 |zero=>rfl
 |succ c a=>rw[Lib.repeatL,a];rfl
def EA (c:Nat)(w)(f:c<=9):F K 162 #[V ⟨#[48]⟩,J P (c:Int)] w fun e a=>e=H (V (ZS (q5 c 48)))/\F0 w a:=
 (Tryz.strings_Repeat ⟨#[48]⟩ c w z (by show 1*c<=_;omega)).mono fun e a ⟨b,d⟩=>⟨by rw[b];show _=m3 (V ⟨(q5 c 48).toArray⟩);rw[<-Gg],Fr.of_below d⟩
def EB (n d w)(j:QL w)(A:n<1000000000)(B:d<=9)(q:(Yd n).length<=d):
  F K 107 #[J P (n:Int),J P (d:Int)] w fun e c=>e=H (V (ZS (T7 n d)))/\F0 w c:=by
 have l:=o (PC n w az j);obtain⟨t,b⟩:=ae (ZS (Yd n));rw[<-b]at l
 have f:t.size=(Yd n).length:=by rw[b];rfl
 obtain⟨k,m⟩:=ae t.size;have r:k<=d:=az;have s:t.size=k:=m.symm
 have C:m8.wrap ((d:Int)-(k:Int))=((d-k:Nat):Int):=by rw[IntWalk.i64_in _ az];omega
 have v:=o b;have x:E (k=(Yd n).length):=aQ
 have p:E (∀W,F K 162 #[V ⟨#[48]⟩,J P ((d-k:Nat):Int)] W fun e c=>e=H (V (ZS (q5 (d-k) 48)))/\F0 W c):=fun W=>EA (d-k) W az
 have y:(ZS (q5 (d-k) 48)).size<=9:=by rw[XW,b7];omega
 obtain⟨u,g⟩:=ae (ZS (q5 (d-k) 48));rw[<-g]at p y;have z:=o g;clear b f m g q j;go_enter func107,ntmps107;go_wp2_with fail;refine l.o.mono ?_;rintro e D ⟨rfl,a⟩;have h:=o a;clear a;go_wp2_with fail;refine(p.o _).mono ?_;rintro e G ⟨rfl,a⟩;have i:=o (h.o.trans a);clear a;go_wp2;go_ret;refine⟨?_,i.o⟩
 have e:u++t=ZS (T7 n d):=by
  apply ByteArray.ext;apply Array.ext';rw[z.o,v.o];simp[ZS,T7,x.o]
 rw[<-e];rfl
def Jc (g o k):(⟨g,o,Y⟩:Addr).add k=⟨g,o+k,Y⟩:=aK
def Qm:(K.info? 9).map (fun i=>(i.zero,i.size,i.bytes))=I (I (V y7),1,16):=n
def Sw (l:List Bs):List m7:=l.map fun x=>Value.string (ZS x)
def O4 (l x):Sw (l++[x])=Sw l++[V (ZS x)]:=by unfold Sw;rw[m0];rfl
def EC (r:List Bs):(r.map ([44,32]++·)).flatten=r.flatMap fun u=>44::32::u:=by
 induction r with
 |nil=>rfl
 |cons y r a=>rw[c5,List.flatten_cons,a];rfl
def MJ (l):Lib.join l [44,32]=Xk l:=by
 cases l with
 |nil=>rfl
 |cons x r=>rw[Lib.join_cons,Lib.joinTail,EC];rfl
def Uo (l m)(h:∀x,x∈l->x.length<=m):(Xk l).length<=l.length*(m+2):=by
 have c:∀r:List Bs,(∀x,x∈r->x.length<=m)->(r.flatMap fun u=>44::32::u).length<=r.length*(m+2):=by
  intro r
  induction r with
  |nil=>intro _;simp
  |cons y r d=>
   intro b;have e:=d (fun x a=>b x (by simp[a]));have f:=b y aA;rw[z7,lA];simp only[Z];rw[c7];omega
 cases l with
 |nil=>simp[Xk]
 |cons x r=>
  have e:=c r (fun x a=>h x (by simp[a]));have f:=h x aA;simp only[Xk];rw[lA,Z,c7];omega
def Ux {w:p5}{b e c v n d}(h:w.ownsRow b e c v n d)(m:0<n):∃g a,v=U (I ⟨g,0,Y⟩) n a/\b<=g/\g<w.heap.size/\n<=a:=by
 rcases h.2 with⟨_,e⟩|⟨g,a,f,i,j,k,l,_⟩
 ·omega
 exact⟨g,a,i,j,(iA.1 k).1,l⟩
def Gh (w d v l m)(h:w.ownsRow d 9 1 v l.length (Sw l))(r:l.length<=4000)(s:∀x,x∈l->x.length<=m)(t:m<=3000):
  F K 163 #[v,V ⟨#[44,32]⟩] w fun e f=>e=H (V (ZS (Xk l)))/\F0 w f:=by
 by_cases u:0<l.length
 ·obtain⟨g,i,e,G,z,A⟩:=Ux h u;subst e
  have p:((l.map ZS).map (·.data.toList))=l:=by rw[m5];exact List.map_id' l
  have q:=Uo l m s;have k:l.length*(m+2)<=4000*3002:=p0 r az
  have:=Tryz.strings_Join g 0 i (l.map ZS) ⟨#[44,32]⟩ w (fun j x b=>by
   rw[y8]at b
   cases n:l[j]? with
   |none=>rw[n]at b;cases b
   |some y=>
    rw[n]at b;simp only[Option.map_some,Option.some.injEq]at b;have:=h.cells (g:=g) rfl j (V (ZS y)) (by unfold Sw;rw[y8,n];rfl);rw[Jc]at this;rw[<-b]
    exact this) z (by rw[D];omega) (by rw[D];exact A) (by rw[p];show(Lib.join l [44,32]).length<=_;rw[MJ];omega)
  rw[D]at this
  refine this.mono fun e f ⟨o,B⟩=>⟨?_,Fr.of_below B⟩
  rw[o,p]
  show _=m3 (V ⟨(Xk l).toArray⟩)
  rw[<-MJ]
 have C:l=[]:=q7.1 az;subst C;obtain⟨a,c,e⟩:=oL h;subst e
 exact(Tryz.strings_Join_none a c ⟨#[44,32]⟩ w).mono fun e f ⟨o,hw⟩=>⟨o,by rw[hw];exact Zo⟩
def Oq (w q v l)(h:w.ownsRow q 3 1 v l.length (Zg l))(h0:0<l.length)(hl:l.length<=4000)(A:∀x,x∈l->x<1000000000)(ht:QL w):
  F K 108 #[v] w fun e G=>e=H (V (ZS (Xk (l.map Yd))))/\F0 w G:=by
 obtain⟨g,b0,rfl,hb,r,s⟩:=Ux h h0
 have f:E (∀j x,l[j]?=I x->w.cell? ⟨g,j,Y⟩=I (J P (x:Nat))):=by
  intro j x hj;have:=h.cells (g:=g) rfl j (J P x) (by unfold Zg;rw[y8,hj];rfl)
  rwa [Jc,p4]at this
 have HT:=Za ht;have HX:=Za A;have HG:=Za r;obtain⟨n,O⟩:=ad l.length;have Q:=Za O;rw[O]at hl h0 s ⊢;clear h A ht O hb r;go_enter func108,ntmps108;go_wp2
 go_loopg [3,5,8] n (fun m o _ ix wr=>∃k,k<=n/\m=n-k/\ix=J P (k:Nat)/\E (wr.ownsRow w.heap.size 9 1 o k (Sw ((l.map Yd).take k)))/\E (F0 w wr))
 case atStart=>exact⟨0,q0 _,rfl,rfl,oZ _ _ _ _,Zo⟩
 obtain⟨k,B,rfl,rfl,HO,C⟩:=hrel;by_cases d0:k<n
 ·obtain⟨x,b⟩:∃x,l[k]?=I x:=⟨_,gE (aj Q.o)⟩
  have c0:wr.cell? ⟨g,k,Y⟩=I (J P (x:Nat)):=(C.o.cell (p:=⟨g,k,Y⟩) HG.o).trans (f.o k x b)
  have R:E ((l.map Yd).take (k+1)=(l.map Yd).take k++[Yd x]):=by show _=_;rw[p9,y8,b];rfl
  have HI:=Za (PC x wr (aj (HX.o x (mG b))) (HT.o.fr C.o));have S:=af k n;clear b;go_wp2_with fail;refine HI.o.mono ?_;rintro e w1 ⟨rfl,i⟩;have u:=Za (C.o.trans i);have z:=Za (oF HO.o i);have e0:=u.o.size;obtain⟨t,T⟩:=ae (ZS (Yd x));rw[<-T];have U:=Za T;clear i c0 T
  go_wp2_with (at_builtin;refine ao w.heap.size Qm underlying28 u3 k (Sw ((l.map Yd).take k)) ?h1 ⟨w1.heap.size,0,Y⟩ [V t] ?h2 ?_ (k4:=?h6))
  case h1=>exact z.o.alloc _
  case h2=>exact World.news_of_block (aN w1 _)
  case h6=>first|omega|(simp;omega)
  intro g2 a0 w5 c a _ _
  have d:∀k,u3.ownBlock=I k->w.heap.size<=k:=fun k B=>(z.o.lt k B).1
  have W:=Za c;have X:=Za ((u.o.alloc _).grown a (fun k B=>Or.inr (d k B)));clear a c d;go_wp2;go_roundg (n-(k+1))
  case measure=>omega
  refine⟨k+1,az,rfl,aE,?_,X⟩
  show World.ownsRow _ _ _ _ _ _ _
  rw[R.o,O4,<-U.o];exact W.o
 have S:=ai k n;have ek:k=n:=az;subst ek
 have HJ:E (F K 163 #[u3,V ⟨#[44,32]⟩] wr fun e G=>e=H (V (ZS (Xk (l.map Yd))))/\F0 wr G):=by
  have ho:=HO.o;rw[k0 (by rw[D];have:=Q.o;omega)]at ho;have e:=Q.o;refine Gh wr w.heap.size u3 (l.map Yd) 21 (by rw[D,e];exact ho) (by rw[D,e];exact hl) (fun x A=>?_) az;obtain⟨y,hy,rfl⟩:=z9.1 A;exact XF y (HX.o y hy)
 go_wp2_with fail;refine HJ.o.mono ?_;rintro e w2 ⟨rfl,i⟩;have Z:=Za (C.o.trans i);clear i;go_wp2;go_ret;exact⟨rfl,Z.o⟩
def MK (a b:Bool)(l:List Bs):Bs:=if a then[100,101,99,108,105,110,101]else(if b then[99,104,101,97,112,101,115,116,32]else[])++Xk l
def vN (a r):32::MK r.decline r.cheapest (r.routes.map (Z1 a))=rC a r:=by
 unfold MK rC
 cases r.decline<;>cases r.cheapest<;>rfl
def Jd (c:ByteArray)(d e f g:Int)(h:Option Addr)(i j:Nat)(a:Bool)(k l:Int)(m:Option Addr)(n o:Nat)(p q:Bool)(r:Option Addr)(s t:Nat)(b:Int):m7:=
 .agg #[V c,J P d,J P e,J P f,J P g,U h i j,L a,J P k,J P l,U m n o,L p,L q,U r s t,J P b]
def Nv (w Bb vr a i b nm i1 i2 i3 i4 ma mn mc r i7 i8 ca cn cc dc B C pc s)(hb:w.cell? ⟨Bb,0,Y⟩=I vr)(hr:w.ownsRow i 148 3 vr a.length (Ym a))(hp:w.ownsRow i 3 1 (U C b.length pc) b.length (Zg b))(hl:b.length<=4000)(G:∀p,p∈b->p<a.length)(M:∀t,t∈a->t.name.size<=3000)(h6:a.length<=6):
  F K 109 #[z0 (I ⟨Bb,0,Y⟩),Jd nm i1 i2 i3 i4 ma mn mc r i7 i8 ca cn cc dc B C b.length pc s] w fun e w'=>e=H (V (ZS (MK dc B (b.map (Z1 a)))))/\F0 w w':=by
 unfold Jd;obtain⟨va,vc,hv⟩:=oL hr;subst hv;have f0:=Za (bL w _ hb)
 have g0:E (∀j p,b[j]?=I p->∃g,C=I ⟨g,0,Y⟩/\g<w.heap.size/\w.cell? ⟨g,j,Y⟩=I (J P (p:Nat))):=by
  intro j p d;obtain⟨g,h0,e,_,N,_⟩:=Ux hp (aj (iG.1 d).1);injection e with e1 e2 e3;subst e1;refine⟨g,rfl,N,?_⟩;have:=hp.cells (g:=g) rfl j (J P p) (by unfold Zg;rw[y8,d];rfl)
  rwa [Jc,p4]at this
 have i0:E (∀j t,a[j]?=I t->∃g,va=I ⟨g,0,Y⟩/\g<w.heap.size/\w.cell? ⟨g,j*3,Y⟩=I (V t.name)):=by
  intro j t d;obtain⟨g,h0,e,_,N,hc⟩:=U5 hr (aj (iG.1 d).1);injection e with e1 e2 e3;exact⟨g,e1,N,(hc j t d).1⟩
 have j0:=Za G;have l0:=Za M;have O:=Za hb;obtain⟨n,hn⟩:=ad b.length;have HN:=Za hn;obtain⟨nr,u⟩:=ad a.length;have Q:=Za u;rw[u]at O h6;rw[hn]at hl ⊢;clear hb hr hp G M hn u;go_enter func109,ntmps109
 cases dc with
 |true=>
  go_wp2;go_ret;exact⟨rfl,Zo.alloc _⟩
 |false=>
  go_wp2_with fail;have R:=aN w (z8 #[V nm,J P i1,J P i2,J P i3,J P i4,U ma mn mc,L r,J P i7,J P i8,U ca cn cc,L false,L B,U C n pc,J P s] 120);have v:=Za (Zc R 11);have m0:=(WM w (z8 #[V nm,J P i1,J P i2,J P i3,J P i4,U ma mn mc,L r,J P i7,J P i8,U ca cn cc,L false,L B,U C n pc,J P s] 120)).1;clear R;generalize w.alloc _=A at*;obtain⟨X,hX⟩:=ad w.heap.size;rw[hX]at v ⊢;clear hX
  go_loopg [5,7,14] n (fun m o _ ix wr=>∃k,k<=n/\m=n-k/\ix=J P (k:Nat)/\E (wr.ownsRow A.heap.size 9 1 o k (Sw ((b.map (Z1 a)).take k)))/\E (F0 A wr))
  case atStart=>exact⟨0,q0 _,rfl,rfl,oZ _ _ _ _,Zo⟩
  obtain⟨k,hk,rfl,rfl,HO,HF⟩:=hrel;have f:=Za (m0.o.trans HF.o);by_cases B0:k<n
  ·obtain⟨p,h⟩:∃p,b[k]?=I p:=⟨_,gE (aj HN.o)⟩
   obtain⟨g,n0,N,c0⟩:=g0.o k p h;rw[<-f.o.cell (p:=⟨g,k,Y⟩) N aA]at c0;have C0:p<nr:=ak (j0.o p (mG h)) Q.o;obtain⟨t,y⟩:∃t,a[p]?=I t:=⟨_,gE (aj Q.o)⟩;obtain⟨gr,S,o0,r0⟩:=i0.o p t y;rw[<-f.o.cell (p:=⟨gr,p*3,Y⟩) o0 aA]at r0;have b0:=(f.o.cell (p:=⟨Bb,0,Y⟩) f0.o).trans O.o;rw[S]at b0;subst n0
   have s0:E ((b.map (Z1 a)).take (k+1)=(b.map (Z1 a)).take k++[t.name.data.toList]):=by show _=_;rw[p9,y8,h];simp[Z1,y]
   have t0:=af k n;have D0:=af p nr;have E0:=HF.o.size;clear h y S
   go_wp2_with (at_builtin;refine ao A.heap.size Qm underlying28 u5 k (Sw ((b.map (Z1 a)).take k)) ?h1 ⟨wr.heap.size,0,Y⟩ [V t.name] ?h2 ?_ (k4:=?h6))
   case h1=>exact HO.o.alloc _
   case h2=>exact World.news_of_block (aN wr _)
   case h6=>first|omega|(simp;omega)
   intro g2 y0 w5 l c _ _
   have q:∀k,u5.ownBlock=I k->A.heap.size<=k:=fun k hk=>(HO.o.lt k hk).1
   have v0:=Za l;have w0:=Za ((HF.o.alloc _).grown c (fun k hk=>Or.inr (q k hk)));clear c l q;go_wp2;go_roundg (n-(k+1))
   case measure=>omega
   refine⟨k+1,az,rfl,aE,?_,w0⟩
   show World.ownsRow _ _ _ _ _ _ _
   rw[s0.o,O4];exact v0.o
  have t0:=ai k n;have ek:k=n:=az;subst ek;have z:=(HF.o.cell (p:=⟨X,11,Y⟩) (bL A _ v.o)).trans v.o
  have T:E (∀x,x∈b.map (Z1 a)->x.length<=3000):=fun x hx=>by
   obtain⟨p,hp,rfl⟩:=z9.1 hx;unfold Z1
   cases hq:a[p]? with
   |none=>simp
   |some t=>
    have:=l0.o t (mG hq)
    simpa using this
  have HJ:E (F K 163 #[u5,V ⟨#[44,32]⟩] wr fun e w'=>e=H (V (ZS (Xk (b.map (Z1 a)))))/\F0 wr w'):=by
   have ho:=HO.o;rw[k0 (by rw[D];have:=HN.o;omega)]at ho;have e:=HN.o;exact Gh wr A.heap.size u5 (b.map (Z1 a)) 3000 (by rw[D,e];exact ho) (by rw[D,e];exact hl) T.o az
  have x0:(ZS (Xk (b.map (Z1 a)))).size<=4000*3002:=by
   have h1:=Uo (b.map (Z1 a)) 3000 T.o;rw[D,HN.o]at h1;have h2:k*(3000+2)<=4000*3002:=p0 hl az;rw[XW];omega
  obtain⟨j,d⟩:=ae (ZS (Xk (b.map (Z1 a))));rw[<-d]at HJ x0;have W:=Za d;clear d;go_wp2_with fail;refine HJ.o.mono ?_;rintro e w2 ⟨rfl,hf⟩;have Z:=Za (f.o.trans hf);have A0:=(hf.cell (p:=⟨X,11,Y⟩) (bL wr _ z)).trans z;clear hf z
  cases B with
  |true=>
   go_wp2;go_ret;refine⟨?_,Z.o⟩
   have e:(⟨#[99,104,101,97,112,101,115,116,32]⟩:ByteArray)++j=ZS (MK false true (b.map (Z1 a))):=by
    apply ByteArray.ext;apply Array.ext';rw[W.o];simp[ZS,MK]
   rw[<-e];rfl
  |false=>
   go_wp2;go_ret;refine⟨?_,Z.o⟩;rw[W.o];rfl
def XX (a b m n)(c:a.size<=m)(d:b.size<=n)(h:m+n<=80000000):∃y,E (y=a++b)/\y.size<=m+n/\∀W,(Op.stringOp .add a b).run K W=.ok (V y) W:=
 ⟨a++b,rfl,by rw[ByteArray.size_append];omega,fun W=>run_string_add_sum W a b z⟩
structure Wr (w0:p5)(B b:Nat)(l:List UInt8)(X:Nat)(o:Obj)(W:p5):Prop where
 bd:Bd W B b l
 be:Below B w0 W
 le:B<=W.heap.size
 ob:W.heap[X]?=I o
 ok:Lib.OthersKept 5 (I b) w0 W
def yD {b a W c}(h:Lib.OthersKept 5 b a W)(d:F0 W c):Lib.OthersKept 5 b a c:=fun k o e f g=>d.whole (h k o e f g)
def Gi {b w W}(h:Below w.heap.size w W):Lib.OthersKept 5 b w W:=fun k o a _ _=>by
 rw[h.block k (iA.1 a).1];exact a
def Wr.fr {w0 B b l X o W c}(h:Wr w0 B b l X o W)(a:F0 W c):Wr w0 B b l X o c:=
 ⟨h.bd.fr a,h.be.trans (a.below h.le),q6 h.le a.size,a.whole h.ob,yD h.ok a⟩
def Wr.write {a B b l X d T W}(h:Wr a B b l X (z8 d T) W)(s)(j:l.length+s.size<=140737488355328)(k:X≠b)(m:T≠5):
  F K 105 #[z0 (I ⟨b,0,Y⟩),V s] W fun e f=>e=H (.tuple #[J P s.size,.nilIface])/\Wr a B b (l++s.data.toList) X (z8 d T) f:=
 (BS B b l s W h.bd j h.le).mono fun e f ⟨n,o,g,i⟩=>⟨n,o,h.be.trans g,q6 h.le g.size,i X _ h.ob (by simpa using k) (fun c q e=>by injection e with _ p;exact m p),h.ok.trans i⟩
def Wr.itoa {c B b l X o W}(h:Wr c B b l X o W)(d:∀a,Below B c a->QL a)(m:Nat)(i:m<1000000000):
  F K 106 #[J P (m:Int)] W fun e a=>e=H (V (ZS (Yd m)))/\Wr c B b l X o a:=
 (PC m W z (d W h.be)).mono fun e a ⟨f,g⟩=>⟨f,h.fr g⟩
def BT (w:p5)(B:Nat)(a:Option Addr)(b:List Zf):Prop:=
 ∀j t,b[j]?=I t->∃g o,a=I ⟨g,o,Y⟩/\g<B/\w.cell? ⟨g,o+j*3,Y⟩=I (V t.name)/\w.cell? ⟨g,o+j*3+1,Y⟩=I (J P t.base)/\w.cell? ⟨g,o+j*3+2,Y⟩=I (J P t.rate)
def yE (t)(h:Kr t):(UE t).length<=3060:=by
 have a:=XF _ h.2.1;have b:=XF _ h.2.2;have c:t.name.data.toList.length=t.name.size:=y;have d:=h.1;unfold UE;simp only[M,Z,G];omega
def Cn (l:List Zf)(h:∀t,t∈l->Kr t):(l.flatMap UE).length<=l.length*3060:=by
 induction l with
 |nil=>simp
 |cons x r a=>
  have c:=a (fun t b=>h t (by simp[b]));have d:=yE x (h x y);rw[z7,lA,Z,c7];omega
def SQ (w B b p a c d)(hB:B<=w.heap.size)(hd:Bd w B b p)(Q:∀f,Below B w f->QL f)(hr:BT w B a d)(i:∀t,t∈d->Kr t)(R:d.length<=6)(r0:p.length<=100000000):
  F K 59 #[z0 (I ⟨b,0,Y⟩),U a d.length c] w fun e f=>e=H (.tuple #[])/\Bd f B b (p++d.flatMap UE)/\Below B w f/\Lib.OthersKept 5 (I b) w f:=by
 have HD:=Za hd;have S:=Za Q;have HR:=Za hr;have A:=Za i;obtain⟨n,hn⟩:=ad d.length;have HN:=Za hn;rw[hn]at R ⊢;go_enter func59,ntmps59;go_wp2
 go_loopg [5,8] n (fun m _ ix wr=>∃k,k<=n/\m=n-k/\ix=J P (k:Nat)/\E (Bd wr B b (p++(d.take k).flatMap UE))/\E (Below B w wr)/\E (Lib.OthersKept 5 (I b) w wr))
 case atStart=>exact⟨0,q0 _,rfl,rfl,by show Bd _ _ _ _;simpa using HD.o,Below.refl _ _,Lib.OthersKept.refl _ _ _⟩
 obtain⟨k,hk,rfl,rfl,q,O,C⟩:=hrel;by_cases t0:k<n
 ·obtain⟨t,U0⟩:∃t,d[k]?=I t:=⟨_,gE (aj HN.o)⟩
  obtain⟨g,o,ha,hg,c0,c1,c2⟩:=HR.o k t U0;have v0:g<w.heap.size:=az
  have u:∀j v,w.cell? ⟨g,j,Y⟩=I v->wr.cell? ⟨g,j,Y⟩=I v:=fun j v hv=>by
   rw[show wr.cell? ⟨g,j,Y⟩=w.cell? ⟨g,j,Y⟩from by simp only[World.cell?,O.o.block g hg]];exact hv
  replace c0:=u _ _ c0;replace c1:=u _ _ c1;replace c2:=u _ _ c2;subst ha;have T:=af k n
  have D:E (p++(d.take (k+1)).flatMap UE=(p++(d.take k).flatMap UE)++UE t):=by show _=_;rw[p9,U0,c6,N];simp
  have i:=A.o t (mG U0);have Z:=i.1;have a0:(ZS (Yd t.base)).size<=21:=XF _ i.2.1;have b0:(ZS (Yd t.rate)).size<=21:=XF _ i.2.2;have r:=Za i;have G:=Za (q6 hB O.o.size)
  have L:(p++(d.take k).flatMap UE).length<=100100000:=by
   have h1:=Cn (d.take k) (fun t ht=>A.o t (p7 ht))
   have h2:(d.take k).length<=6:=by rw[b5];omega
   have h3:(d.take k).length*3060<=6*3060:=p0 h2 (p3 _);rw[lA];omega
  obtain⟨x,d0⟩:=ae (p++(d.take k).flatMap UE);rw[<-d0]at q D L;go_upto_region 3 with fail
  have HZ:E (Wr w B b x wr.heap.size (z8 #[V t.name,J P t.base,J P t.rate] 148) (wr.alloc (z8 #[V t.name,J P t.base,J P t.rate] 148))):=
   ⟨q.o.fr (Zo.alloc _),O.o.trans (((Fr.refl (fun _=>False) wr).alloc _).below G.o),q6 G.o aA,aN wr _,yD C.o (Zo.alloc _)⟩
  have e0:E (wr.heap.size≠b):=by have:=q.o.lt.2;show _≠_;omega
  generalize wr.alloc _=W1 at*;generalize wr.heap.size=X at*
  have y:E (∀l W,Wr w B b l X (z8 #[V t.name,J P t.base,J P t.rate] 148) W->W.cell? ⟨X,0,Y⟩=I (V t.name)/\W.cell? ⟨X,1,Y⟩=I (J P t.base)/\W.cell? ⟨X,2,Y⟩=I (J P t.rate)):=fun l W h=>⟨Zc h.ob 0,Zc h.ob 1,Zc h.ob 2⟩
  have HI:E (∀(m:Nat)(W:p5),E (m<1000000000)->E (Wr w B b x X (z8 #[V t.name,J P t.base,J P t.rate] 148) W)->F K 106 #[J P (m:Int)] W fun e f=>e=H (V (ZS (Yd m)))/\E (Wr w B b x X (z8 #[V t.name,J P t.base,J P t.rate] 148) f)/\f.cell? ⟨X,0,Y⟩=I (V t.name)/\f.cell? ⟨X,1,Y⟩=I (J P t.base)/\f.cell? ⟨X,2,Y⟩=I (J P t.rate)):=
   fun m W hm hZ=>(hZ.o.itoa S.o m hm.o).mono fun e f ⟨he,hz⟩=>⟨he,hz,y.o _ _ hz⟩
  have HW:E (∀(s:ByteArray)(W:p5),s.size<=4000->E (Wr w B b x X (z8 #[V t.name,J P t.base,J P t.rate] 148) W)->F K 105 #[z0 (I ⟨b,0,Y⟩),V s] W fun e f=>e=H (.tuple #[J P s.size,.nilIface])/\E (Wr w B b (x++s.data.toList) X (z8 #[V t.name,J P t.base,J P t.rate] 148) f)/\f.cell? ⟨X,0,Y⟩=I (V t.name)/\f.cell? ⟨X,1,Y⟩=I (J P t.base)/\f.cell? ⟨X,2,Y⟩=I (J P t.rate)):=
   fun s W hs hZ=>(hZ.o.write s az e0.o aB).mono fun e f ⟨he,hz⟩=>⟨he,hz,y.o _ _ hz⟩
  have w0:=Za r.o.2.1;have x0:=Za r.o.2.2;obtain⟨s0,s1,s2⟩:=y.o _ _ HZ.o;have y0:=Za (HZ.o.fr Zo.drew);obtain⟨y1,f0,z1,k1⟩:=XX ⟨#[114,111,117,116,101,32]⟩ t.name 6 3000 aB Z az;obtain⟨y2,g0,z2,k2⟩:=XX y1 ⟨#[32]⟩ _ 1 z1 aB az;obtain⟨y3,h0,z3,k3⟩:=XX y2 (ZS (Yd t.base)) _ 21 z2 a0 az;obtain⟨y4,i0,z4,k4⟩:=XX y3 ⟨#[32]⟩ _ 1 z3 aB az;obtain⟨y5,j0,z5,k5⟩:=XX y4 (ZS (Yd t.rate)) _ 21 z4 b0 az;obtain⟨y6,m0,z6,k6⟩:=XX y5 ⟨#[59,10]⟩ _ 2 z5 aB az
  go_region_held3 (fun W=>W.cell? ⟨X,0,Y⟩=I (V t.name)/\W.cell? ⟨X,1,Y⟩=I (J P t.base)/\W.cell? ⟨X,2,Y⟩=I (J P t.rate)) (first|assumption|go_keep) (first
   |(go_at_call 106;refine(HI.o _ _ aG aG).mono ?_;rintro e w7 ⟨rfl,A0,n0⟩)
   |(go_at_call 105;refine(HW.o _ _ az aG).mono ?_;rintro e w7 ⟨rfl,z,n0⟩))
  have HY:E (y6.data.toList=UE t):=by
   show _=_
   rw[m0.o,j0.o,i0.o,h0.o,g0.o,f0.o];simp[UE,ZS]
  go_wp2;go_roundg (n-(k+1))
  case measure=>omega
  refine⟨k+1,az,rfl,aE,?_,z.o.be,z.o.ok⟩
  show Bd _ _ _ _
  have e:=z.o.bd;rw[HY.o]at e;rw[D.o];exact e
 have T:=ai k n;have ek:k=n:=az;subst ek
 have o0:E (Bd wr B b (p++d.flatMap UE)):=by
  have e:=q.o;rw[k0 (aj HN.o)]at e;exact e
 go_wp2
 go_end0
 exact⟨rfl,o0.o,O.o,C.o⟩
def tZ (a:ByteArray)(b:Nat):Bs:=[114,117,108,101,32]++(a.data.toList++(32::(Yd b++[58])))
def sb (a b c:Nat):Bs:=[32,98,105,110,32]++(T7 b a++(46::46::T7 c a))
def BU (a:Bool)(b c:Nat):Bs:=if a then[32,97,109,111,117,110,116,32]++(Yd b++(46::46::Yd c))else[]
def sd (a b:Bool)(l:List Bs):Bs:=[32,45,62,32]++(MK a b l++[59,10])
def ML (a r):Om a r=tZ r.name r.rank++(sb r.digits r.lo r.hi++(gJ [109,99,99] r.mcc++(BU r.am.isSome (r.am.getD (0,0)).1 (r.am.getD (0,0)).2++(gJ [99,117,114] r.cur++sd r.decline r.cheapest (r.routes.map (Z1 a)))))):=by
 have e:BU r.am.isSome (r.am.getD (0,0)).1 (r.am.getD (0,0)).2=aJ r.am:=by cases r.am<;>rfl
 rw[e];unfold Om tZ sb sd;rw[<-vN];simp
def PD (n d)(h:(Yd n).length<=d):(T7 n d).length=d:=by unfold T7;rw[lA,b7];omega
def Ks (f W b Bb l0 vr u nm)(rk Q lo hi:Nat)(g j R z)(a7 a8:Nat)(dc ch)(ah:Nat)(ma ca pa mc cc pc)(Y0:Bd W f.heap.size b l0)(Z0:Below f.heap.size f W)(G0:∀w',Below f.heap.size f w'->QL w')(H0:f.cell? ⟨Bb,0,Y⟩=I vr)(a1:f.ownsRow (Bb+1) 148 3 vr u.length (Ym u))(h6:u.length<=6)(I0:∀t,t∈u->t.name.size<=3000)(hm:f.ownsRow (Bb+1) 3 1 (U ma g.length mc) g.length (Zg g))(hc:f.ownsRow (Bb+1) 3 1 (U ca j.length cc) j.length (Zg j))(hp:f.ownsRow (Bb+1) 3 1 (U pa R.length pc) R.length (Zg R))(b1:nm.size<=3000)(J0:rk<1000000000)(n0:Q<=9)(r0:lo<1000000000/\(Yd lo).length<=Q)(t0:hi<1000000000/\(Yd hi).length<=Q)(v0:g.length<=4000/\∀x,x∈g->x<1000000000)(x0:j.length<=4000/\∀x,x∈j->x<1000000000)(o0:a7<1000000000/\a8<1000000000)(y0:R.length<=4000/\∀x,x∈R->x<u.length)(D1:l0.length<=1000000000):
  F K 60 #[z0 (I ⟨Bb,0,Y⟩),z0 (I ⟨b,0,Y⟩),Jd nm rk Q lo hi ma g.length mc z a7 a8 ca j.length cc dc ch pa R.length pc ah] W fun e w'=>e=H (.tuple #[])/\Bd w' f.heap.size b (l0++(tZ nm rk++(sb Q lo hi++(gJ [109,99,99] g++(BU z a7 a8++(gJ [99,117,114] j++sd dc ch (R.map (Z1 u))))))))/\Below f.heap.size f w':=by
 unfold Jd;have K0:=o G0
 have q0:E (∀(l:List Nat)(a:Option Addr)(c:Nat)(W:p5),Below f.heap.size f W->f.ownsRow (Bb+1) 3 1 (U a l.length c) l.length (Zg l)->0<l.length->l.length<=4000->(∀x,x∈l->x<1000000000)->F K 108 #[U a l.length c] W fun e w'=>e=H (V (ZS (Xk (l.map Yd))))/\F0 W w'):=
  fun l a c W hW ho h0 hl hx=>Oq W (Bb+1) _ l (oF (S:=fun _=>False) ho (Fr.of_below hW)) h0 hl hx (G0 W hW)
 have b0:E (∀W,Below f.heap.size f W->F K 109 #[z0 (I ⟨Bb,0,Y⟩),Jd nm rk Q lo hi ma g.length mc z a7 a8 ca j.length cc dc ch pa R.length pc ah] W fun e w'=>e=H (V (ZS (MK dc ch (R.map (Z1 u)))))/\F0 W w'):=fun W hW=>by
  have hF:F0 f W:=Fr.of_below hW;exact Nv W Bb vr u (Bb+1) R nm rk Q lo hi ma g.length mc z a7 a8 ca j.length cc dc ch pa pc ah ((hF.cell (p:=⟨Bb,0,Y⟩) (bL f _ H0)).trans H0) (oF a1 hF) (oF hp hF) y0.1 y0.2 I0 h6
 have HM:=o hm;have HC:=o hc;have L0:=o v0;have M0:=o x0
 have N0:E (∀x,x∈R.map (Z1 u)->x.length<=3000):=fun x hx=>by
  obtain⟨p,hp,rfl⟩:=z9.1 hx;unfold Z1
  cases hq:u[p]? with
  |none=>simp
  |some t=>have:=I0 t (mG hq);simpa using this
 have O0:(ZS (MK dc ch (R.map (Z1 u)))).size<=13000000:=by
  have h1:=Uo (R.map (Z1 u)) 3000 N0.o;rw[D]at h1;have h2:R.length*(3000+2)<=4000*3002:=p0 y0.1 az;rw[XW];unfold MK
  cases dc<;>cases ch<;>simp<;>omega
 have P0:(ZS (Xk (g.map Yd))).size<=100000:=by
  have h1:=Uo (g.map Yd) 21 (fun x hx=>by obtain⟨y,hy,rfl⟩:=z9.1 hx;exact XF y (v0.2 y hy));rw[D]at h1;rw[XW];omega
 have Q0:(ZS (Xk (j.map Yd))).size<=100000:=by
  have h1:=Uo (j.map Yd) 21 (fun x hx=>by obtain⟨y,hy,rfl⟩:=z9.1 hx;exact XF y (x0.2 y hy));rw[D]at h1;rw[XW];omega
 have c1:=XF _ J0;have R0:(ZS (Yd a7)).size<=21:=XF _ o0.1;have S0:(ZS (Yd a8)).size<=21:=XF _ o0.2
 have d1:(ZS (T7 lo Q)).size<=9:=by rw[XW,PD _ _ r0.2];exact n0
 have e1:(ZS (T7 hi Q)).size<=9:=by rw[XW,PD _ _ t0.2];exact n0
 have T0:=o Y0;have c0:=o Z0;have E1:=o J0;have F1:=o o0.1;have G1:=o o0.2;have H1:E (lo<1000000000/\Q<=9/\(Yd lo).length<=Q):=⟨r0.1,n0,r0.2⟩;have I1:E (hi<1000000000/\Q<=9/\(Yd hi).length<=Q):=⟨t0.1,n0,t0.2⟩;have f1:=v0.1;have g1:=x0.1;obtain⟨mn,A0⟩:=ad g.length;obtain⟨cn,B0⟩:=ad j.length;obtain⟨pn,V0⟩:=ad R.length;have d0:=o A0;have e0:=o B0;rw[A0]at HM b0 f1;rw[B0]at HC b0 g1;rw[V0]at b0;rw[A0,B0,V0];go_enter func60,ntmps60;go_upto_region 1 with fail;obtain⟨O,hO⟩:=ae (Obj.cells #[V nm,J P (rk:Nat),J P (Q:Nat),J P (lo:Nat),J P (hi:Nat),U ma mn mc,L z,J P (a7:Nat),J P (a8:Nat),U ca cn cc,L dc,L ch,U pa pn pc,J P (ah:Nat)] 120);rw[<-hO]
 have w:E (Wr f f.heap.size b l0 W.heap.size O (W.alloc O)):=
  ⟨T0.o.fr (Zo.alloc _),c0.o.trans (((Fr.refl (fun _=>False) W).alloc _).below c0.o.size),q6 c0.o.size aA,aN W _,Gi (c0.o.trans (((Fr.refl (fun _=>False) W).alloc _).below c0.o.size))⟩
 have i1:E (W.heap.size≠b):=by have:=T0.o.lt.2;show _≠_;omega
 generalize W.alloc _=W1 at*;generalize W.heap.size=X at*
 have B:E (∀l W,Wr f f.heap.size b l X O W->∀i v,(#[V nm,J P (rk:Nat),J P (Q:Nat),J P (lo:Nat),J P (hi:Nat),U ma mn mc,L z,J P (a7:Nat),J P (a8:Nat),U ca cn cc,L dc,L ch,U pa pn pc,J P (ah:Nat)]:Array m7)[i]?=I v->W.cell? ⟨X,i,Y⟩=I v):=fun l W h i v hv=>bC (hO▸h.ob) i v hv
 have HO:=o hO
 have HI:E (∀(l:List UInt8)(m:Nat)(W:p5),E (m<1000000000)->E (Wr f f.heap.size b l X O W)->F K 106 #[J P (m:Int)] W fun e w'=>e=H (V (ZS (Yd m)))/\E (Wr f f.heap.size b l X O w')):=
  fun l m W hm hZ=>(hZ.o.itoa K0.o m hm.o).mono fun e w' ⟨he,hz⟩=>⟨he,hz⟩
 have j1:E (∀(l:List UInt8)(m d:Nat)(W:p5),E (m<1000000000/\d<=9/\(Yd m).length<=d)->E (Wr f f.heap.size b l X O W)->F K 107 #[J P (m:Int),J P (d:Int)] W fun e w'=>e=H (V (ZS (T7 m d)))/\E (Wr f f.heap.size b l X O w')):=
  fun l m d W hm hZ=>(EB m d W (K0.o W hZ.o.be) hm.o.1 hm.o.2.1 hm.o.2.2).mono fun e w' ⟨he,hf⟩=>⟨he,hZ.o.fr hf⟩
 have HW:E (∀(l:List UInt8)(s:ByteArray)(W:p5),E (Wr f f.heap.size b l X O W)->l.length<=1100000000->s.size<=20000000->F K 105 #[z0 (I ⟨b,0,Y⟩),V s] W fun e w'=>e=H (.tuple #[J P s.size,.nilIface])/\E (Wr f f.heap.size b (l++s.data.toList) X O w')):=
  fun l s W hZ hl hs=>by obtain rfl:=HO.o;exact(hZ.o.write s az i1.o aB).mono fun e w' ⟨he,hz⟩=>⟨he,hz⟩
 have W0:=o (w.o.fr Zo.drew);have HS:=o (fun l W (h:Wr f f.heap.size b l X O W)=>And.intro (B.o l W h 0 _ rfl) (B.o l W h 1 _ rfl));have hS:=HS.o _ _ w.o;obtain⟨y1,C,z1,k1⟩:=XX ⟨#[114,117,108,101,32]⟩ nm 5 3000 aB b1 az;obtain⟨y2,a0,z2,k2⟩:=XX y1 ⟨#[32]⟩ _ 1 z1 aB az;obtain⟨y3,f0,z3,k3⟩:=XX y2 (ZS (Yd rk)) _ 21 z2 c1 az;obtain⟨y4,m1,z4,k4⟩:=XX y3 ⟨#[58]⟩ _ 1 z3 aB az
 go_region_held3 (fun W=>W.cell? ⟨X,0,Y⟩=I (V nm)/\W.cell? ⟨X,1,Y⟩=I (J P (rk:Nat))) (first|assumption|go_keep) (first
  |(go_at_call 106;refine(HI.o _ _ _ aG aG).mono ?_;rintro e w7 ⟨rfl,g0⟩;have i0:=HS.o _ _ g0.o)
  |(go_at_call 105;refine(HW.o _ _ _ aG az az).mono ?_;rintro e w7 ⟨rfl,k⟩;have i0:=HS.o _ _ k.o))
 have n:E (y4.data.toList=tZ nm rk):=by
  show _=_
  rw[m1.o,f0.o,a0.o,C.o];simp[tZ,ZS]
 obtain⟨l1,C0⟩:=ae (l0++y4.data.toList)
 have w1:l1.length<=1000010000:=by
  rw[C0,lA];have:y4.data.toList.length=y4.size:=aA;omega
 rw[<-C0]at k
 have n1:E (l1=l0++tZ nm rk):=by show _=_;rw[C0,n.o]
 have w:=k;generalize w7=W2 at*;go_upto_region 2 with fail;have W0:=o (w.o.fr Zo.drew);have HS:=o (fun l W (h:Wr f f.heap.size b l X O W)=>And.intro (B.o l W h 2 _ rfl) (And.intro (B.o l W h 3 _ rfl) (B.o l W h 4 _ rfl)));have hS:=HS.o _ _ w.o;obtain⟨y1,C,z1,k1⟩:=XX ⟨#[32,98,105,110,32]⟩ (ZS (T7 lo Q)) 5 9 aB d1 az;obtain⟨y2,a0,z2,k2⟩:=XX y1 ⟨#[46,46]⟩ _ 2 z1 aB az;obtain⟨y3,f0,z3,k3⟩:=XX y2 (ZS (T7 hi Q)) _ 9 z2 e1 az
 go_region_held3 (fun W=>W.cell? ⟨X,2,Y⟩=I (J P (Q:Nat))/\W.cell? ⟨X,3,Y⟩=I (J P (lo:Nat))/\W.cell? ⟨X,4,Y⟩=I (J P (hi:Nat))) (first|assumption|go_keep) (first
  |(go_at_call 107;refine(j1.o _ _ _ _ aG aG).mono ?_;rintro e w7 ⟨rfl,g0⟩;have i0:=HS.o _ _ g0.o)
  |(go_at_call 105;refine(HW.o _ _ _ aG az az).mono ?_;rintro e w7 ⟨rfl,k⟩;have i0:=HS.o _ _ k.o))
 have n:E (y3.data.toList=sb Q lo hi):=by
  show _=_
  rw[f0.o,a0.o,C.o];simp[sb,ZS]
 obtain⟨l2,r⟩:=ae (l1++y3.data.toList)
 have x1:l2.length<=1000020000:=by
  rw[r,lA];have:y3.data.toList.length=y3.size:=aA;omega
 rw[<-r]at k
 have o1:E (l2=l1++sb Q lo hi):=by show _=_;rw[r,n.o]
 have w:=k;generalize w7=W3 at*
 have D0:E (∀W,Below f.heap.size f W->0<mn->F K 108 #[U ma mn mc] W fun e w'=>e=H (V (ZS (Xk (g.map Yd))))/\F0 W w'):=fun W hW h0=>by
  have e:=q0.o g ma mc W hW (by rw[d0.o];exact HM.o) (by rw[d0.o];exact h0) L0.o.1 L0.o.2;rw[d0.o]at e;exact e
 obtain⟨bm,j0⟩:=ad (decide (0<mn))
 have X0:decide ((0:Int)<(mn:Int))=bm:=by rw[<-j0];by_cases hq:0<mn<;>simp[hq]<;>omega
 have k0:=o j0;have p1:W3.cell? ⟨X,5,Y⟩=I (U ma mn mc):=B.o _ _ w.o 5 _ rfl
 go_upto_if 37 with fail
 go_cut [] (fun wx=>E (Wr f f.heap.size b (l2++gJ [109,99,99] g) X O wx))
 case first=>
  cases bm with
  |true=>
   have h0:0<mn:=by have:=k0.o;simpa using this
   obtain⟨y1,C,z1,k1⟩:=XX ⟨#[32,109,99,99,32]⟩ (ZS (Xk (g.map Yd))) 5 100000 aB P0 az;go_wp2_with fail;refine(D0.o _ w.o.be h0).mono ?_;rintro e w4 ⟨rfl,hf⟩;have m0:=o (w.o.fr hf);go_wp2_with fail;refine(HW.o _ _ _ m0 az az).mono ?_;rintro e w5 ⟨rfl,k⟩
   have n:E (y1.data.toList=gJ [109,99,99] g):=by
    show _=_
    have E0:¬g=[]:=fun e=>by have:=d0.o;rw[e]at this;simp at this;omega
    rw[C.o];simp[gJ,ZS,E0]
   go_wp2;go_meet
   show Wr _ _ _ _ _ _ _
   have e:=k.o;rw[n.o]at e;exact e
  |false=>
   have h0:¬0<mn:=by have:=k0.o;simpa using this
   have n:E (gJ [109,99,99] g=[]):=by
    show _=_
    have he:g=[]:=q7.1 (aj d0.o);rw[he];rfl
   go_wp2;go_meet
   show Wr _ _ _ _ _ _ _
   rw[n.o,A];exact w.o
 have T:=hcut;obtain⟨l3,r⟩:=ae (l2++gJ [109,99,99] g)
 have A1:l3.length<=1000300000:=by
  rw[r,lA]
  have hg:(gJ [109,99,99] g).length<=200000:=by
   unfold gJ
   split
   ·simp
   rw[XW]at P0;simp only[Z,M,G];omega
  omega
 rw[<-r]at T;have w:=T;have q1:=o r;have J1:wc.cell? ⟨X,6,Y⟩=I (L z):=B.o _ _ w.o 6 _ rfl;generalize wc=W4 at*
 go_upto_if 45 with fail
 go_cut [] (fun wx=>E (Wr f f.heap.size b (l3++BU z a7 a8) X O wx))
 case first=>
  cases z with
  |true=>
   go_upto_region 6 with fail;have W0:=o (w.o.fr Zo.drew);have HS:=o (fun l W (h:Wr f f.heap.size b l X O W)=>And.intro (B.o l W h 7 _ rfl) (B.o l W h 8 _ rfl));have hS:=HS.o _ _ w.o;obtain⟨y1,C,z1,k1⟩:=XX ⟨#[32,97,109,111,117,110,116,32]⟩ (ZS (Yd a7)) 8 21 aB R0 az;obtain⟨y2,a0,z2,k2⟩:=XX y1 ⟨#[46,46]⟩ _ 2 z1 aB az;obtain⟨y3,f0,z3,k3⟩:=XX y2 (ZS (Yd a8)) _ 21 z2 S0 az
   go_region_held3 (fun W=>W.cell? ⟨X,7,Y⟩=I (J P (a7:Nat))/\W.cell? ⟨X,8,Y⟩=I (J P (a8:Nat))) (first|assumption|go_keep) (first
    |(go_at_call 106;refine(HI.o _ _ _ aG aG).mono ?_;rintro e w7 ⟨rfl,g0⟩;have i0:=HS.o _ _ g0.o)
    |(go_at_call 105;refine(HW.o _ _ _ aG az az).mono ?_;rintro e w7 ⟨rfl,k⟩;have i0:=HS.o _ _ k.o))
   have n:E (y3.data.toList=BU true a7 a8):=by
    show _=_
    rw[f0.o,a0.o,C.o];simp[BU,ZS]
   go_wp2;go_meet
   show Wr _ _ _ _ _ _ _
   have e:=k.o;rw[n.o]at e;exact e
  |false=>
   go_wp2;go_meet
   show Wr _ _ _ _ _ _ _
   rw[show BU false a7 a8=[]from rfl,A];exact w.o
 have T:=hcut;obtain⟨l4,r⟩:=ae (l3++BU z a7 a8)
 have B1:l4.length<=1000400000:=by
  rw[r,lA]
  have hg:(BU z a7 a8).length<=100:=by
   unfold BU;rw[XW]at R0 S0
   split
   ·simp only[Z,M,G];omega
   simp
  omega
 rw[<-r]at T;have w:=T;have r1:=o r;generalize wc=W5 at*
 have D0:E (∀W,Below f.heap.size f W->0<cn->F K 108 #[U ca cn cc] W fun e w'=>e=H (V (ZS (Xk (j.map Yd))))/\F0 W w'):=fun W hW h0=>by
  have e:=q0.o j ca cc W hW (by rw[e0.o];exact HC.o) (by rw[e0.o];exact h0) M0.o.1 M0.o.2;rw[e0.o]at e;exact e
 obtain⟨bm,j0⟩:=ad (decide (0<cn))
 have X0:decide ((0:Int)<(cn:Int))=bm:=by rw[<-j0];by_cases hq:0<cn<;>simp[hq]<;>omega
 have k0:=o j0;have p1:W5.cell? ⟨X,9,Y⟩=I (U ca cn cc):=B.o _ _ w.o 9 _ rfl
 go_upto_if 62 with fail
 go_cut [] (fun wx=>E (Wr f f.heap.size b (l4++gJ [99,117,114] j) X O wx))
 case first=>
  cases bm with
  |true=>
   have h0:0<cn:=by have:=k0.o;simpa using this
   obtain⟨y1,C,z1,k1⟩:=XX ⟨#[32,99,117,114,32]⟩ (ZS (Xk (j.map Yd))) 5 100000 aB Q0 az;go_wp2_with fail;refine(D0.o _ w.o.be h0).mono ?_;rintro e w4 ⟨rfl,hf⟩;have m0:=o (w.o.fr hf);go_wp2_with fail;refine(HW.o _ _ _ m0 az az).mono ?_;rintro e w5 ⟨rfl,k⟩
   have n:E (y1.data.toList=gJ [99,117,114] j):=by
    show _=_
    have E0:¬j=[]:=fun e=>by have:=e0.o;rw[e]at this;simp at this;omega
    rw[C.o];simp[gJ,ZS,E0]
   go_wp2;go_meet
   show Wr _ _ _ _ _ _ _
   have e:=k.o;rw[n.o]at e;exact e
  |false=>
   have h0:¬0<cn:=by have:=k0.o;simpa using this
   have n:E (gJ [99,117,114] j=[]):=by
    show _=_
    have he:j=[]:=q7.1 (aj e0.o);rw[he];rfl
   go_wp2;go_meet
   show Wr _ _ _ _ _ _ _
   rw[n.o,A];exact w.o
 have T:=hcut;obtain⟨l5,r⟩:=ae (l4++gJ [99,117,114] j)
 have C1:l5.length<=1000700000:=by
  rw[r,lA]
  have hg:(gJ [99,117,114] j).length<=200000:=by
   unfold gJ
   split
   ·simp
   rw[XW]at Q0;simp only[Z,M,G];omega
  omega
 rw[<-r]at T;have w:=T;have t1:=o r;generalize wc=W6 at*;obtain⟨y1,C,z1,k1⟩:=XX ⟨#[32,45,62,32]⟩ (ZS (MK dc ch (R.map (Z1 u)))) 4 13000000 aB O0 az;obtain⟨y2,a0,z2,k2⟩:=XX y1 ⟨#[59,10]⟩ _ 2 z1 aB az;have q:=B.o _ _ w.o;have s0:=q 0 _ rfl;have s1:=q 1 _ rfl;have s2:=q 2 _ rfl;have s3:=q 3 _ rfl;have s4:=q 4 _ rfl;have s5:=q 5 _ rfl;have s6:=q 6 _ rfl;have s7:=q 7 _ rfl;have s8:=q 8 _ rfl;have s9:=q 9 _ rfl;have K1:=q 10 _ rfl;have L1:=q 11 _ rfl;have M1:=q 12 _ rfl;have N1:=q 13 _ rfl;have v1:=o (b0.o W6 w.o.be);go_wp2_with fail;refine v1.o.mono ?_;rintro e w4 ⟨rfl,hf⟩;have m0:=o (w.o.fr hf);go_wp2_with fail;refine(HW.o _ _ _ m0 az az).mono ?_;rintro e w5 ⟨rfl,k⟩
 have n:E (y2.data.toList=sd dc ch (R.map (Z1 u))):=by
  show _=_
  rw[a0.o,C.o];simp[sd,ZS]
 go_wp2
 go_end0
 refine⟨rfl,?_,k.o.be⟩;have e:=k.o.bd;rw[n.o,t1.o,r1.o,q1.o,o1.o,n1.o]at e
 simpa using e
def TM.get {a:Nat}{w:p5}:∀{b:List Ze}{d:List m7}{j:Nat}{r:Ze},TM a w b d->b[j]?=I r->∃c,zH a w r c/\c.length=14/\∀o v,c[o]?=I v->d[j*14+o]?=I v
 |[],_,j,_,_,hj=>by simp at hj
 |r::b,d,0,r',⟨c,rest,e,h1,h2⟩,hj=>by
  simp at hj;subst hj
  have l:c.length=14:=by obtain⟨h,i,k,g,_⟩:=h1;rw[g];rfl
  refine⟨c,h1,l,fun o v f=>?_⟩;have:=(iG.1 f).1;rw[e,Nat.zero_mul,p4,y9 this];exact f
 |r::b,d,j+1,r',⟨c,rest,e,h1,h2⟩,hj=>by
  obtain⟨m,n,p,q⟩:=TM.get h2 (j:=j) (r:=r') (by simpa using hj)
  have l:c.length=14:=by obtain⟨h,i,k,g,_⟩:=h1;rw[g];rfl
  refine⟨m,n,p,fun o v f=>?_⟩;rw[e,aR z,l,show(j+1)*14+o-14=j*14+o from z];exact q o v f
def QM {w:p5}{b e d a n m c i}(h:w.ownsRow b e d (U a n c) m i):m<=c:=by
 rcases h.2 with⟨f,l⟩|⟨g,j,k,f,_,_,o,_⟩
 ·omega
 injection f with _ _ p;omega
def yF (b l)(f:b.length<=10)(g:l.length<=4000)(c:∀x,x∈l->x<1000000000):(gJ b l).length<=93000:=by
 have d:=Uo (l.map Yd) 21 (fun x a=>by obtain⟨y,e,rfl⟩:=z9.1 a;exact XF y (c y e));rw[D]at d;unfold gJ
 split
 ·simp
 simp only[Z,M];omega
def yG {a r}(h:Ts a.length r)(b:∀t,t∈a->t.name.size<=3000):(Om a r).length<=12300000:=by
 rw[ML];have g1:=yF [109,99,99] r.mcc y h.mc.1 h.mc.2;have g2:=yF [99,117,114] r.cur y h.cu.1 h.cu.2;have i:r.name.data.toList.length=r.name.size:=y;have j:=h.nm;have k:=XF _ h.rk;have l:=PD _ _ h.lo.2;have m:=PD _ _ h.hi.2;have n:=h.dg
 have o:(BU r.am.isSome (r.am.getD (0,0)).1 (r.am.getD (0,0)).2).length<=60:=by
  cases c:r.am with
  |none=>simp[BU]
  |some d=>
   have q:=XF _ (h.am d c).1;have s:=XF _ (h.am d c).2;simp[BU];omega
 have u:(sd r.decline r.cheapest (r.routes.map (Z1 a))).length<=12010000:=by
  have e:=Uo (r.routes.map (Z1 a)) 3000 (fun x f=>by
   obtain⟨p,v,rfl⟩:=z9.1 f;unfold Z1
   cases g:a[p]? with
   |none=>simp
   |some t=>have:=b t (mG g);simpa using this)
  rw[D]at e;have w:r.routes.length*(3000+2)<=4000*3002:=p0 h.pl.1 z;unfold sd MK
  cases r.decline<;>cases r.cheapest<;>simp<;>omega
 unfold tZ sb;simp only[Z,M,G];omega
def Cp {w W s b m n i a}(c:w.ownsRow (s+1) 148 3 (U i a.length n) a.length (Ym a))(u:Below w.heap.size w W)(h:m<=a.length):
  BT W w.heap.size (if n=b then i else Option.map (fun x=>x.add (b*3)) i) ((a.take m).drop b):=by
 intro j t d;rw[List.getElem?_drop,List.getElem?_take]at d
 split at d
 ·rename_i v;have y:=QM c;obtain⟨g,z,e,E,f,_⟩:=Ux c az;injection e with A _ F;subst A;obtain⟨B,C,D⟩:=T2 a (b+j) t d;have o:=c.cells (g:=g) rfl _ _ B;have q:=c.cells (g:=g) rfl _ _ C;have r:=c.cells (g:=g) rfl _ _ D;rw[Jc,p4]at o q r;have k:F0 w W:=Fr.of_below u;have l:b*3+j*3=(b+j)*3:=az;refine⟨g,b*3,?_,f,?_,?_,?_⟩
  ·rw[if_neg az];simp[Jc]
  ·rw[l];exact(k.cell (p:=⟨g,(b+j)*3,Y⟩) f).trans o
  ·rw[l];exact(k.cell (p:=⟨g,(b+j)*3+1,Y⟩) f).trans q
  rw[l];exact(k.cell (p:=⟨g,(b+j)*3+2,Y⟩) f).trans r
 cases d
def Wr.routes {w0 B b l X k T W}(h:Wr w0 B b l X (z8 k T) W)(p:∀f,Below B w0 f->QL f)(a n c d)(q:n=d.length)(r:BT W B a d)(g:∀t,t∈d->Kr t)(i:d.length<=6)(j:l.length<=100000000)(s:X≠b)(u:T≠5):
  F K 59 #[z0 (I ⟨b,0,Y⟩),U a n c] W fun e f=>e=H (.tuple #[])/\Wr w0 B b (l++d.flatMap UE) X (z8 k T) f:=by
 subst q
 exact(SQ W B b l a c d h.le h.bd (fun f v=>p f (h.be.trans v)) r g i j).mono fun e f ⟨w,x,m,o⟩=>⟨w,x,h.be.trans m,q6 h.le m.size,o X _ h.ob (by simpa using s) (fun c z e=>by injection e with _ y;exact u y),h.ok.trans o⟩
def BV (w Z vr vl c i xs)(O:Bk w Z vr vl c i xs)(ho:Yh c i)(Q:QL w):
    F K 33 #[z0 (I ⟨Z,0,Y⟩)] w fun e u=>e=H (V (ZS (VN c i)))/\F0 w u:=by
  have f0:E (∀u,Below w.heap.size w u->QL u):=fun u h=>Q.below (p3 _) h
  have R:=Za O;have HO:=Za ho;obtain⟨la,lc,L0⟩:=oL O.lo;obtain⟨ra,B,M0⟩:=oL O.ro;subst L0 M0;have r0:=Za (bL w _ O.c0);obtain⟨n,hn⟩:=ad i.length;have HN:=Za hn;obtain⟨s,g0⟩:=ad c.length;have z:=Za g0;have c0:=O.c0;have c1:=O.c1;rw[g0]at c0;rw[hn]at c1;have o1:n<=8:=aj O.l8;have p1:s<=6:=aj O.r6;clear O ho Q hn g0;go_enter func33,ntmps33;go_upto_region 2 with fail;have s0:=(WM w (z8 #[z0 Y,U Y 0 0] 116)).1;have t0:E (Bd (w.alloc (z8 #[z0 Y,U Y 0 0] 116)) w.heap.size w.heap.size []):=.inl ⟨p3 _,U Y 0 0,heap_alloc_new w _,World.ownsRowF_nil _ _ _ _,by simp[Value.ownBlock]⟩;generalize w.alloc _=W0 at*;have w0:=Za (s0.o.below (p3 _));obtain⟨b,hb⟩:=ad w.heap.size
  have N0:E (Bd W0 w.heap.size b []):=by rw[<-hb];exact t0.o
  rw[hb];clear t0 hb
  have h0:E (∀W,Below w.heap.size w W->W.cell? ⟨Z,0,Y⟩=I (U ra s B)):=fun W hW=>(Fr.cell (S:=fun _=>False) (Fr.of_below hW) (p:=⟨Z,0,Y⟩) r0.o).trans c0
  have d1:=(s0.o.cell (p:=⟨Z,1,Y⟩) r0.o).trans c1;clear c0 c1;go_wp2
  go_loopg [4,6,12] n (fun m td _ ix wr=>∃k d l,k<=n/\m=n-k/\ix=J P (k:Nat)/\td=J P (d:Nat)/\d<=s/\l.length<=k*12400000/\E (Bd wr w.heap.size b l)/\E (Below w.heap.size w wr)/\E (VN c i=l++Wq c d (i.drop k))/\E (BQ d (i.drop k)))
  case atStart=>exact⟨0,0,[],q0 _,rfl,rfl,rfl,q0 _,aA,N0,w0,rfl,HO.o.ah⟩
  obtain⟨k,d,l,O,rfl,rfl,rfl,q1,hl,i0,y,A0,B0⟩:=hrel;have c0:=h0.o wr y.o;by_cases r1:k<n
  · obtain⟨r,a0⟩:∃r,i[k]?=I r:=⟨_,gE (aj HN.o)⟩
    have q:=Za (HO.o.rl r (mG a0))
    have j0:E (i.drop k=r::i.drop (k+1)):=by
      show _=_
      have C0:=(iG.1 a0);rw[dC C0.1,C0.2]
    obtain⟨cs,⟨vm,vc,vp,D0,hm,hc,hp⟩,O0,E0⟩:=R.o.ru.get a0;obtain⟨gl,n1,el,s1,P0,_⟩:=Ux R.o.lo (aj HN.o);injection el with Q0 t1 R0;subst Q0 R0;obtain⟨ma,mc,e1⟩:=oL hm;obtain⟨ca,cc,e2⟩:=oL hc;obtain⟨pa,pc,e3⟩:=oL hp;subst e1 e2 e3
    have a:∀o v,cs[o]?=I v->wr.cell? ⟨gl,k*14+o,Y⟩=I v:=fun o v ho=>by
      have:=R.o.lo.cells (g:=gl) rfl _ _ (E0 o v ho);rw[Jc,p4]at this;exact(Fr.cell (S:=fun _=>False) (Fr.of_below y.o) (p:=⟨gl,k*14+o,Y⟩) P0).trans this
    rw[D0]at a;have v0:=a 0 _ rfl;have v1:=a 1 _ rfl;have v2:=a 2 _ rfl;have v3:=a 3 _ rfl;have v4:=a 4 _ rfl;have v5:=a 5 _ rfl;have v6:=a 6 _ rfl;have v7:=a 7 _ rfl;have v8:=a 8 _ rfl;have v9:=a 9 _ rfl;have S0:=a 10 _ rfl;have T0:=a 11 _ rfl;have V0:=a 12 _ rfl;have X0:=a 13 _ rfl;rw[Nat.add_zero]at v0;have Y0:=af k n;clear a E0 O0 D0 a0;go_upto_region 6 with fail;have G0:=Za y.o.size
    have HZ:E (Wr w w.heap.size b l wr.heap.size (z8 #[V r.name,J P r.rank,J P r.digits,J P r.lo,J P r.hi,U ma r.mcc.length mc,L r.am.isSome,J P (r.am.getD (0,0)).1,J P (r.am.getD (0,0)).2,U ca r.cur.length cc,L r.decline,L r.cheapest,U pa r.routes.length pc,J P r.ahead] 120) (wr.alloc (z8 #[V r.name,J P r.rank,J P r.digits,J P r.lo,J P r.hi,U ma r.mcc.length mc,L r.am.isSome,J P (r.am.getD (0,0)).1,J P (r.am.getD (0,0)).2,U ca r.cur.length cc,L r.decline,L r.cheapest,U pa r.routes.length pc,J P r.ahead] 120))):=
      ⟨i0.o.fr (Zo.alloc _),y.o.trans (((Fr.refl (fun _=>False) wr).alloc _).below G0.o),q6 G0.o aA,aN wr _,yD (Gi y.o) (Zo.alloc _)⟩
    have Z0:E (wr.heap.size≠b):=by have:=i0.o.lt.2;show _≠_;omega
    have w1:E (Jd r.name r.rank r.digits r.lo r.hi ma r.mcc.length mc r.am.isSome (r.am.getD (0,0)).1 (r.am.getD (0,0)).2 ca r.cur.length cc r.decline r.cheapest pa r.routes.length pc r.ahead=.agg #[V r.name,J P r.rank,J P r.digits,J P r.lo,J P r.hi,U ma r.mcc.length mc,L r.am.isSome,J P (r.am.getD (0,0)).1,J P (r.am.getD (0,0)).2,U ca r.cur.length cc,L r.decline,L r.cheapest,U pa r.routes.length pc,J P r.ahead]):=rfl;obtain⟨j,b0⟩:=ae r.ahead;have l0:=Za b0
    have y1:d<=j:=by have:=B0.o;rw[j0.o]at this;rw[b0];exact this.1
    have z1:j<=s:=ak q.o.ah z.o;have a1:s<=B:=ak (QM R.o.ro) z.o;have i1:(0:Int)<=(d:Int):=az;have i2:(d:Int)<=(j:Int):=az;have i3:(j:Int)<=(B:Int):=az;generalize wr.alloc _=W1 at*;generalize wr.heap.size=X at*
    have b1:W1.cell? ⟨X,13,Y⟩=I (J P (j:Nat)):=by rw[b0];exact Zc HZ.o.ob 13
    have y0:=h0.o W1 HZ.o.be;clear v0 v1 v2 v3 v4 v5 v6 v7 v8 v9 S0 T0 V0 X0 c0 b0
    have C:E (((c.take j).drop d).length=j-d):=by have:=z.o;show _=_;rw[c8,b5];omega
    have A:E (∀t,t∈(c.take j).drop d->Kr t):=fun t Q=>HO.o.rt t (p7 (b9 Q))
    obtain⟨T,G⟩:=ad (if B=d then ra else Option.map (fun x=>x.add (d*3)) ra)
    have m0:E (∀W,Below w.heap.size w W->BT W w.heap.size T ((c.take j).drop d)):=fun W hW=>by rw[<-G];exact Cp R.o.ro hW (aj z.o)
    have n0:E (∀W,E (Wr w w.heap.size b l X (z8 #[V r.name,J P r.rank,J P r.digits,J P r.lo,J P r.hi,U ma r.mcc.length mc,L r.am.isSome,J P (r.am.getD (0,0)).1,J P (r.am.getD (0,0)).2,U ca r.cur.length cc,L r.decline,L r.cheapest,U pa r.routes.length pc,J P r.ahead] 120) W)->
        F K 59 #[z0 (I ⟨b,0,Y⟩),U T (j-d) (B-d)] W fun e u=>e=H (.tuple #[])/\E (Wr w w.heap.size b (l++((c.take j).drop d).flatMap UE) X (z8 #[V r.name,J P r.rank,J P r.digits,J P r.lo,J P r.hi,U ma r.mcc.length mc,L r.am.isSome,J P (r.am.getD (0,0)).1,J P (r.am.getD (0,0)).2,U ca r.cur.length cc,L r.decline,L r.cheapest,U pa r.routes.length pc,J P r.ahead] 120) u)/\(u.cell? ⟨Z,0,Y⟩=I (U ra s B)/\u.cell? ⟨X,13,Y⟩=I (J P (j:Nat)))):=fun W hZ=>
      (hZ.o.routes f0.o _ _ _ _ C.o.symm (m0.o W hZ.o.be) A.o (aj C.o) az Z0.o aB).mono fun e u ⟨he,hz⟩=>⟨he,hz,h0.o _ hz.be,by rw[l0.o];exact Zc hz.ob 13⟩
    have A1:=Za (HZ.o.fr Zo.drew);clear HZ
    go_region_held3 (fun W=>W.cell? ⟨Z,0,Y⟩=I (U ra s B)/\W.cell? ⟨X,13,Y⟩=I (J P (j:Nat))) (first|assumption|go_keep) (first
      |(go_at_call 59;refine(n0.o _ aG).mono ?_;rintro e w7 ⟨rfl,f,f1⟩))
    have x0:=Zc f.o.ob 0;have x1:=Zc f.o.ob 1;have x2:=Zc f.o.ob 2;have x3:=Zc f.o.ob 3;have x4:=Zc f.o.ob 4;have x5:=Zc f.o.ob 5;have x6:=Zc f.o.ob 6;have x7:=Zc f.o.ob 7;have x8:=Zc f.o.ob 8;have x9:=Zc f.o.ob 9;have g1:=Zc f.o.ob 10;have j1:=Zc f.o.ob 11;have k1:=Zc f.o.ob 12;obtain⟨_,H0⟩:=f1
    have I0:E (l.length+(((c.take j).drop d).flatMap UE).length+(Om c r).length<=(k+1)*12400000):=by
      have h1:=Cn ((c.take j).drop d) A.o;have h2:=C.o;have h3:=yG q.o (fun t Q=>(HO.o.rt t Q).1);have h4:((c.take j).drop d).length*3060<=6*3060:=p0 az (p3 _)
      show _<=_
      omega
    have l1:E (F K 60 #[z0 (I ⟨Z,0,Y⟩),z0 (I ⟨b,0,Y⟩),.agg #[V r.name,J P r.rank,J P r.digits,J P r.lo,J P r.hi,U ma r.mcc.length mc,L r.am.isSome,J P (r.am.getD (0,0)).1,J P (r.am.getD (0,0)).2,U ca r.cur.length cc,L r.decline,L r.cheapest,U pa r.routes.length pc,J P (j:Nat)]] w7 fun e u=>e=H (.tuple #[])/\Bd u w.heap.size b ((l++((c.take j).drop d).flatMap UE)++Om c r)/\Below w.heap.size w u):=by
      have h:=Ks w w7 b Z (l++((c.take j).drop d).flatMap UE) (U ra c.length B) c r.name r.rank r.digits r.lo r.hi r.mcc r.cur r.routes r.am.isSome (r.am.getD (0,0)).1 (r.am.getD (0,0)).2 r.decline r.cheapest j ma ca pa mc cc pc f.o.bd f.o.be f0.o R.o.c0 R.o.ro R.o.r6 (fun t Q=>(HO.o.rt t Q).1) hm hc hp q.o.nm q.o.rk q.o.dg q.o.lo q.o.hi q.o.mc q.o.cu
        (by cases ha:r.am with
          |none=>simp
          |some ab=>simpa using q.o.am ab ha) q.o.pl (by rw[lA];have:=I0.o;omega)
      rw[<-ML]at h;exact h
    clear G i1 i2 i3 hm hc hp b1 y0;go_wp2_with fail;refine l1.o.mono ?_;rintro e w9 ⟨rfl,D,M⟩;have o0:=Za D;have d0:=Za M;clear D M x0 x1 x2 x3 x4 x5 x6 x7 x8 x9 g1 j1 k1 H0;go_wp2;go_roundg (n-(k+1))
    case measure=>omega
    refine⟨k+1,j,(l++((c.take j).drop d).flatMap UE)++Om c r,az,rfl,aE,rfl,az,by(have:=I0.o;rw[lA,lA];omega),o0,d0,?_,?_⟩
    · show _=_
      rw[A0.o,j0.o,Wq,<-l0.o];simp only[N]
    have e:=B0.o;rw[j0.o]at e
    show BQ _ _
    rw[l0.o];exact e.2
  have Y0:=ai k n;have ek:k=n:=az;obtain⟨T,G⟩:=ad (if B=d then ra else Option.map (fun x=>x.add (d*3)) ra)
  have C:E (((c.take s).drop d).length=s-d):=by have:=z.o;show _=_;rw[c8,b5];omega
  have A:E (∀t,t∈(c.take s).drop d->Kr t):=fun t Q=>HO.o.rt t (p7 (b9 Q))
  have m0:E (BT wr w.heap.size T ((c.take s).drop d)):=by show BT _ _ _ _;rw[<-G];exact Cp R.o.ro y.o (aj z.o)
  have n0:E (F K 59 #[z0 (I ⟨b,0,Y⟩),U T (s-d) (B-d)] wr fun e u=>e=H (.tuple #[])/\Bd u w.heap.size b (l++((c.take s).drop d).flatMap UE)/\Below w.heap.size wr u/\Lib.OthersKept 5 (I b) wr u):=by
    have h:=SQ wr w.heap.size b l T (B-d) ((c.take s).drop d) y.o.size i0.o (fun u hw=>f0.o u (y.o.trans hw)) m0.o A.o (aj C.o) az;rw[C.o]at h;exact h
  have J0:E (VN c i=l++((c.take s).drop d).flatMap UE):=by
    have e:=A0.o;rw[dL (aj HN.o)]at e
    show _=_
    rw[e,k0 (aj z.o)];rfl
  have a1:s<=B:=ak (QM R.o.ro) z.o;have i1:(0:Int)<=(d:Int):=az;have i2:(d:Int)<=(s:Int):=az;have i3:(s:Int)<=(B:Int):=az;clear ek;go_wp2_with fail;refine n0.o.mono ?_;rintro e w9 ⟨rfl,D,M,_⟩
  have o0:E (Bd w9 w.heap.size b (VN c i)):=by rw[<-J0.o]at D;exact D
  have d0:=Za (y.o.trans M);clear D M G c0;go_wp2_with fail;refine(Gf w.heap.size b (VN c i) w9 o0.o d0.o.size).mono ?_;rintro e m1 ⟨rfl,e0⟩;have K0:E (F0 w m1):=Fr.of_below (d0.o.trans e0);clear e0;go_wp2;go_ret;exact⟨rfl,K0.o⟩
