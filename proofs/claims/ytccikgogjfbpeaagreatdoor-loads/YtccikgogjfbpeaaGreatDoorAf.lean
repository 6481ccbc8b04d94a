import Derived.Test.YtccikgogjfbpeaaGreatDoorAb
open Option renaming some->I,none->S
open List renaming append_nil->J,append_assoc->P
namespace Go.Proofs.YtccikgogjfbpeaaGreatDoor
set_option maxRecDepth 30000
set_option maxHeartbeats 8000000
inductive In where
 |rules|mccs|amounts|curs|ints|names|action|NAME|INT
 |lit (m:ByteArray)
def Pv:List In:=[.lit WU,.NAME,.INT,.INT,.lit Va,.rules]
def Nv:List In:=[.lit Ub,.NAME,.INT,.lit Tv,.lit RD,.INT,.lit V8,.INT,.mccs,.amounts,.curs,.lit T5,.action,.lit Va,.rules]
def Yv (s:In)(t:Tk):Option (List In):=
 match s with
 | .rules=>I (if Zn t WU then Pv else if Zn t Ub then Nv else[])
 | .mccs=>I (if Zn t W7 then[.lit W7,.INT,.ints]else[])
 | .amounts=>I (if Zn t Z6 then[.lit Z6,.INT,.lit V8,.INT]else[])
 | .curs=>I (if Zn t Vw then[.lit Vw,.INT,.ints]else[])
 | .ints=>I (if Zn t Y1 then[.lit Y1,.INT,.ints]else[])
 | .names=>I (if Zn t Y1 then[.lit Y1,.NAME,.names]else[])
 | .action=>I (if Zn t YL then[.lit YL]else if Zn t Yi then[.lit Yi,.NAME,.names]else[.NAME,.names])
 |_=>S
def UW (s:In)(t:Tk):Bool:=
 match s with
 | .NAME=>decide (t.sort=0)
 | .INT=>decide (t.sort=1)
 | .lit m=>Zn t m
 |_=>false
def YI (ts:List Tk):Nat->List In->Nat->Option (Option Nat)
 |_,[],i=>I (if(Zo ts i).sort=3 then S else I i)
 |0,_::_,_=>S
 |m+1,s::rest,i=>match Yv s (Zo ts i)with
  |some l=>YI ts m (l++rest) i
  |none=>if UW s (Zo ts i)then YI ts m rest (i+1)else I (I i)
section
variable {ts:List Tk}
theorem Th (m i):YI ts m [] i=I (if(Zo ts i).sort=3 then S else I i):=by cases m<;>rfl
def Nw (ts:List Tk)(a:List In)(i:Nat)(r:Option Nat):Prop:=∃m,YI ts m a i=I r
theorem Uo {s a l i r}(h:Yv s (Zo ts i)=I l)(b:Nw ts (l++a) i r):Nw ts (s::a) i r:=by
 obtain⟨m,c⟩:=b;exact⟨m+1,by simp only[YI,h];exact c⟩
theorem QF {s a i r}(h:Yv s (Zo ts i)=S)(b:UW s (Zo ts i)=true)(c:Nw ts a (i+1) r):Nw ts (s::a) i r:=by
 obtain⟨m,d⟩:=c;exact⟨m+1,by simp only[YI,h,b,if_true];exact d⟩
theorem Io {s a i}(h:Yv s (Zo ts i)=S)(b:UW s (Zo ts i)=false):Nw ts (s::a) i (I i):=
 ⟨1,by simp only[YI,h,b];rfl⟩
def Ah (ts:List Tk)(a:List In)(i l:Nat):Prop:=∃j,Nw ts a i (I j)/\(Zo ts j).line=l
structure Yf {α:Type}(ts:List Tk)(st:List In)(p:Except Nat (α×Nat))(i:Nat):Prop where
 err:∀rest l,p=.error l->Ah ts (st++rest) i l
 ok:∀rest a j r,p=.ok (a,j)->Nw ts rest j r->Nw ts (st++rest) i r
theorem VM {α}(a:α)(i):Yf ts [] (.ok (a,i)) i:=
 ⟨fun _ _ h=>(by cases h),fun b d j r h c=>by injection h with h;injection h with _ h;subst h;exact c⟩
theorem ZF {α β st1 st2 p}{f:α->Nat->Except Nat (β×Nat)}{i}(e:Yf ts st1 p i)(m:∀a j,p=.ok (a,j)->Yf ts st2 (f a j) j):Yf ts (st1++st2) (YT p f) i:=by
 constructor
 ·intro c l h
  cases d:p with
  |error l'=>
   rw[d]at h
   have n:l'=l:=by injection h
   subst n;rw[P];exact e.err _ _ d
  |ok r=>
   obtain⟨a,j⟩:=r;rw[d]at h;obtain⟨o,g,q⟩:=(m a j d).err c l h;rw[P];exact⟨o,e.ok _ a j _ d g,q⟩
 intro c b k r h g
 obtain⟨a,j,d,s⟩:=bI h;rw[P];exact e.ok _ a j _ d ((m a j d).ok c b k r s g)
theorem XV {α β b p}{g:α->β}{i}(c:Yf ts b p i):Yf ts b (YT p fun a i=>.ok (g a,i)) i:=by
 have h:=ZF (st2:=[]) (f:=fun a i=>(.ok (g a,i):Except Nat (β×Nat))) c (fun a j _=>VM (g a) j)
 rwa [J]at h
theorem Xq {α s l}{p:Except Nat (α×Nat)}{i}(e:Yv s (Zo ts i)=I l)(h:Yf ts l p i):Yf ts [s] p i:=by
 constructor
 ·intro b f c
  obtain⟨j,d,g⟩:=h.err b f c;exact⟨j,Uo e d,g⟩
 intro b a j r c d
 exact Uo e (h.ok b a j r c d)
theorem QG (i b s)(d:∀t,Yv s t=S)(e:∀t,UW s t=decide (t.sort=b)):Yf ts [s] (Z8 ts i b) i:=by
 constructor
 ·intro c l h
  unfold Z8 at h
  split at h
  ·cases h
  rename_i f
  injection h with h;exact⟨i,Io (d _) (by rw[e];simpa using f),h⟩
 intro c a j r h g
 obtain⟨rfl,k,rfl⟩:=Ys h;exact QF (d _) (by rw[e];simpa using k) g
theorem UF (i):Yf ts [.NAME] (Z8 ts i 0) i:=QG i 0 .NAME (fun _=>rfl) (fun _=>rfl)
theorem WK (i):Yf ts [.INT] (Z8 ts i 1) i:=QG i 1 .INT (fun _=>rfl) (fun _=>rfl)
theorem XW (i m):Yf ts [.lit m] (ZE ts i m) i:=by
 constructor
 ·intro b l h
  unfold ZE at h
  split at h
  ·cases h
  rename_i c
  injection h with h;exact⟨i,Io rfl (by show Zn _ _=false;simpa using c),h⟩
 intro b a j r h d
 unfold ZE at h
 split at h
 ·rename_i e
  injection h with h;injection h with _ h;subst h;exact QF rfl e d
 cases h
theorem Wl {α e}{p:Except Nat (α×Nat)}{i m}(f:Zn (Zo ts i) m=true)(h:Yf ts e p (i+1)):Yf ts (.lit m::e) p i:=by
 constructor
 ·intro b l c
  obtain⟨j,d,g⟩:=h.err b l c;exact⟨j,QF rfl f d,g⟩
 intro b a j r c d
 exact QF rfl f (h.ok b a j r c d)
theorem QH (c f p)(u:∀t,Yv f t=I (if Zn t Y1 then[.lit Y1,p,f]else[]))(q:∀i,Yf ts [p] (Z8 ts i c) i):
  ∀n i g,ts.length-i=n->Yf ts [f] (XT ts i c g) i:=by
 intro n
 induction n using Nat.strongRecOn with
 |ind n v=>
  intro i g z;rw[XT]
  split
  ·rename_i k
   have w:=Um k;refine Xq (l:=[.lit Y1,p,f]) (by rw[u,if_pos k]) (Wl k ?_)
   cases m:Z8 ts (i+1) c with
   |error l=>
    constructor
    ·intro b l' h
     have:=(q (i+1)).err (f::b) l' (by rw[m];simpa using h);exact this
    intro b a j r h
    simp at h
   |ok r=>
    obtain⟨t,o⟩:=r;have e:=(Ys m).2.2;have d:=v (ts.length-o) (by omega) o (g++[t]) rfl
    constructor
    ·intro b l h
     simp only at h;obtain⟨x,s,y⟩:=d.err b l h;exact⟨x,(q (i+1)).ok (f::b) t o _ m s,y⟩
    intro b a j r h s
    simp only at h;exact(q (i+1)).ok (f::b) t o _ m (d.ok b a j r h s)
  rename_i k
  refine Xq (l:=[]) (by rw[u,if_neg k]) (VM _ _)
theorem Qa (i a):Xk ts i a=YT (Z8 ts i a) fun t b=>XT ts b a [t]:=by
 unfold Xk YT
 cases Z8 ts i a with
 |error l=>rfl
 |ok r=>rfl
theorem Jj (i):Yf ts [.INT,.ints] (Xk ts i 1) i:=by
 rw[Qa];exact ZF (st1:=[.INT]) (WK i) (fun a j _=>QH 1 .ints .INT (fun _=>rfl) WK _ j [a] rfl)
theorem RH (i):Yf ts [.NAME,.names] (Xk ts i 0) i:=by
 rw[Qa];exact ZF (st1:=[.NAME]) (UF i) (fun a j _=>QH 0 .names .NAME (fun _=>rfl) UF _ j [a] rfl)
theorem Sq (i kw b)(c:∀t,Yv b t=I (if Zn t kw then[.lit kw,.INT,.ints]else[])):Yf ts [b] (Xg ts i kw) i:=by
 unfold Xg
 split
 ·rename_i a
  exact Xq (l:=[.lit kw,.INT,.ints]) (by rw[c,if_pos a]) (Wl a (Jj (i+1)))
 rename_i a
 exact Xq (l:=[]) (by rw[c,if_neg a]) (VM _ _)
theorem QI (i):Yf ts [.INT,.lit V8,.INT] (UR ts i) i:=by
 rw[WH]
 exact ZF (st1:=[.INT]) (WK i) fun a j _=>ZF (st1:=[.lit V8]) (XW j V8) fun _ k _=>XV (WK k)
theorem OE (i):Yf ts [.amounts] (Wp ts i Z6) i:=by
 unfold Wp
 split
 ·rename_i a
  exact Xq (l:=[.lit Z6,.INT,.lit V8,.INT]) (by show I (if _ then _ else _)=_;rw[if_pos a]) (Wl a (XV (QI (i+1))))
 rename_i a
 exact Xq (l:=[]) (by show I (if _ then _ else _)=_;rw[if_neg a]) (VM _ _)
theorem Nx (i):Yf ts [.action] (Xh ts i) i:=by
 unfold Xh
 split
 ·rename_i b
  exact Xq (l:=[.lit YL]) (by show I (if _ then _ else _)=_;rw[if_pos b]) (Wl b (VM _ _))
 rename_i b
 split
 ·rename_i a
  exact Xq (l:=[.lit Yi,.NAME,.names]) (by show I (if _ then _ else _)=_;rw[if_neg b,if_pos a]) (Wl a (XV (RH (i+1))))
 rename_i a
 exact Xq (l:=[.NAME,.names]) (by show I (if _ then _ else _)=_;rw[if_neg b,if_neg a]) (XV (RH i))
theorem Ls (i):Yf ts [.NAME,.INT,.INT] (WG ts i) i:=by
 unfold WG
 exact ZF (st1:=[.NAME]) (UF i) fun _ j _=>ZF (st1:=[.INT]) (WK j) fun _ k _=>XV (WK k)
theorem Jk (i):Yf ts [.NAME,.INT,.lit Tv,.lit RD,.INT,.lit V8,.INT,.mccs,.amounts,.curs,.lit T5,.action] (Wg ts i) i:=by
 unfold Wg
 exact ZF (st1:=[.NAME]) (UF i) fun _ i _=>ZF (st1:=[.INT]) (WK i) fun _ i _=>
  ZF (st1:=[.lit Tv]) (XW i Tv) fun _ i _=>ZF (st1:=[.lit RD]) (XW i RD) fun _ i _=>
  ZF (st1:=[.INT,.lit V8,.INT]) (QI i) fun _ i _=>ZF (st1:=[.mccs]) (Sq i W7 .mccs (fun _=>rfl)) fun _ i _=>
  ZF (st1:=[.amounts]) (OE i) fun _ i _=>ZF (st1:=[.curs]) (Sq i Vw .curs (fun _=>rfl)) fun _ i _=>
  ZF (st1:=[.lit T5]) (XW i T5) fun _ i _=>XV (Nx i)
theorem Lt:∀n i a,ts.length-i=n->
  (∀s j,Zr ts i a=.ok (s,j)->Nw ts [.rules] i S)/\(∀l,Zr ts i a=.error l->Ah ts [.rules] i l):=by
 intro n
 induction n using Nat.strongRecOn with
 |ind n A=>
  intro i a D;by_cases c:(Zo ts i).sort=3
  ·have g:Nw ts [.rules] i S:=by
    have B:∀m,Zn (Zo ts i) m=false:=fun m=>by simp[Zn,c]
    refine Uo (l:=[]) (by simp[Yv,B]) ⟨0,?_⟩;rw[J,Th,if_pos c]
   rw[XA c];exact⟨fun _ _ _=>g,fun _ h=>by cases h⟩
  have E:i<ts.length:=by
   rcases Nat.lt_or_ge i ts.length with y|y
   ·exact y
   exfalso
   apply c;unfold Zo;rw[gD,List.getElem?_eq_none y];rfl
  have d:∀(z:List In),Yv .rules (Zo ts i)=I (z++[.lit Va,.rules])->Yf ts z (ZU ts i) i->
    (∀s j,Zr ts i a=.ok (s,j)->Nw ts [.rules] i S)/\(∀l,Zr ts i a=.error l->Ah ts [.rules] i l):=by
   intro z w x
   cases b:ZU ts i with
   |error l=>
    rw[YJ c b];refine⟨fun _ _ h=>(by cases h),fun l' h=>?_⟩;injection h with h;subst h;obtain⟨j,g,t⟩:=x.err [.lit Va,.rules] l b;exact⟨j,Uo w (by rw[J];exact g),t⟩
   |ok r=>
    obtain⟨e,j⟩:=r;have C:=WV b
    cases q:ZE ts j Va with
    |error l=>
     rw[Y8 c b q];refine⟨fun _ _ h=>(by cases h),fun l' h=>?_⟩;injection h with h;subst h;obtain⟨v,g,t⟩:=(XW j Va).err [.rules] l q;exact⟨v,Uo w (by rw[J];exact x.ok _ e j _ b g),t⟩
    |ok r=>
     obtain⟨u,k⟩:=r;rw[X3 c b q];have F:=Yt q;have f:=A (ts.length-k) (by omega) k (a++[e]) rfl;refine⟨fun s v h=>?_,fun l h=>?_⟩
     ·exact Uo w (by rw[J];exact x.ok _ e j _ b ((XW j Va).ok [.rules] u k _ q (f.1 s v h)))
     obtain⟨v,g,t⟩:=f.2 l h
     exact⟨v,Uo w (by rw[J];exact x.ok _ e j _ b ((XW j Va).ok [.rules] u k _ q g)),t⟩
  by_cases o:Zn (Zo ts i) WU=true
  ·refine d [.lit WU,.NAME,.INT,.INT] (by show I (if _ then _ else _)=_;rw[if_pos o];rfl) ?_
   unfold ZU;rw[if_pos o];exact Wl o (XV (Ls (i+1)))
  by_cases p:Zn (Zo ts i) Ub=true
  ·refine d [.lit Ub,.NAME,.INT,.lit Tv,.lit RD,.INT,.lit V8,.INT,.mccs,.amounts,.curs,.lit T5,.action] (by show I (if _ then _ else _)=_;rw[if_neg o,if_pos p];rfl) ?_
   unfold ZU;rw[if_neg o]
   exact ZF (st1:=[.lit Ub]) (XW i Ub) fun _ j _=>XV (Jk j)
  have b:ZU ts i=.error (Zo ts i).line:=by
   unfold ZU;rw[if_neg o];unfold ZE;rw[if_neg p];rfl
  rw[YJ c b];refine⟨fun _ _ h=>(by cases h),fun l h=>?_⟩;injection h with h;subst h;refine⟨i,Uo (l:=[]) (by show I (if _ then _ else _)=_;rw[if_neg o,if_neg p]) ⟨0,?_⟩,rfl⟩;rw[J,Th,if_neg c]
end
