import Derived.Test.YtccikgogjfbpeaaGreatDoorBd
import Derived.Test.YtccikgogjfbpeaaGreatDoorBc
open List renaming mem_append->I,map_append->P
open Nat renaming strongRecOn->J
namespace Go.Proofs.YtccikgogjfbpeaaGreatDoor
set_option maxRecDepth 30000
set_option maxHeartbeats 8000000
open Go.RowKit
def uy (t:Tk):Prop:=t.sort=0->Ww t.text=true
theorem yc {s k}(h:k<s.size)(a:ZJ (ZC s k)=true)(g:Y7 (s.extract k (k+ZM Zq s k))=false)(q:¬8<ZM Zq s k):Ww (s.extract k (k+ZM Zq s k))=true:=by
 have i:=XH Zq s k h (by simp[Zq,a]);have r:=We Zq s k (by omega);have l:=SM s k (k+ZM Zq s k) 0 (by omega)
 have m:(s.extract k (k+ZM Zq s k)).size=ZM Zq s k:=by simp;omega
 unfold Ww;rw[g,l,Nat.add_zero,a,m];simp only[Bool.not_false,Bool.true_and,Bool.and_eq_true,decide_eq_true_eq,List.all_eq_true];refine⟨i,by omega,fun c b=>?_⟩;rw[Lib.extract_data]at b;obtain⟨j,n,e⟩:=List.getElem_of_mem b;rw[List.getElem_take,List.getElem_drop]at e;obtain⟨d,f,o⟩:=R9 Zq (s.data.toList.drop k) j (by show j<ZM Zq s k;simp at n;omega);rw[List.getElem?_drop]at f;obtain⟨_,p⟩:=iG.1 f;rw[<-e,p];exact o
theorem BJ {s k a k' t}(h:k<s.size)(b:Zs s k a=.tok t k'):uy t:=by
 unfold Zs at b
 repeat' split at b
 all_goals first|contradiction|(injection b with c d;subst c;first|(intro e;simp at e;done)|exact fun _=>yc h (by assumption) (by simpa using‹¬Y7 _=true›) (by assumption))
theorem uz {s}:∀n k a c ts,s.size-k=n->(∀t,t∈c->uy t)->ZK s k a c=.ok ts->∀t,t∈ts->uy t:=by
 intro n
 induction n using J with
 |ind n i=>
  intro k a c ts j g h;by_cases d:k<s.size
  ·cases f:Zs s k a with
   |skip k' l'=>
    rw[YH d f]at h;have:=X1 d f;exact i (s.size-k') (by omega) k' l' c ts rfl g h
   |tok t k'=>
    rw[WE d f]at h;have:=WD d f;refine i (s.size-k') (by omega) k' a (c++[t]) ts rfl (fun u b=>?_) h;rcases I.1 b with b|b
    ·exact g u b
    simp at b;subst b;exact BJ d f
   |bad=>rw[Xp d f]at h;cases h
  rw[WF d]at h
  injection h with h;subst h;intro u b;rcases I.1 b with b|b
  ·exact g u b
  simp at b;subst b;exact fun e=>by simp at e
def xH:Vr->Prop
 | .route e=>Ww e.name.text=true
 | .rule e=>Ww e.name.text=true/\(e.act.decline=true\/1<=e.act.routes.length)
theorem yd {ts c}:∀m i b l k,ts.length-i=m->XT ts i c b=.ok (l,k)->b.length<=l.length:=by
 intro m
 induction m using J with
 |ind m f=>
  intro i b l k o a;rw[XT]at a
  split at a
  ·rename_i g
   have h:=Um g
   split at a
   ·cases a
   rename_i t d j
   have e:=(Ys j).2.2;have:=f (ts.length-d) (by omega) d _ l k rfl a;simp at this;omega
  injection a with a
  injection a with n p;subst n;omega
theorem ye {ts i a l k}(h:Xk ts i a=.ok (l,k)):1<=l.length:=by
 rw[Qa]at h;obtain⟨t,j,_,b⟩:=bI h;exact yd _ j [t] l k rfl b
theorem xI {ts}(h:∀t,t∈ts->uy t){i e k}(g:ZU ts i=.ok (e,k)):xH e:=by
 have n:∀{i:Nat}{t:Tk}{k:Nat},Z8 ts i 0=.ok (t,k)->Ww t.text=true:=fun{i t k} o=>by
  obtain⟨rfl,d,_⟩:=Ys o;unfold Zo at d ⊢;rw[gD]at d ⊢
  cases m:ts[i]? with
  |none=>rw[m]at d;simp at d
  |some t=>rw[m]at d;exact h t (mG m) d
 unfold ZU at g
 split at g
 ·obtain⟨r,j,f,d⟩:=bI g
  injection d with d;injection d with d _;subst d;unfold WG at f;obtain⟨a,q,g1,f⟩:=bI f;obtain⟨b,p,g2,f⟩:=bI f;obtain⟨c,s,g3,f⟩:=bI f;injection f with f;injection f with f _;subst f;exact n g1
 obtain⟨_,j,f,g⟩:=bI g
 obtain⟨r,p,d,g⟩:=bI g;injection g with g;injection g with g _;subst g;unfold Wg at d;obtain⟨a,_,g1,d⟩:=bI d
 iterate 8 obtain⟨_,_,_,d⟩:=bI d
 obtain⟨b,_,g2,d⟩:=bI d;injection d with d;injection d with d _;subst d;refine⟨n g1,?_⟩;unfold Xh at g2
 split at g2
 ·injection g2 with g2;injection g2 with g2 _;subst g2;exact .inl rfl
 split at g2
 all_goals
  obtain⟨l,j,g3,g2⟩:=bI g2;injection g2 with g2;injection g2 with g2 _;subst g2;exact .inr (ye g3)
theorem xJ {ts}(h:∀t,t∈ts->uy t):∀m i c g k,ts.length-i=m->(∀x,x∈c->xH x)->Zr ts i c=.ok (g,k)->∀x,x∈g->xH x:=by
 intro m
 induction m using J with
 |ind m p=>
  intro i c g k s n a;by_cases d:(Zo ts i).sort=3
  ·rw[XA d]at a
   injection a with a;injection a with a _;subst a;exact n
  cases f:ZU ts i with
  |error l=>rw[YJ d f]at a;cases a
  |ok r=>
   obtain⟨e,j⟩:=r
   cases b:ZE ts j Va with
   |error l=>rw[Y8 d f b]at a;cases a
   |ok r=>
    obtain⟨u,o⟩:=r;rw[X3 d f b]at a;have v:=WV f;have w:=Yt b
    have y:i<ts.length:=Nat.lt_of_not_le fun q=>d (by unfold Zo;rw[gD,List.getElem?_eq_none q];rfl)
    refine p (ts.length-o) (by omega) o _ g k rfl (fun x b=>?_) a;rcases I.1 b with b|b
    ·exact n x b
    simp at b;subst b;exact xI h f
theorem DK {rs:List Zf}:∀(l:List Tk)(i:Nat)(ns:List Nat),i<=4->Zw rs i l=.ok ns->i+ns.length<=4/\ns.length=l.length
 |[],i,ns,hi,h=>by
  simp only[Zw]at h;injection h with h;subst h
  simpa using hi
 |t::r,i,ns,hi,h=>by
  simp only[Zw]at h
  split at h
  ·cases h
  split at h
  ·cases h
  cases a:Zw rs (i+1) r with
  |error f=>rw[a]at h;cases h
  |ok b=>
   rw[a]at h;injection h with h;subst h;have:=DK r (i+1) b (by omega) a;simp;omega
theorem Rg:∀{l:List ByteArray},YV l->∀(i j:Nat)(a b:ByteArray),l[i]?=some a->l[j]?=some b->j<i->(a.toList==b.toList)=false
 |x::xs,h,0,j,_,_,_,_,hl=>by omega
 |x::xs,h,i+1,0,a,b,hi,c,_=>by
  injection c with c;subst c;exact h.1 a (mG (l:=xs) (i:=i) (by simpa using hi))
 |x::xs,h,i+1,j+1,a,b,hi,c,hl=>Rg h.2 i j a b (by simpa using hi) (by simpa using c) (by omega)
structure yg (rts:List Zf)(R:List Ze):Prop where
 rt:∀t,t∈rts->Ww t.name=true/\t.base<=1000000/\t.rate<=1000
 rn:YV (rts.map Zf.name)
 ru:∀r,r∈R->Ww r.name=true/\(r.decline=true\/1<=r.routes.length/\r.routes.length<=4)
 un:YV (R.map Ze.name)
theorem J3:∀(c:List Vr)(rts:List Zf)(b:List Ze)(p:List Zf×List Ze),yg rts b->(∀x,x∈c->xH x)->ZR rts b c=.ok p->yg p.1 p.2
 |[],rts,b,p,hB,_,h=>by
  simp only[ZR]at h;injection h with h;subst h;exact hB
 | .route e::c,rts,b,p,hB,ho,h=>by
  have i:=ho (.route e) (by simp)
  cases a:ZD rts e with
  |error f=>rw[YR (f:=f) (by simp only[Vs,a])]at h;cases h
  |ok t=>
   rw[Xm (p:=(rts++[t],b)) (by simp only[Vs,a])]at h;unfold ZD at a
   split at a
   ·cases a
   split at a
   ·cases a
   rename_i j
   split at a
   ·cases a
   split at a
   ·cases a
   injection a with a;subst a;refine J3 c _ b p ⟨fun u d=>?_,?_,hB.ru,hB.un⟩ (fun x k=>ho x (by simp[k])) h
   ·rcases I.1 d with d|d
    ·exact hB.rt u d
    simp at d;subst d;exact⟨i,by dsimp only;omega,by dsimp only;omega⟩
   rw[P]
   exact Tz hB.rn (Bool.eq_false_iff.2 fun a=>j ((Px e.name.text rts 0).2 a))
 | .rule e::c,rts,b,p,hB,ho,h=>by
  have i:=ho (.rule e) (by simp)
  cases a:Z7 rts b e with
  |error f=>rw[YR (f:=f) (by simp only[Vs,a])]at h;cases h
  |ok t=>
   rw[Xm (p:=(rts,b++[t])) (by simp only[Vs,a])]at h
   obtain⟨l,m,j,n⟩:t.name=e.name.text/\t.decline=e.act.decline/\XG e.name.text b=false/\Zw rts 0 e.act.routes=.ok t.routes:=by
    unfold Z7 at a
    repeat' split at a
    all_goals first|contradiction|(injection a with a;subst a;exact⟨rfl,rfl,by simp_all,by assumption⟩)
   have o:=DK _ 0 _ (by omega) n;refine J3 c rts _ p ⟨hB.rt,hB.rn,fun r g=>?_,?_⟩ (fun x k=>ho x (by simp[k])) h
   ·rcases I.1 g with g|g
    ·exact hB.ru r g
    simp at g
    subst g;rw[l,m];exact⟨i.1,i.2.imp id fun h=>by omega⟩
   rw[P]
   refine Tz hB.un ?_;rw[l,<-Oc];exact j
theorem yh {s p}(h:XE s=.ok p):yg p.1 p.2:=by
 unfold XE at h
 split at h
 ·cases h
 cases a:ZK s 0 1 []with
 |error l=>rw[a]at h;cases h
 |ok ts=>
  rw[a]at h
  dsimp only at h
  cases b:Zr ts 0 []with
  |error l=>rw[b]at h;cases h
  |ok r=>
   rw[b]at h;exact J3 _ [] [] p ⟨by simp,trivial,by simp,trivial⟩ (xJ (uz _ 0 1 [] ts rfl (by simp) a) _ 0 [] _ _ rfl (by simp) b) h
theorem J4 {rts R}(b:Yx rts R)(c:∀r,r∈R->Td r)(hi:yg rts R):(Wc rts R).Wr/\(XF (Wc rts R)).length<=100000:=by
 have d:=zZ b (fun r a=>⟨(c r a).m4,(c r a).mx,(c r a).c4,(c r a).cx,fun f e=>⟨(c r a).am f e,Nat.le_of_lt ((b.rl r a).am f e).2⟩,(hi.ru r a).2,(b.rl r a).pl.2⟩) hi.rt (fun r a=>(hi.ru r a).1)
  (by rw[La (Rg hi.rn),La (Rg hi.un)];rfl)
 refine⟨d,ya d (fun l g=>?_) (GD b)⟩;obtain⟨m,h,rfl⟩:=List.mem_map.1 g;have i:=Sg R m (X6 R.length (Zx (Zv R) R.length))
 have j:(X6 R.length (Zx (Zv R) R.length)).length=R.length:=by simp[X6]
 have k:=b.l8;omega
