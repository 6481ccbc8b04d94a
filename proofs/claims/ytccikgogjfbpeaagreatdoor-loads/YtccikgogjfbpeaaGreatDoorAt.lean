import Derived.Test.YtccikgogjfbpeaaGreatDoorAs
import Derived.Lib.AppendStr
open Option renaming some->I,none->P
open List renaming append_assoc->J,length_append->Y,take_of_length_le->N,mem_append->z5,length_map->z6,map_append->z7,length_pos_iff->y4,flatMap_append->y5,take_add_one->y7,getElem?_map->y8,length_cons->x4,all_eq_true->x5,nil_append->x6,mem_cons->x9,mem_map->q0
open Go.Value renaming pointer->V,int->U,slice->E,string->z2,slice->x3,oneCell'->x7,agg->q1
open Go.Proofs.Tryz renaming prog->Z
open Go.RowKit renaming Hid->O
open Go.IntKind renaming i64->H,u8->x8,u8->q4,signed->q5,wrap->q6,bits->q7,i64->q8
open Go.Obj renaming cells->D
open Go.AllReadyH renaming nil->G
open Go renaming Calls->M,World->z3,Value->q3
open Nat renaming le_of_eq->C,le_refl->F,zero_le->z1,pow_le_pow_right->z9,le_trans->y6,pow_pos->y9,zero_add->q2
open Go.Ending renaming returned->z4
open Or renaming inl->z8
namespace Go.Proofs.YtccikgogjfbpeaaGreatDoor
set_option maxRecDepth 30000
set_option maxHeartbeats 8000000

theorem Rh:∀(n:Nat)(l:List Nat),l.Nodup->(∀x,x∈l->x<n)->l.length<=n
 |0,[],_,_=>F _
 |0,x::l,_,h=>by have:=h x (by simp);omega
 |n+1,l,hd,h=>by
  have e:=Rh n (l.erase n) (hd.erase n) (fun x c=>by
   have b:=(hd.mem_erase_iff).1 c;have:=h x b.2;have:=b.1
   omega)
  have:=List.le_length_erase (a:=n) (l:=l);omega
def wH (R:List Ze)(a:List Nat):Prop:=a.Nodup/\∀m,m∈a->m<2^R.length/\∃c,∀i r,R[i]?=I r->(m.testBit i=true↔RQ r.digits r.lo r.hi c)
theorem EC {a m x}(h:x∈Wy a m):x∈a\/x=m:=by
 unfold Wy at h
 split at h
 ·exact .inl h
 simpa using h
theorem DM {R:List Ze}{f:Nat->List Nat->Tr×List Nat}(b:∀d a,d<10->wH R a->wH R (f d a).2):∀(k:Nat)(a:List Nat),k<=10->wH R a->wH R (YB f k a).2
 |0,_,_,h=>h
 |k+1,a,hk,h=>b k _ (by omega) (DM b k a (by omega) h)
theorem GC {R q met op}(h:met<2^R.length):(YA q op 0 R (met,0)).1<2^R.length:=by
 apply Nat.lt_pow_two_of_testBit;intro j b
 cases c:(YA q op 0 R (met,0)).1.testBit j with
 |false=>rfl
 |true=>
  rcases(QZ R 0 (met,0) j).1.1 c with a|⟨r,_,d,_⟩
  ·rw[Nat.testBit_lt_two_pow (nL h (z9 (by decide) b))]at a
   cases a
  have:=(iG.1 d).1
  omega
theorem DN {R:List Ze}(c:∀r,r∈R->Q0 r):∀(n:Nat)(q:Z5)(met op:Nat)(b:List Nat),7<=n+q.d->q.d<=6->Sg R q met op->met<2^R.length->wH R b->wH R (ZH R n q met op b).2
 |0,q,_,_,_,hn,hq,_,_,_=>by omega
 |n+1,q,met,op,b,hn,hq,hk,a,hg=>by
  have e:=Ma c hq hk;simp only[ZH]
  split
  ·rename_i f
   refine⟨JC hg.1,fun x g=>?_⟩;rcases EC g with g|rfl
   ·exact hg.2 x g
   refine⟨GC a,q.x*10^(6-q.d),fun i r k=>?_⟩
   have l:YT q (q.x*10^(6-q.d)):=Nat.mul_div_cancel _ (y9 (by decide))
   constructor
   ·intro a;exact(e i r k).1 a _ l
   intro hi
   cases a:(YA q op 0 R (met,0)).1.testBit i with
   |true=>rfl
   |false=>exact absurd hi ((e i r k).2 a (by rw[f];simp) _ l)
  rename_i f
  have h:=Sh c f;exact DM (fun d j m o=>DN c n (q.longer d) _ _ j (by show 7<=n+(q.d+1);omega) (by show q.d+1<=6;omega) (Q4 h m e) (GC a) o) 10 b (F _) hg
theorem Vt (r:Ze)(c):RQ r.digits r.lo r.hi c↔r.lo*10^(6-r.digits)<=c/\c<(r.hi+1)*10^(6-r.digits):=by
 have a:0<10^(6-r.digits):=y9 (by decide);unfold RQ;rw[Nat.le_div_iff_mul_le a,<-Nat.div_lt_iff_lt_mul a,Nat.lt_succ_iff]
theorem few {R}(u:R.length<=8){ps}(h:wH R ps):ps.length<=255:=by
 by_cases A:R.length<=7
 ·have:2^R.length<=2^7:=z9 (by decide) A
  have:=Rh 128 ps h.1 (fun x f=>by have:=(h.2 x f).1;omega);omega
 have u:R.length=8:=by omega
 have k:∀x,x∈ps->x<256:=fun x f=>by have:=(h.2 x f).1;rw[u]at this;exact this
 have d:∀m,m<256->m∉ps->ps.length<=255:=fun m B C=>by
  have:=Rh 256 (m::ps) (List.nodup_cons.2 ⟨C,h.1⟩) (fun x f=>by
   rcases x9.1 f with rfl|f
   ·exact B
   exact k x f)
  simp at this;omega
 by_cases v:7∈ps
 ·by_cases w:3∈ps
  ·by_cases y:5∈ps
   ·by_cases z:6∈ps
    ·exfalso
     obtain⟨_,l,n⟩:=h.2 7 v;obtain⟨_,o,p⟩:=h.2 3 w;obtain⟨_,q,r⟩:=h.2 5 y;obtain⟨_,s,t⟩:=h.2 6 z;have g:R[0]?=I (R[0]'(by omega)):=gE _;have i:R[1]?=I (R[1]'(by omega)):=gE _;have j:R[2]?=I (R[2]'(by omega)):=gE _;generalize R[0]'(by omega)=a at g;generalize R[1]'(by omega)=b at i;generalize R[2]'(by omega)=c at j;have D:=(Vt a l).1 ((n 0 a g).1 (by decide));have E:=(Vt b l).1 ((n 1 b i).1 (by decide));have F:=(Vt c l).1 ((n 2 c j).1 (by decide));have G:=(Vt a o).1 ((p 0 a g).1 (by decide));have H:=(Vt b o).1 ((p 1 b i).1 (by decide))
     have J:¬_:=fun e=>absurd ((p 2 c j).2 ((Vt c o).2 e)) (by decide)
     have K:=(Vt a q).1 ((r 0 a g).1 (by decide))
     have L:¬_:=fun e=>absurd ((r 1 b i).2 ((Vt b q).2 e)) (by decide)
     have M:=(Vt c q).1 ((r 2 c j).1 (by decide))
     have N:¬_:=fun e=>absurd ((t 0 a g).2 ((Vt a s).2 e)) (by decide)
     have O:=(Vt b s).1 ((t 1 b i).1 (by decide));have P:=(Vt c s).1 ((t 2 c j).1 (by decide));generalize a.lo*10^(6-a.digits)=Q at*;generalize(a.hi+1)*10^(6-a.digits)=S at*;generalize b.lo*10^(6-b.digits)=T at*;generalize(b.hi+1)*10^(6-b.digits)=U at*;generalize c.lo*10^(6-c.digits)=V at*;generalize(c.hi+1)*10^(6-c.digits)=W at*;omega
    exact d 6 (by decide) z
   exact d 5 (by decide) y
  exact d 3 (by decide) w
 exact d 7 (by decide) v
theorem KW {m n:Nat}(h:m<=n):∀(t:Tr),t.lows m->t.lows n
 | .leaf _,ht=>nL ht h
 | .node k,ht=>fun d a=>KW h (k d) (ht d a)
theorem KX {f:Nat->List Nat->Tr×List Nat}(b:∀d a,∃s,(f d a).2=a++s)(c:∀d a,(f d a).1.lows (f d a).2.length):∀(k:Nat)(a:List Nat)(d:Nat),d<k->((YB f k a).1 d).lows (YB f k a).2.length
 |0,_,_,hd=>by omega
 |k+1,a,d,hd=>by
  by_cases e:d=k
  ·subst e
   simp only[YB,if_true];exact c d _
  simp only[YB,if_neg e]
  obtain⟨s,g⟩:=b k (YB f k a).2;rw[g];exact KW (by simp) _ (KX b c k a d (by omega))
theorem KY {R:List Ze}(c:∀r,r∈R->Q0 r):∀(n:Nat)(q:Z5)(met op:Nat)(b:List Nat),7<=n+q.d->q.d<=6->(ZH R n q met op b).1.lows (ZH R n q met op b).2.length
 |0,q,_,_,_,hn,hq=>by omega
 |n+1,q,met,op,b,hn,hq=>by
  simp only[ZH]
  split
  ·exact(iG.1 (Kp _ _)).1
  rename_i e
  have f:=Sh c e
  exact fun d g=>KX (fun d a=>Mb R n _ _ _ a) (fun d a=>KY c n (q.longer d) _ _ a (by show 7<=n+(q.d+1);omega) (by show q.d+1<=6;omega)) 10 b d g
theorem T4 {α:Type}{W:α->List UInt8}{B:Nat}:∀(l:List α),(∀x,x∈l->(W x).length<=B)->(l.flatMap W).length<=l.length*B
 |[],_=>by simp
 |x::l,h=>by
  have b:=h x (by simp);have c:=T4 l (fun y a=>h y (by simp[a]));rw[List.flatMap_cons,lA,x4,Nat.add_mul,Nat.one_mul];omega
def yc (l:List Zl):Prop:=∀k s,l[k]?=I s->k+s.skip<l.length
theorem GD {l r}(b:∀k s,l[k]?=I s->k+s.skip<l.length+r.length)(c:yc r):yc (l++r):=by
 intro k s a;rw[lA];by_cases d:k<l.length
 ·rw[List.getElem?_append_left d]at a
  exact b k s a
 rw[aR (by omega)]at a
 have:=c _ _ a;omega
theorem ED {m:Nat}:∀{l:List Zl}{a k:Nat}{s:Zl},(ZO m a l)[k]?=I s->∃x,l[k]?=I x/\s={x with skip:=m-(a+k)+1}
 |[],_,_,_,h=>by simp[ZO]at h
 |x::r,a,0,s,h=>by
  simp[ZO]at h;exact⟨x,by simp,by rw[<-h];simp⟩
 |x::r,a,k+1,s,h=>by
  simp only[ZO,List.getElem?_cons_succ]at h;obtain⟨y,b,c⟩:=ED h;exact⟨y,by simpa using b,by rw[c,show a+1+k=a+(k+1)from by omega]⟩
theorem GE (i r):(UK i r).skip=0:=by
 unfold UK
 split
 ·rfl
 split<;>rfl
theorem M6 {s}(h:s.skip=0):yc [s]:=fun k x a=>by
 cases k with
 |zero=>simp at a;subst a;simp[h]
 |succ k=>simp at a
theorem M7 (R:List Ze)(met:Nat):∀L:List Nat,yc (ZJ R met L)/\1<=(ZJ R met L).length
 |[]=>⟨M6 rfl,by simp[ZJ]⟩
 |i::L=>by
  have b:=M7 R met L;simp only[ZJ]
  split
  ·cases d:R[i]? with
   |none=>exact b
   |some r=>
    dsimp only
    split
    ·exact⟨M6 (GE i r),by simp⟩
    refine⟨GD (fun k s a=>?_) ?_,by simp;omega⟩
    ·have c:=(iG.1 a).1
     unfold Si at a c ⊢;rw[VJ]at c ⊢;obtain⟨x,_,e⟩:=ED a;subst e;simp only[x4];have:=b.2;omega
    exact GD (l:=[UK i r]) (fun k s a=>by have:=M6 (GE i r) k s a;simp at this ⊢;omega) b.1
  exact b
theorem yd {l}(h:yc l):OF l=true:=by
 unfold OF;rw[x5];intro k _
 cases a:l[k]? with
 |none=>rfl
 |some s=>simpa using h k s a
structure sr (nr:Nat)(r:Ze):Prop where
 m4:r.mcc.length<=4
 mx:∀x,x∈r.mcc->x<=9999
 c4:r.cur.length<=4
 cx:∀x,x∈r.cur->x<=999
 am:∀ab,r.am=I ab->ab.1<=ab.2/\ab.2<=1000000000
 ac:r.decline=true\/1<=r.routes.length/\r.routes.length<=4
 pl:∀x,x∈r.routes->x<nr
theorem GF {R:List Ze}{f:Nat}(q:∀r,r∈R->sr f r)(met:Nat):∀(L:List Nat)(s:Zl),s∈ZJ R met L->vW f R.length s
 |[],s,h=>by
  simp[ZJ]at h;exact .inr (.inr (.inr (.inr h)))
 |i::L,s,h=>by
  have g:=GF q met L s;simp only[ZJ]at h
  split at h
  ·cases d:R[i]? with
   |none=>rw[d]at h;exact g h
   |some r=>
    rw[d]at h
    dsimp only at h
    have b:=q r (mG d);have hi:=(iG.1 d).1
    have t:vW f R.length (UK i r):=by
     unfold UK
     split
     ·exact .inr (.inr (.inl ⟨i,rfl,hi⟩))
     rename_i v
     rcases b.ac with c|⟨c,u⟩
     ·exact absurd c v
     split
     ·exact .inr (.inr (.inr (.inl ⟨5,_,i,.inr rfl,rfl,hi,c,u,b.pl⟩)))
     exact .inr (.inr (.inr (.inl ⟨4,_,i,.inl rfl,rfl,hi,c,u,b.pl⟩)))
    split at h
    ·simp at h
     subst h;exact t
    rcases z5.1 h with h|h
    ·obtain⟨k,w,e⟩:=List.getElem_of_mem h
     have j:=gE w;rw[e]at j;unfold Si at j;obtain⟨x,c,y⟩:=ED j;have z:=Tp r;have l:=mG c
     have a:1<=(Z6 r).length-(0+k)+1/\(Z6 r).length-(0+k)+1<=255:=by omega
     generalize(Z6 r).length-(0+k)+1=m at*;subst y;unfold Z6 at l;rw[z5,z5]at l;rcases l with e|e|e
     ·split at e
      ·cases e
      rename_i n
      simp at e;subst e;exact .inl ⟨0,9999,r.mcc,m,.inl ⟨rfl,rfl⟩,rfl,a.1,a.2,y4.2 n,b.m4,b.mx⟩
     ·cases o:r.am with
      |none=>rw[o]at e;cases e
      |some p=>
       rw[o]at e;simp at e;subst e;exact .inr (.inl ⟨p.1,p.2,m,rfl,a.1,a.2,b.am p o⟩)
     split at e
     ·cases e
     rename_i n
     simp at e;subst e;exact .inl ⟨2,999,r.cur,m,.inr ⟨rfl,rfl⟩,rfl,a.1,a.2,y4.2 n,b.c4,b.cx⟩
    rcases x9.1 h with rfl|h
    ·exact t
    exact g h
  exact g h
theorem BK {l}(h:l.length<=4):(Tw l).length<=9:=by
 unfold Tw;have:=T4 (W:=ZA 2) (B:=2) l (fun x _=>by rw[Zi];omega);rw[lA,Zi];omega
theorem BL {c d s}(h:vW c d s):(Y1 s).length<=11:=by
 have e:s.nums.length<=4:=by
  rcases h with⟨f,hi,l,k,a,rfl,g,i,m,b,n⟩|⟨x,y,k,rfl,g,i,o,q⟩|⟨j,rfl,p⟩|⟨f,l,j,a,rfl,p,m,b,n⟩|rfl
  ·exact b
  ·simp
  ·simp
  ·exact b
  simp
 have:=BK e;unfold Y1;rw[lA,Zi]
 split
 ·rw[lA,Zi];omega
 split
 ·simp only[Y,Zi];omega
 split
 ·rw[Zi];omega
 split
 ·rw[lA,Zi];omega
 simp
def Wh (rts:List Zf)(R:List Ze):LR:=⟨rts,R.map Ze.name,(ZH R 7 ⟨0,0⟩ 0 (2^R.length-1) []).2.map fun m=>ZJ R m (Wb R.length (Zx (Zv R) R.length)),(ZH R 7 ⟨0,0⟩ 0 (2^R.length-1) []).1⟩
theorem ye {rts R}(a:Yy rts R):wH R (ZH R 7 ⟨0,0⟩ 0 (2^R.length-1) []).2:=
 DN (R:=R) (fun r b=>⟨(a.rl r b).bn.1,(a.rl r b).bn.2.1⟩) 7 ⟨0,0⟩ 0 (2^R.length-1) [] (by simp) (by simp) (PU R) (y9 (by decide)) ⟨List.nodup_nil,by simp⟩
theorem M8 {rts R}(a:Yy rts R):(ZH R 7 ⟨0,0⟩ 0 (2^R.length-1) []).1.lows (ZH R 7 ⟨0,0⟩ 0 (2^R.length-1) []).2.length:=
 KY (R:=R) (fun r b=>⟨(a.rl r b).bn.1,(a.rl r b).bn.2.1⟩) 7 ⟨0,0⟩ 0 (2^R.length-1) [] (by simp) (by simp)
theorem GG {n:Nat}:∀(t:Tr),t.lows n->0<n
 | .leaf _,h=>Nat.lt_of_le_of_lt (z1 _) h
 | .node k,h=>GG (k 0) (h 0 (by decide))
theorem yg {rts R}(a:Yy rts R)(d:∀r,r∈R->sr rts.length r)(e:∀r,r∈rts->WC r.name=true/\r.base<=1000000/\r.rate<=1000)(f:∀r,r∈R->WC r.name=true)(g:(YO (rts.map Zf.name)&&YO (R.map Ze.name))=true):(Wh rts R).Wr:=by
 refine⟨a.r6,e,by unfold Wh;simpa using a.l8,fun s b=>?_,g,?_,fun l h=>?_,Mw a,?_⟩
 ·obtain⟨r,i,rfl⟩:=q0.1 b
  exact f r i
 ·unfold Wh
  dsimp only
  rw[z6];exact⟨GG _ (M8 a),few a.l8 (ye a)⟩
 ·obtain⟨m,j,rfl⟩:=q0.1 h
  have k:=Sl R m (Wb R.length (Zx (Zv R) R.length))
  have n:(Wb R.length (Zx (Zv R) R.length)).length=R.length:=by simp[Wb]
  have o:=a.l8;have c:=M7 R m (Wb R.length (Zx (Zv R) R.length));refine⟨c.2,by omega,fun s b=>?_,yd c.1⟩;have:=GF d m _ s b;unfold Wh
  dsimp only
  rw[z6];exact this
 unfold Wh
 dsimp only
 rw[z6];exact M8 a
theorem KZ {s}(h:WC s=true):(WD s).length<=9:=by
 have:=M5 h;unfold WD;rw[lA,Zi];simp;omega
theorem yh {t}(h:t.Wr)(a:∀l,l∈t.prs->l.length<=33)(d:t.root.wr.length<=1111):(XH t).length<=100000:=by
 have e:=T4 (W:=WV) (B:=17) t.rts (fun r c=>by have:=KZ (h.rt r c).1;unfold WV;simp only[Y,Zi];omega);have f:=T4 (W:=WD) (B:=9) t.nms (fun s a=>KZ (h.nm s a))
 have g:=T4 (W:=Tb) (B:=364) t.prs (fun l b=>by
  have:=T4 (W:=Y1) (B:=11) l (fun s a=>BL ((h.pr l b).2.2.1 s a));have:=a l b;unfold Tb;rw[lA,Zi]
  omega)
 have:=h.r6;have:=h.n8;have:=h.pl;unfold XH;simp only[Y,Zi];omega
theorem DO {s:ByteArray}:∀(l:List ByteArray)(i k:Nat),l[k]?=I s->(∀j x,j<k->l[j]?=I x->(s.toList==x.toList)=false)->UB s i l=((i+k:Nat):Int)
 |[],_,_,h,_=>by simp at h
 |x::r,i,0,h,_=>by
  simp at h;subst h;simp[UB]
 |x::r,i,k+1,h,hn=>by
  rw[UB,if_neg (by rw[hn 0 x (by omega) rfl];simp),DO r (i+1) k (by simpa using h) (fun j y b a=>hn (j+1) y (by omega) (by simpa using a))]
  congr 1
  omega
theorem M9 {l}(h:∀(i j:Nat) a b,l[i]?=I a->l[j]?=I b->j<i->(a.toList==b.toList)=false):YO l=true:=by
 unfold YO;rw[x5];intro k _
 cases c:l[k]? with
 |none=>rfl
 |some s=>
  dsimp only
  rw[DO l 0 k c (fun j x d e=>h k j s x c e d)];simp
open Go.RowKit
def Ri (l:List UInt8):List q3:=l.map fun c=>U x8 (c.toNat:Nat)
theorem strCells_eq (s):Lib.strCells s=Ri s.data.toList:=by
 unfold Ri;simp[Lib.strCells]
structure Y7 (w:z3)(B:Nat)(l:List UInt8):Prop where
 bx:∃v,w.heap[B]?=I (D #[v] 145)/\w.ownsRow (B+1) 5 1 v l.length (Ri l)
 sz:l.length<=1000000
theorem R9:(Z.info? 5).map (fun i=>(i.zero,i.size,i.bytes))=I (I (U x8 0),1,1):=by kernel_rfl
def su (w:z3)(B k:Nat):Prop:=k=B\/(B<k/\∃a,w.heap[k]?=I (D a 5))
def Wf (w:z3)(B:Nat)(w':z3):Prop:=Fr (su w B) w w'
theorem Wf.of {w w' B}(h:F0 w w'):Wf w B w':=Fr.mono h
theorem Wf.trans {w a w2 B}(b:Wf w B a)(d:Wf a B w2):Wf w B w2:=by
 refine Fr.monoNew b d (fun k f=>?_);by_cases g:k<w.heap.size
 ·by_cases c:su w B k
  ·exact .inl c
  refine .inl ?_
  rcases f with e|⟨h,i,j⟩
  ·exact .inl e
  exact .inr ⟨h,i,by
   have e:=Fr.block b k g c;rw[<-e]
   exact j⟩
 exact .inr (by omega)
theorem Wf.up {w w' B}(h:Wf w B w'):Fr (fun k=>B<=k) w w':=Fr.mono h (fun k a=>by rcases a with e|⟨e,_⟩<;>show B<=k<;>omega)
theorem Wf.box {w w' B X t a}(h:Wf w B w')(b:w.heap[X]?=I (D a t))(c:X≠B)(d:t≠5):w'.heap[X]?=I (D a t):=
 Fr.whole h b (fun e=>by
  rcases e with e|⟨_,f,e⟩
  ·exact c e
  rw[b]at e
  injection e with e;injection e with _ e
  exact d e)
def BM (w:z3)(B:Nat)(l:List UInt8)(e:Ending)(w':z3):Prop:=e=z4 (.tuple #[])/\Y7 w' B l/\Wf w B w'
theorem Y7.fr {w w' B l}(h:Y7 w B l)(a:F0 w w'):Y7 w' B l:=by
 obtain⟨v,b,c⟩:=h.bx;exact⟨⟨v,a.whole b,oF c a⟩,h.sz⟩
theorem La {d f b B n v v' r L}(s:d.heap[B]?=I (D #[v] 145))(m:d.ownsRow (B+1) 5 1 v n r)(o:F0 d f)(q:f.grownBy b v.ownBlock)(c:b.ownsRow (B+1) 5 1 v' L.length (Ri L))(t:L.length<=1000000):
  Y7 (b.setCell ⟨B,0,P⟩ v') B L/\Wf d B (b.setCell ⟨B,0,P⟩ v'):=by
 have h:=((Fr.refl (fun k=>v.ownBlock=I k) f).grown q (fun k a=>z8 a)).whole (o.whole s) (fun e=>by have:=(m.lt B e).1;omega);refine⟨⟨⟨v',heap_setCell_same b B 0 _ _ v' h,oB c (by simp) v'⟩,t⟩,?_⟩;refine Fr.setCell (Fr.grown (Wf.of (B:=B) o) q (fun k a=>z8 (Or.inr ?_))) (p:=⟨B,0,P⟩) (z8 (z8 rfl)) v';rcases m.2 with⟨rfl,_⟩|⟨g,cap,i,rfl,j,l,_⟩
 ·cases a
 injection a with a
 subst a;exact⟨nL (Nat.lt_succ_self B) j,i,l⟩
theorem xM (x:Nat):q4.wrap (x:Int)=(((UInt8.ofNat x).toNat:Nat):Int):=by
 rw[UInt8.toNat_ofNat'];simp[q6,q7,q5]
theorem X3 (w B l)(k n:Nat)(kv nv:Int)(h:Y7 w B l)(Y:k<=4)(a0:kv=k)(b0:nv=n)(hs:l.length+k<=1000000):
  M Z 69 #[V (I ⟨B,0,P⟩),U H kv,U H nv] w (BM w B (l++ZA k n)):=by
 subst a0 b0;obtain⟨ij,x,y,z,A⟩:=info_parts R9;have g0:=Za h;go_enter Tryz.func69,Tryz.ntmps69;go_wp2_with fail
 go_loopg [8] k (fun mm iv wr=>∃i:Nat,i<=k/\mm=k-i/\iv=U H (i:Nat)/\O (Y7 wr B (l++(ZA k n).take i))/\O (Wf w B wr))
 case atStart=>exact⟨0,z1 _,rfl,rfl,by rw[List.take_zero,List.append_nil];exact g0.o,Zt⟩
 obtain⟨i,k0,rfl,rfl,r,s⟩:=hrel;by_cases h0:i<k
 ·have i0:(i:Int)<(k:Int):=by omega
  obtain⟨L,hL⟩:∃L,l++(ZA k n).take i=L:=⟨_,rfl⟩;rw[hL]at r;obtain⟨v,hb,ho⟩:=r.o.bx;obtain⟨m,hm⟩:∃m,L.length=m:=⟨_,rfl⟩;rw[hm]at ho
  have l0:m+1<=1000000:=by rw[<-hm,<-hL,lA,List.length_take,Zi];omega
  have HM:=Za hm;obtain⟨C,K,e⟩:=oL ho;subst e;have u:=Za hb;have Q:=Za ho;have c0:=Zc hb 0;have fz:=bF hb 0;obtain⟨p,R⟩:∃c,UInt8.ofNat (n/2^(8*i))=c:=⟨_,rfl⟩
  have HL:O (l++(ZA k n).take (i+1)=L++[p]):=by
   show _=_
   rw[y7,Gx k n i h0,R,<-hL,J];rfl
  have m0:q8.wrap (8*(i:Int))=8*(i:Int):=IntWalk.i64_in _ (by constructor<;>omega);obtain⟨q,hq⟩:∃q,n/2^(8*i)=q:=⟨_,rfl⟩
  have n0:(n:Int)/2^(8*(i:Int)).toNat=((q:Nat):Int):=by
   rw[<-hq,show(8*(i:Int)).toNat=8*i from by omega];simp
  have o0:q4.wrap (q:Int)=((p.toNat:Nat):Int):=by rw[xM,<-R,hq]
  go_wp2_with fail;refine wp_region_held_drew (S:=fun _=>True) (by kernel_rfl) trivial (fun j=>?_)
  iterate 4 (refine YP 0 j ?_;try go_frame)
  iterate 5 ((first|refine YP 0 j ?_|refine YP 1 j ?_);try go_frame)
  have f:O (F0 wr ((wr.alloc (D #[U x8 (p.toNat:Nat)] 5)).drew)):=(Zt.alloc _).drew;have T:=Za (oF Q.o f.o);have p0:B+1<=wr.heap.size:=(iA.1 u.o).1;refine XC [4,10] ?_;refine Zb rfl (fun t g=>?_) ?_
  ·try rw[if_pos (by rfl)]
   go_simp;refine g.out _ _ trivial (fun j=>?_)
   try go_frame
   refine XC [10] ?_;refine Zb rfl (fun t g=>?_) G
   try rw[if_pos (by rfl)]
   go_simp;refine g.out _ _ trivial (fun j=>?_)
   try go_frame
   refine XC [11] ?_;refine Zb rfl (fun t g=>?_) G
   try rw[if_pos (by rfl)]
   refine wp_append_lies _ (.tmp 15) (.tmp 21) 50 rfl (B+1) 5 ij _ 1 1 Tryz.underlying50 x y z A rfl (by decide) (E C m K) m (Ri L) rfl T.o ⟨wr.heap.size,0,P⟩ 1 1 [U x8 (p.toNat:Nat)] rfl rfl ?h2A ?h3A (by decide) ?h4A ?h5A ?h6A _ rfl ?h7A
   case h2A=>exact World.news_of_block (aN wr (D #[U x8 (p.toNat:Nat)] 5))
   case h3A=>simp[x7]
   case h4A=>unfold maxLen;omega
   case h5A=>omega
   case h6A=>have:=f.o.size;omega
   intro g2 b w8 d a j0 _
   have W:=Za (La (v':=E (I ⟨g2,0,P⟩) (m+1) b) (L:=L++[p]) u.o Q.o f.o a (by
    rw[lA,HM.o];unfold Ri at d ⊢;rw[z7]
    exact d) (by rw[lA,HM.o];simp;omega))
   have X:=((Fr.refl (fun k=>(x3 C m K).ownBlock=I k) _).grown a (fun k Y=>z8 Y)).whole (f.o.whole u.o) (fun e=>by have:=(Q.o.lt B e).1;omega);have e0:=Zc X 0;have f0:=bF X 0;refine g.out _ _ trivial (fun j=>?_)
   try go_frame
   iterate 2 (refine YP 0 j ?_;try go_frame)
   refine XC [14] ?_;refine Zb rfl (fun t g=>?_) G
   try rw[if_pos (by rfl)]
   go_simp;refine g.out _ _ trivial (fun j=>?_)
   try go_frame
   refine wpAnyH_done (by kernel_rfl) ?_ _;generalize w8.setCell ⟨B,0,P⟩ (E (I ⟨g2,0,P⟩) (m+1) b)=W9 at*;go_wp2_with fail;go_roundg (k-(i+1))
   case measure=>omega
   exact⟨i+1,by omega,rfl,by go_num,by show Y7 _ _ _;rw[HL.o];exact W.o.1,s.o.trans W.o.2⟩
  refine Zb rfl (fun t g=>?_) G
  try rw[if_pos (by rfl)]
  go_simp;refine g.out _ _ trivial (fun j=>?_)
  try go_frame
  refine XC [4] ?_;refine Zb rfl (fun t g=>?_) G
  try rw[if_pos (by rfl)]
  have z0:(wr.alloc (D #[U x8 (p.toNat:Nat)] 5)).cell? ⟨B,0,P⟩=I (E C m K):=bC (((Fr.refl (fun _=>False) wr).alloc _).whole u.o) 0 _ rfl;go_simp;refine g.out _ _ trivial (fun j=>?_)
  try go_frame
  refine XC [11] ?_;refine Zb rfl (fun t g=>?_) G
  try rw[if_pos (by rfl)]
  refine wp_append_lies _ (.tmp 15) (.tmp 21) 50 rfl (B+1) 5 ij _ 1 1 Tryz.underlying50 x y z A rfl (by decide) (E C m K) m (Ri L) rfl T.o ⟨wr.heap.size,0,P⟩ 1 1 [U x8 (p.toNat:Nat)] rfl rfl ?h2B ?h3B (by decide) ?h4B ?h5B ?h6B _ rfl ?h7B
  case h2B=>exact World.news_of_block (aN wr (D #[U x8 (p.toNat:Nat)] 5))
  case h3B=>simp[x7]
  case h4B=>unfold maxLen;omega
  case h5B=>omega
  case h6B=>have:=f.o.size;omega
  intro g2 b w8 d a j0 _
  have W:=Za (La (v':=E (I ⟨g2,0,P⟩) (m+1) b) (L:=L++[p]) u.o Q.o f.o a (by
   rw[lA,HM.o];unfold Ri at d ⊢;rw[z7]
   exact d) (by rw[lA,HM.o];simp;omega))
  have X:=((Fr.refl (fun k=>(x3 C m K).ownBlock=I k) _).grown a (fun k Y=>z8 Y)).whole (f.o.whole u.o) (fun e=>by have:=(Q.o.lt B e).1;omega);have e0:=Zc X 0;have f0:=bF X 0;refine g.out _ _ trivial (fun j=>?_)
  try go_frame
  iterate 2 (refine YP 0 j ?_;try go_frame)
  refine XC [14] ?_;refine Zb rfl (fun t g=>?_) G
  try rw[if_pos (by rfl)]
  go_simp;refine g.out _ _ trivial (fun j=>?_)
  try go_frame
  refine wpAnyH_done (by kernel_rfl) ?_ _;generalize w8.setCell ⟨B,0,P⟩ (E (I ⟨g2,0,P⟩) (m+1) b)=W9 at*;go_wp2_with fail;go_roundg (k-(i+1))
  case measure=>omega
  exact⟨i+1,by omega,rfl,by go_num,by show Y7 _ _ _;rw[HL.o];exact W.o.1,s.o.trans W.o.2⟩
 have e:i=k:=by omega
 subst e
 have i0:¬(i:Int)<(i:Int):=by omega
 go_wp2_with fail
 go_end0
 have e:=r.o;rw[N (by rw[Zi];exact F _)]at e;exact⟨rfl,e,s.o⟩
theorem WE {w0 w B p v}(c:w0.heap.size<=B)(b:Fr (fun k=>B<=k) w0 w)(a:w0.cell? p=I v):w.cell? p=I v:=
 (b.cell (bL w0 _ a) (by have:=bL w0 _ a;show¬B<=p.block;omega)).trans a
theorem P6 {α}(W:α->List UInt8)(l:List α)(i):((l.take i).flatMap W).length<=(l.flatMap W).length:=by
 have e:l.flatMap W=(l.take i).flatMap W++(l.drop i).flatMap W:=by rw[<-y5,List.take_append_drop]
 rw[e,lA];omega
theorem Rj {α}(W:α->List UInt8){l:List α}{i x}(a:l[i]?=I x):(l.take (i+1)).flatMap W=(l.take i).flatMap W++W x:=by
 rw[y7,a];simp
theorem K0 (w B l s)(h:Y7 w B l)(N:(l++WD s).length<=1000000):
  M Z 71 #[V (I ⟨B,0,P⟩),z2 s] w (BM w B (l++WD s)):=by
 obtain⟨O,f,g,i,j⟩:=info_parts R9
 have c:s.data.toList.length=s.size:=by simp
 have Q:l.length+(1+s.size)<=1000000:=by rw[<-c];simpa[WD,Zi]using N
 have R:=Za (X3 w B l 1 s.size _ _ h (by omega) rfl rfl (by omega));have n:=Za c;go_enter Tryz.func71,Tryz.ntmps71;go_wp2_with fail;refine R.o.mono ?_;rintro e C ⟨rfl,S,p⟩;obtain⟨v,d,q⟩:=S.bx;obtain⟨m,r⟩:∃m,(l++ZA 1 s.size).length=m:=⟨_,rfl⟩;rw[r]at q
 have T:m+s.size<=1000000:=by rw[<-r,lA,Zi];omega
 have U:=Za r;obtain⟨D,F,e⟩:=oL q;subst e;have G:=Za d;have t:=Za q;have u:=Za p;have c0:=Zc d 0;have fz:=bF d 0;have x:B+1<=C.heap.size:=(iA.1 d).1
 go_wp2_with (at_builtin;refine Lib.wpList_append_own_string _ rfl (.tmp 12) (.tmp 13) 50 9 rfl (B+1) 5 O Tryz.underlying50 Tryz.underlying9 f g i j (E D m F) m (Ri (l++ZA 1 s.size)) rfl t.o s rfl ?h1 ?h2 ?h3 ?h4)
 case h1=>unfold maxLen;omega
 case h2=>omega
 case h3=>exact x
 intro v' w8 a b _
 have y:(l++WD s).length=m+s.size:=by rw[<-U.o];simp only[WD,Y,Zi,n.o];omega
 obtain⟨z,A,e⟩:=oL a;subst e
 have W:=La (v':=E z (m+s.size) A) (L:=l++WD s) G.o t.o Zt b (by
  rw[strCells_eq]at a;rw[y,WD,<-J];unfold Ri at a ⊢;rw[z7]
  exact a) (by omega)
 have H:=Za W;have K:=((Fr.refl (fun k=>(x3 D m F).ownBlock=I k) C).grown b (fun k X=>z8 X)).whole G.o (fun e=>by have:=(t.o.lt B e).1;omega);have e0:=Zc K 0;have z0:=bF K 0;go_wp2_with fail
 go_end0
 exact⟨rfl,H.o.1,u.o.trans H.o.2⟩
def sw (r:Zf):Obj:=D #[z2 r.name,U H (r.base:Nat),U H (r.rate:Nat)] 148
theorem GH (w B l r)(h:Y7 w B l)(E:(l++WV r).length<=1000000):
  M Z 70 #[V (I ⟨B,0,P⟩),uf r] w (BM w B (l++WV r)):=by
 have C:O (∀W (L:List UInt8)(n:Nat),Y7 W B L->L.length+4<=1000000->M Z 69 #[V (I ⟨B,0,P⟩),U H 4,U H (n:Nat)] W (BM W B (L++ZA 4 n))):=fun W L n F G=>X3 W B L 4 n 4 n F (by omega) rfl rfl G
 have j:l.length+((WD r.name).length+8)<=1000000:=by simpa[WV,Zi]using E
 have K:B<w.heap.size:=by obtain⟨v,N,_⟩:=h.bx;exact(iA.1 N).1
 obtain⟨a,b⟩:=VA w (sw r);have c:=Za (K0 _ B l r.name (h.fr a.o) (by rw[lA];omega));have d:=Za j
 have D:O (w.heap.size≠B):=by show _≠_;omega
 have Q:O (WV r=WD r.name++(ZA 4 r.base++ZA 4 r.rate)):=rfl;unfold uf;unfold sw at a b c;obtain⟨Y,R,S⟩:=r
 dsimp only at*
 go_enter Tryz.func70,Tryz.ntmps70;go_upto_region 1 with fail;generalize w.alloc _=w0 at*;generalize w.heap.size=X at*;have x0:=Zc b.o 0;go_wp2_with fail;refine c.o.mono ?_;rintro e T ⟨rfl,k,f⟩;have m:=Za k;have g:=Za (Wf.box f b.o D.o (by decide));have p:=Za ((Wf.of (B:=B) a.o).trans f);have x1:=Zc g.o 1;go_wp2_with fail;refine(C.o T _ R m.o (by rw[lA];have:=d.o;omega)).mono ?_;rintro e w2 ⟨rfl,q,i⟩;have s:=Za q;have t:=Za (Wf.box i g.o D.o (by decide));have u:=Za (p.o.trans i);have x2:=Zc t.o 2;go_wp2_with fail;refine(C.o w2 _ S s.o (by rw[lA,lA,Zi];have:=d.o;omega)).mono ?_;rintro e w3 ⟨rfl,x,y⟩;have z:=Za x;have A:=Za (u.o.trans y);go_wp2_with fail
 go_end0
 refine⟨rfl,?_,A.o⟩;rw[Q.o];have e:=z.o;rw[J,J]at e;exact e
theorem BN (w0 w B l a n c b)(T:w0.heap.size<=B)(t:Fr (fun k=>B<=k) w0 w)(hi:Zu w0 a b)(X:b.length=n)(h4:n<=255)(h:Y7 w B l)(r:(l++Tw b).length<=1000000):
  M Z 175 #[V (I ⟨B,0,P⟩),E a n c] w (BM w B (l++Tw b)):=by
 have S:O (∀W (L:List UInt8)(k m:Nat)(s:Int),Y7 W B L->k<=4->s=k->L.length+k<=1000000->M Z 69 #[V (I ⟨B,0,P⟩),U H s,U H (m:Nat)] W (BM W B (L++ZA k m))):=fun W L k m s Y hk e hl=>X3 W B L k m s m Y hk e rfl hl
 have u:O (∀i x,b[i]?=I x->((l++ZA 1 n)++(b.take i).flatMap (ZA 2)).length+2<=1000000):=fun i x j=>by
  have e:=P6 (ZA 2) b (i+1);rw[Rj (ZA 2) j,lA,Zi]at e;unfold Tw at r;rw[lA,lA,Zi]at r;rw[lA,lA,Zi];omega
 have h1:l.length+1<=1000000:=by
  unfold Tw at r;rw[lA,lA,Zi]at r;omega
 have HI:=Za hi;have d:=Za X;have p:O (w0.heap.size<=B/\Fr (fun k=>B<=k) w0 w):=⟨T,t⟩;have HW:=Za h;go_enter Tryz.func175,Tryz.ntmps175;go_wp2_with fail;refine(S.o w l 1 n _ HW.o (by omega) rfl h1).mono ?_;rintro e w1 ⟨rfl,v,y⟩;have z:=Za v;have A:=Za y;go_wp2_with fail
 go_loopg [12] n (fun mm iv wr=>∃i:Nat,i<=n/\mm=n-i/\iv=U H (i:Nat)/\O (Y7 wr B ((l++ZA 1 n)++(b.take i).flatMap (ZA 2)))/\O (Wf w B wr))
 case atStart=>exact⟨0,z1 _,rfl,rfl,by simpa using z,A⟩
 obtain⟨i,a0,rfl,rfl,q,f⟩:=hrel;by_cases C:i<n
 ·have D:(i:Int)<(n:Int):=by omega
  obtain⟨x,j⟩:∃x,b[i]?=I x:=⟨_,gE (by rw[d.o];exact C)⟩;obtain⟨g,rfl,hc⟩:=HI.o i x j;have b0:=WE p.o.1 (p.o.2.trans (Wf.up f.o)) hc;have HC:=Za (S.o wr _ 2 x 2 q.o (by omega) rfl (u.o i x j));have HS:=Za (Rj (ZA 2) j);go_wp2_with fail;refine HC.o.mono ?_;rintro e w2 ⟨rfl,G,K⟩
  have Q:O (Y7 w2 B ((l++ZA 1 n)++(b.take (i+1)).flatMap (ZA 2))):=by
   show Y7 _ _ _
   rw[HS.o,<-J];exact G
  have R:=Za (f.o.trans K);go_wp2_with fail;go_roundg (n-(i+1))
  case measure=>omega
  exact⟨i+1,by omega,rfl,by go_num,Q,R⟩
 have e:i=n:=by omega
 subst e
 have D:¬(i:Int)<(i:Int):=by omega
 go_wp2_with fail
 go_end0
 have e:=q.o;rw[N (by rw[d.o];exact F _),J]at e;refine⟨rfl,?_,f.o⟩;unfold Tw;rw[d.o];exact e
structure tw (w0 w:z3)(B:Nat)(a:Option Addr)(nums:List Nat):Prop where
 h0:w0.heap.size<=B
 f0:Fr (fun k=>B<=k) w0 w
 hi:Zu w0 a nums
theorem T5 {w}{B X t k n:Nat}{f L}{a b:Int}(h:Y7 w B L)(i:w.heap[X]?=I (D f t))(j:X≠B)(l:t≠5)(m:k<=4)(c:a=k)(d:b=n)(o:L.length+k<=1000000):
  M Z 69 #[V (I ⟨B,0,P⟩),U H a,U H b] w fun e w'=>e=z4 (.tuple #[])/\Y7 w' B (L++ZA k n)/\w'.heap[X]?=I (D f t)/\Wf w B w':=
 (X3 w B L k n a b h m c d o).mono (by rintro e w' ⟨rfl,p,g⟩;exact⟨rfl,p,g.box i j l,g⟩)
theorem BO (w0 w B l a n c nr nn s)(A:vW nr nn s)(hn:s.nums.length=n)(h:Y7 w B l)(hw:tw w0 w B a s.nums)(hs:(l++Y1 s).length<=1000000):
  M Z 116 #[V (I ⟨B,0,P⟩),Lr s.sort a n c s.rule s.skip] w (BM w B (l++Y1 s)):=by
 have j0:B<w.heap.size:=by obtain⟨v,hb,_⟩:=h.bx;exact(iA.1 hb).1
 obtain⟨C,F⟩:=VA w (D #[U x8 (s.sort:Nat),E a n c,U H (s.rule:Nat),U H (s.skip:Nat)] 208);have R:=Za (h.fr C.o)
 have Q:O (w.heap.size≠B):=by show _≠_;omega
 have b:=Za hw;have q:=Za hn
 have k0:l.length+1<=1000000:=by rw[lA,Y1,lA,Zi]at hs;omega
 have l0:s.sort<=6:=by rcases A with⟨_,_,_,_,⟨rfl,_⟩|⟨rfl,_⟩,rfl,_⟩|⟨_,_,_,rfl,_⟩|⟨_,rfl,_⟩|⟨_,_,_,rfl|rfl,rfl,_⟩|rfl<;>dsimp only<;>omega
 have i0:wrap64 (s.sort:Int)=s.sort:=IntWalk.wrap64_in _ (by constructor<;>omega);obtain⟨L,G⟩:∃L,O (l++Y1 s=L):=⟨_,rfl⟩;rw[G.o];unfold Lr;go_enter Tryz.func116,Tryz.ntmps116;go_upto_region 1 with fail;generalize w.alloc _=w1 at*;generalize w.heap.size=X at*;have x0:=Zc F.o 0;go_wp2_with fail;refine(T5 (k:=1) R.o F.o Q.o (by decide) (by omega) rfl rfl (by omega)).mono ?_;rintro e w2 ⟨rfl,S,d,T⟩;have J:=Za S;have a0:=Za d;have K:=Za ((Wf.of (B:=B) C.o).trans T);have y0:=Zc d 0;have y1:=Zc d 1;have y2:=Zc d 2;have y3:=Zc d 3;rcases A with⟨_,_,p,k,⟨rfl,rfl⟩|⟨rfl,rfl⟩,rfl,k1,k2,l1,l2,hl⟩|⟨x,y,k,rfl,k1,k2,m0,hy⟩|⟨j,rfl,hj⟩|⟨_,p,j,rfl|rfl,rfl,hj,l1,l2,hl⟩|rfl
 all_goals
  simp[Y1,Zi]at hs
  dsimp only at*
  go_wp2_with fail
 iterate 6
  refine(T5 (k:=1) J.o a0.o Q.o (by decide) (by omega) rfl rfl (by simp[Zi];omega)).mono ?_;rintro e w3 ⟨rfl,r,z,i⟩;have t:=Za r;have b0:=Za z;have f:=Za (K.o.trans i);have y1:=Zc z 1
  rotate_left
 ·go_end0
  exact⟨rfl,by rw[<-G.o];simpa[Y1]using J.o,K.o⟩
 rotate_left 2
 ·obtain⟨g,rfl,c0⟩:=b.o.hi 0 x rfl
  obtain⟨g',e,c1⟩:=b.o.hi 1 y rfl;injection e with e;injection e with e;subst e
  have HC:O (∀W,Wf w B W->W.cell? ⟨g,0,P⟩=I (U H (x:Nat))/\W.cell? ⟨g,1,P⟩=I (U H (y:Nat))):=fun W i=>⟨WE b.o.h0 (b.o.f0.trans i.up) c0,WE b.o.h0 (b.o.f0.trans i.up) c1⟩
  have N:=q.o;subst N;obtain⟨c0,c1⟩:=HC.o _ f.o;go_wp2_with fail;refine(T5 (k:=4) t.o b0.o Q.o (by decide) (by omega) rfl rfl (by simp[Zi];omega)).mono ?_;rintro e w4 ⟨rfl,r,z,i⟩;have u:=Za r;have m:=Za (f.o.trans i);obtain⟨c0,c1⟩:=HC.o _ m.o;have d0:=Za z;have y1:=Zc z 1;go_wp2_with fail;refine(T5 (k:=4) u.o d0.o Q.o (by decide) (by omega) rfl rfl (by simp[Zi];omega)).mono ?_;rintro e w5 ⟨rfl,r,z,i⟩;have e0:=Za r;have g0:=Za (m.o.trans i);go_wp2_with fail
  go_end0
  exact⟨rfl,by rw[<-G.o];simpa[Y1]using e0.o,g0.o⟩
 ·go_wp2_with fail
  go_end0
  exact⟨rfl,by rw[<-G.o];simpa[Y1]using t.o,f.o⟩
 all_goals
  have N:=q.o;go_wp2_with fail;refine(BN w0 w3 B _ a n c p b.o.h0 (b.o.f0.trans f.o.up) b.o.hi q.o (by omega) t.o (by simp only[Y,Zi];omega)).mono ?_;rintro e w4 ⟨rfl,r,i⟩;have u:=Za r;have m:=Za (f.o.trans i);go_wp2_with fail
  go_end0
  exact⟨rfl,by rw[<-G.o];simpa[Y1]using u.o,m.o⟩
theorem J6 (w0 w B Q l pa n c nr nn p)(h0:w0.heap.size<=B)(x:Fr (fun k=>B<=k) w0 w)(hp:Mv w0 Q pa p)(y:∀s,s∈p->vW nr nn s)(hn:p.length=n)(h4:n<=255)(h:Y7 w B l)(t:(l++Tb p).length<=1000000):
  M Z 72 #[V (I ⟨B,0,P⟩),E pa n c] w (BM w B (l++Tb p)):=by
 have z:O (∀i s,p[i]?=I s->(((l++ZA 1 n)++(p.take i).flatMap Y1)++Y1 s).length<=1000000):=fun i s d=>by
  have e:=P6 Y1 p (i+1);rw[Rj Y1 d,lA]at e;unfold Tb at t;simp only[Y,Zi]at t ⊢;omega
 have A:O (∀W i s a m c,p[i]?=I s->Fr (fun k=>B<=k) w0 W->Y7 W B ((l++ZA 1 n)++(p.take i).flatMap Y1)->Zu w0 a s.nums->s.nums.length=m->M Z 116 #[V (I ⟨B,0,P⟩),Lr s.sort a m c s.rule s.skip] W (BM W B (((l++ZA 1 n)++(p.take i).flatMap Y1)++Y1 s))):=fun W i s a m c d u hW hi C=>BO w0 W B _ a m c nr nn s (y s (mG d)) C hW ⟨h0,u,hi⟩ (z.o i s d)
 have h1:l.length+1<=1000000:=by
  unfold Tb at t;simp only[Y,Zi]at t;omega
 have HI:=Za hp;have f:=Za hn;have b:O (w0.heap.size<=B/\Fr (fun k=>B<=k) w0 w):=⟨h0,x⟩;have HW:=Za (X3 w B l 1 n 1 n h (by omega) rfl rfl h1)
 have f0:B<w.heap.size:=by obtain⟨v,hb,_⟩:=h.bx;exact(iA.1 hb).1
 go_enter Tryz.func72,Tryz.ntmps72;go_wp2_with fail;refine HW.o.mono ?_;rintro e w1 ⟨rfl,D,G⟩;have K:=Za D;have L:=Za G;go_wp2_with fail
 go_loopg [12] n (fun mm iv wr=>∃i:Nat,i<=n/\mm=n-i/\iv=U H (i:Nat)/\O (Y7 wr B ((l++ZA 1 n)++(p.take i).flatMap Y1))/\O (Wf w B wr))
 case atStart=>exact⟨0,z1 _,rfl,rfl,by simpa using K,L⟩
 obtain⟨i,g0,rfl,rfl,q,j⟩:=hrel;by_cases R:i<n
 ·have S:(i:Int)<(n:Int):=by omega
  obtain⟨s,d⟩:∃s,p[i]?=I s:=⟨_,gE (by rw[f.o];exact R)⟩;obtain⟨g,na,nc,rfl,_,d0,d1,d2,d3,di,_⟩:=HI.o i s d;have r:=b.o.2.trans (Wf.up j.o);have c0:=WE b.o.1 r d0;have c1:=WE b.o.1 r d1;have c2:=WE b.o.1 r d2;have c3:=WE b.o.1 r d3;have T:=Za (fun W (u:F0 wr W)=>A.o W i s na s.nums.length nc d (r.trans (u.mono)) (q.o.fr u) di rfl);have HS:=Za (Rj Y1 d);unfold Lr at T;obtain⟨m,C⟩:∃m,s.nums.length=m:=⟨_,rfl⟩;rw[C]at T c1;have i0:=bL wr _ c0;go_wp2_with fail;refine(T.o _ (Zt.alloc _)).mono ?_;rintro e w2 ⟨rfl,X,a0⟩
  have b0:O (Y7 w2 B ((l++ZA 1 n)++(p.take (i+1)).flatMap Y1)):=by
   show Y7 _ _ _
   rw[HS.o,<-J];exact X
  have e0:=Za ((j.o.trans (Wf.of (Zt.alloc _))).trans a0);go_wp2_with fail;go_roundg (n-(i+1))
  case measure=>omega
  exact⟨i+1,by omega,rfl,by go_num,b0,e0⟩
 have e:i=n:=by omega
 subst e
 have S:¬(i:Int)<(i:Int):=by omega
 go_wp2_with fail
 go_end0
 have e:=q.o;rw[N (by rw[f.o];exact F _),J]at e;refine⟨rfl,?_,j.o⟩;unfold Tb;rw[f.o];exact e
def uU (a b:q3):Obj:=D #[a,b] 133
theorem EE (w B l p)(s:p<=255)(h:Y7 w B l)(t:l.length+1<=1000000):
  M Z 73 #[V (I ⟨B,0,P⟩),q1 #[V P,U H (p:Nat)]] w (BM w B (l++ZA 1 (1+p))):=by
 have j:B<w.heap.size:=by obtain⟨v,m,_⟩:=h.bx;exact(iA.1 m).1
 obtain⟨b,a⟩:=VA w (uU (V P) (U H (p:Nat)));have c:=Za (h.fr b.o)
 have q:O (w.heap.size≠B):=by show _≠_;omega
 unfold uU at b a c;go_enter Tryz.func73,Tryz.ntmps73;go_upto_region 1 with fail;generalize w.alloc _=u at*;generalize w.heap.size=X at*;have x:=Zc a.o 0;have y:=Zc a.o 1;go_wp2_with fail;refine(T5 (k:=1) (n:=1+p) c.o a.o q.o (by decide) (by omega) rfl (by omega) (by omega)).mono ?_;rintro e w2 ⟨rfl,d,r,f⟩;have g:=Za d;have i:=Za ((Wf.of (B:=B) b.o).trans f);go_wp2_with fail;refine bodyPost_ret (results_none rfl _ _ _) rfl ?_;exact⟨rfl,g.o,i.o⟩
def Qa (k:Nat->Tr)(i:Nat):List UInt8:=(List.range i).flatMap fun d=>(k d).wr
theorem Qy (k i):Qa k (i+1)=Qa k i++(k i).wr:=by
 unfold Qa;rw[List.range_succ,y5];simp
theorem yi (k i j):(Qa k i).length<=(Qa k (i+j)).length:=by
 induction j with
 |zero=>exact F _
 |succ j a=>rw[show i+(j+1)=(i+j)+1 from rfl,Qy,lA];omega
theorem Lc {w:z3}{lo:Nat}:∀{t:Tr}{a b:q3},Xf w lo t (q1 #[a,b])->∃x,∃y:Nat,a=V x/\b=U H (y:Nat)
 | .leaf p,a,b,h=>by
  have h:=h;injection h with h;simp at h;exact⟨_,p,h.1,h.2⟩
 | .node k,a,b,⟨K,cs,h,_⟩=>by
  injection h with h;simp at h;exact⟨_,0,h.1,h.2⟩
theorem EF (w0 w B l k K lo q)(h0:w0.heap.size<=B)(r:Fr (fun k=>B<=k) w0 w)(T:w0.heap[K]?=I (D q 248))(s:∀d,d<10->∃a b,q[d*2]?=I a/\q[d*2+1]?=I b/\Xf w0 lo (k d) (q1 #[a,b]))(ih:∀d,d<10->∀W L v,Xf w0 lo (k d) v->Fr (fun k=>B<=k) w0 W->Y7 W B L->(L++(k d).wr).length<=1000000->M Z 73 #[V (I ⟨B,0,P⟩),v] W (BM W B (L++(k d).wr)))(h:Y7 w B l)(hs:(l++(Tr.node k).wr).length<=1000000):
  M Z 73 #[V (I ⟨B,0,P⟩),q1 #[V (I ⟨K,0,P⟩),U H 0]] w (BM w B (l++(Tr.node k).wr)):=by
 have HE:O ((Tr.node k).wr=ZA 1 0++Qa k 10):=rfl;rw[HE.o]at hs;simp only[Y,Zi]at hs
 have t:O (∀d,d<10->((l++ZA 1 0)++Qa k d++(k d).wr).length<=1000000):=fun d hd=>by
  have e:=yi k (d+1) (9-d);rw[show d+1+(9-d)=10 from by omega,Qy,lA]at e;simp only[Y,Zi];omega
 have u:=Za ih
 have x:O (∀d,d<10->∃a b,w0.cell? ⟨K,d*2,P⟩=I a/\w0.cell? ⟨K,d*2+1,P⟩=I b/\Xf w0 lo (k d) (q1 #[a,b])):=fun d hd=>by
  obtain⟨a,b,e1,e2,e3⟩:=s d hd;exact⟨a,b,bC T _ _ e1,bC T _ _ e2,e3⟩
 have y:O (w0.heap.size<=B/\Fr (fun k=>B<=k) w0 w):=⟨h0,r⟩
 have a0:B<w.heap.size:=by obtain⟨v,hb,_⟩:=h.bx;exact(iA.1 hb).1
 obtain⟨f,c⟩:=VA w (uU (V (I ⟨K,0,P⟩)) (U H 0));have m:=Za (h.fr f.o)
 have HX:O (w.heap.size≠B):=by show _≠_;omega
 unfold uU at f c m;go_enter Tryz.func73,Tryz.ntmps73;go_upto_region 1 with fail;generalize w.alloc _=w1 at*;generalize w.heap.size=X at*;have x0:=Zc c.o 0;have x1:=Zc c.o 1;go_wp2_with fail;refine(T5 (k:=1) (n:=0) m.o c.o HX.o (by decide) (by omega) rfl (by omega) (by omega)).mono ?_;rintro e w2 ⟨rfl,z,A,C⟩;have E:=Za z;have F:=Za ((Wf.of (B:=B) f.o).trans C);have y0:=Zc A 0;go_wp2_with fail
 go_loopg [19] 10 (fun mm iv wr=>∃i:Nat,i<=10/\mm=10-i/\iv=U H (i:Nat)/\O (Y7 wr B ((l++ZA 1 0)++Qa k i))/\O (Wf w B wr))
 case atStart=>exact⟨0,by omega,rfl,rfl,by simpa[Qa]using E,F⟩
 obtain⟨i,b0,rfl,rfl,p,g⟩:=hrel;by_cases j:i<10
 ·have e0:(i:Int)<10:=by omega
  obtain⟨a,b,d0,d1,dT⟩:=x.o i j;obtain⟨xp,yp,rfl,rfl⟩:=Lc dT;have G:=y.o.2.trans (Wf.up g.o);have c0:=WE y.o.1 G d0;have c1:=WE y.o.1 G d1;have HC:=Za (fun W (hf:F0 wr W)=>u.o i j W _ _ dT (G.trans (hf.mono)) (p.o.fr hf) (t.o i j));have f0:=bL wr _ c0;go_wp2_with fail;refine(HC.o _ (Zt.alloc _)).mono ?_;rintro e w3 ⟨rfl,N,Q⟩
  have R:O (Y7 w3 B ((l++ZA 1 0)++Qa k (i+1))):=by
   show Y7 _ _ _
   rw[Qy,<-J];exact N
  have S:=Za ((g.o.trans (Wf.of (Zt.alloc _))).trans Q);go_wp2_with fail;go_roundg (10-(i+1))
  case measure=>omega
  exact⟨i+1,by omega,rfl,by go_num,R,S⟩
 have e:i=10:=by omega
 subst e;go_wp2_with fail
 go_end0
 refine⟨rfl,?_,g.o⟩;rw[HE.o,<-J];exact p.o
theorem K1 (w0:z3)(B lo np:Nat)(h:w0.heap.size<=B)(g:np<=255):∀(t:Tr)(W:z3)(L:List UInt8)(v:q3),t.lows np->Xf w0 lo t v->Fr (fun k=>B<=k) w0 W->Y7 W B L->(L++t.wr).length<=1000000->M Z 73 #[V (I ⟨B,0,P⟩),v] W (BM W B (L++t.wr))
 | .leaf p,W,L,v,e,a,f,b,c=>by
  have a:=a;have e:p<np:=e;subst a;exact EE W B L p (by omega) b (by simpa[Tr.wr,Zi]using c)
 | .node k,W,L,v,e,⟨K,cs,a,_,hK,_,hcs⟩,f,b,c=>by
  subst a;exact EF w0 W B L k K lo cs h f hK hcs (fun d i W L v a f b c=>K1 w0 B lo np h g (k d) W L v (e d i) a f b c) b c
theorem EG (s w)(H:s.size<=199992)(y:LU w):
  M Z 74 #[z2 s] w fun e w'=>e=z4 (z2 ⟨(WW s.data.toList).toArray⟩)/\F0 w w':=by
 have z:s.data.toList.length=s.size:=by simp
 have B:=Za z;have C:=Za y
 have g:O (∀(n:Nat)(h:Int)(W:z3),h=n->n<4294967296->M Z 117 #[U .u32 h] W fun e w'=>e=z4 (z2 ⟨(XA n).toArray⟩)/\F0 W w'):=fun n h W e D=>by subst e;exact Rx n W D
 go_enter Tryz.func74,Tryz.ntmps74;go_wp2_with fail;refine(g.o (8+s.size) _ _ (by omega) (by omega)).mono ?_;rintro e E ⟨rfl,i⟩;have f:=Za i;obtain⟨a,b⟩:∃a:ByteArray,(⟨(XA (8+s.size)).toArray⟩:ByteArray)=a:=⟨_,rfl⟩
 have j:a.size=4:=by rw[<-b];rfl
 have k:O (a.data.toList=XA (8+s.size)):=by show _=_;rw[<-b]
 rw[b]
 have l:(a++s).size=4+s.size:=by rw[ByteArray.size_append,j]
 have m:a.size+s.size<=9223372036854775807:=by omega
 go_wp2_with fail;obtain⟨A,x⟩:∃A,a++s=A:=⟨_,rfl⟩
 have F:O (A.data.toList=XA (8+s.size)++s.data.toList):=by show _=_;rw[<-x,ByteArray.data_append,Array.toList_append,k.o]
 rw[x]at l ⊢
 have p:A.size<=200000:=by omega
 refine(Gu A E p (C.o.fr f.o)).mono ?_;rintro e w2 ⟨rfl,q⟩;have r:=Za (f.o.trans q);go_wp2_with fail;refine(Rx (Qx A.data.toList) _ (DJ _)).mono ?_;rintro e I ⟨rfl,t⟩;have u:=Za (r.o.trans t);obtain⟨d,c⟩:∃d:ByteArray,(⟨(XA (Qx A.data.toList)).toArray⟩:ByteArray)=d:=⟨_,rfl⟩
 have G:d.size=4:=by rw[<-c];rfl
 have v:O (d.data.toList=XA (Qx A.data.toList)):=by show _=_;rw[<-c]
 rw[c]
 have m:A.size+d.size<=9223372036854775807:=by omega
 go_wp2_with fail;go_ret
 have e:A++d=⟨(WW s.data.toList).toArray⟩:=by
  apply ByteArray.ext;apply Array.toList_inj.1;rw[ByteArray.data_append,Array.toList_append,v.o,F.o];simp only[WW,B.o]
 rw[<-e];exact⟨rfl,u.o⟩
structure uD (w:z3)(TT:Nat)(t:LR)(ra:Option Addr)(rc:Nat)(na:Option Addr)(nc:Nat)(pa:Option Addr)(pc:Nat)(xp:Option Addr)(yp lo:Nat):Prop where
 bx:w.heap[TT]?=I (D #[E ra t.rts.length rc,E na t.nms.length nc,E pa t.prs.length pc,V xp,U H (yp:Nat)] 135)
 rt:∀i r,t.rts[i]?=I r->∃g,ra=I ⟨g,0,P⟩/\w.cell? ⟨g,i*3,P⟩=I (z2 r.name)/\w.cell? ⟨g,i*3+1,P⟩=I (U H (r.base:Nat))/\w.cell? ⟨g,i*3+2,P⟩=I (U H (r.rate:Nat))
 nm:∀i s,t.nms[i]?=I s->∃g,na=I ⟨g,0,P⟩/\w.cell? ⟨g,i,P⟩=I (z2 s)
 pr:∀i l,t.prs[i]?=I l->∃g qa qc,pa=I ⟨g,0,P⟩/\w.cell? ⟨g,i,P⟩=I (E qa l.length qc)/\Mv w w.heap.size qa l
 tr:Xf w lo t.root (q1 #[V xp,U H (yp:Nat)])
theorem OV.tm {q w u t v x}(h:OV q w u t.rts v x t.nms t.prs t.root):∃d f j k m n,uD w u t v x d f j k m n q:=by
 obtain⟨L,M,a,b,B,o,⟨N,p,C⟩,y⟩:=h.bx;obtain⟨d,f,rfl⟩:=oL o;obtain⟨j,k,rfl⟩:=oL p;obtain⟨m,n,rfl,rfl⟩:=Lc y;refine⟨d,f,j,k,m,n,B,fun i r hi=>?_,fun i s hi=>?_,fun i l hi=>?_,y⟩
 ·have z:=(iG.1 hi).1
  obtain⟨g,cap,e,_,_,D⟩:=U0 h.ro (by omega);injection e with e _ _;exact⟨g,e,D i r hi⟩
 ·have z:=(iG.1 hi).1
  obtain⟨g,cap,e,_,_⟩:=o.form (by omega);injection e with e _ _;subst e;have c:=o.cells (g:=g) rfl i (z2 s) (by rw[y8,hi];rfl);rw[Yd,q2]at c;exact⟨g,rfl,c⟩
 have z:=(iG.1 hi).1
 obtain⟨g,cap,e,_,_⟩:=p.form (by omega);injection e with e _ _;subst e;obtain⟨O,E,G⟩:=C i l hi;obtain⟨H,A,I⟩:=G;obtain⟨J,K,rfl⟩:=oL A;have c:=p.cells (g:=g) rfl i _ E;rw[Yd,q2]at c;exact⟨g,J,K,rfl,c,Mv.of ⟨H,A,I⟩ (F _)⟩
def Tc {α:Type}(L:List UInt8)(W:α->List UInt8)(a:List α)(i:Nat):List UInt8:=(L++ZA 1 a.length)++(a.take i).flatMap W
theorem P7 {α}(L W)(a:List α):Tc L W a 0=L++ZA 1 a.length:=by simp[Tc]
theorem Ry {α L W a i}{x:α}(h:a[i]?=I x):Tc L W a (i+1)=Tc L W a i++W x:=by
 unfold Tc;rw[Rj W h];simp only[J]
theorem Ld {α L W}{a:List α}{i}(h:a.length=i):Tc L W a i=L++(ZA 1 a.length++a.flatMap W):=by
 unfold Tc;rw[N (by omega),J]
theorem Le {α L W a i}{x:α}(h:a[i]?=I x):(Tc L W a i++W x).length<=(L++(ZA 1 a.length++a.flatMap W)).length:=by
 rw[<-Ry h];unfold Tc;have:=P6 W a (i+1);simp only[Y];omega
theorem EH (w N t ra rc na nc pa pc xp yp lo)(h:uD w N t ra rc na nc pa pc xp yp lo)(hw:t.Wr)(hl:(XH t).length<=199992)(hH:LU w):
  M Z 40 #[V (I ⟨N,0,P⟩)] w fun e w'=>e=z4 (z2 ⟨(WW (XH t)).toArray⟩)/\F0 w w':=by
 have M0:=hw.r6;have N0:=hw.n8;have hp:=hw.pl.2;obtain⟨Q,i0⟩:∃Q,ZA 1 t.rts.length++t.rts.flatMap WV=Q:=⟨_,rfl⟩;obtain⟨R,S⟩:∃R,Q++(ZA 1 t.nms.length++t.nms.flatMap WD)=R:=⟨_,rfl⟩;obtain⟨L3,T⟩:∃L3,R++(ZA 1 t.prs.length++t.prs.flatMap Tb)=L3:=⟨_,rfl⟩
 have hB:XH t=L3++t.root.wr:=by unfold XH;rw[<-T,<-S,<-i0];simp only[J]
 have O0:L3.length<=199992:=by rw[hB,lA]at hl;omega
 have P0:R.length<=199992:=by rw[<-T,lA]at O0;omega
 have k1:Q.length<=199992:=by rw[<-S,lA]at P0;omega
 obtain⟨B,X⟩:∃B,w.heap.size=B:=⟨_,rfl⟩
 have Q0:O (N<B):=by show _<_;rw[<-X];exact(iA.1 h.bx).1
 have R0:=(VA w (D #[E P 0 0] 145)).1;have S0:O (Y7 (w.alloc (D #[E P 0 0] 145)) B []):=⟨⟨_,by rw[<-X];exact aN w _,oZ _ _ _ _⟩,by simp⟩;have HH:=Za h;have j0:=Za hw;have T0:=Za hH;have o0:=Za hB;have p0:=Za i0;have q0:=Za S;have r0:=Za T;have c:=Za X
 have HC:O (∀W,Fr (fun k=>B<=k) w W->W.cell? ⟨N,0,P⟩=I (E ra t.rts.length rc)/\W.cell? ⟨N,1,P⟩=I (E na t.nms.length nc)/\W.cell? ⟨N,2,P⟩=I (E pa t.prs.length pc)/\W.cell? ⟨N,3,P⟩=I (V xp)/\W.cell? ⟨N,4,P⟩=I (U H (yp:Nat))):=fun W hf=>by
  have e:=hf.whole h.bx (by have:=Q0.o;show¬B<=N;omega);exact⟨Zc e 0,Zc e 1,Zc e 2,Zc e 3,Zc e 4⟩
 obtain⟨n1,a0⟩:∃n,t.rts.length=n:=⟨_,rfl⟩;obtain⟨n2,e0⟩:∃n,t.nms.length=n:=⟨_,rfl⟩;obtain⟨n3,f0⟩:∃n,t.prs.length=n:=⟨_,rfl⟩;rw[a0,e0,f0]at HC;rw[a0]at M0;rw[e0]at N0;rw[f0]at hp;have k0:=Za a0;have l0:=Za e0;have m0:=Za f0;clear h hw hH hB i0 S T a0 e0 f0;go_enter Tryz.func40,Tryz.ntmps40;go_upto_region 2 with fail;generalize w.alloc _=w1 at*;clear X;have s0:O (Fr (fun k=>B<=k) w w1):=R0.o.mono;obtain⟨z,c1,A,F,G⟩:=HC.o _ s0.o;go_wp2_with fail;refine(X3 w1 B [] 1 n1 _ _ S0.o (by omega) rfl rfl (by simp)).mono ?_;rintro e w2 ⟨rfl,t0,v0⟩;have V0:=Za t0;have w0:=Za (s0.o.trans (Wf.up v0));clear t0 v0 z c1 A F G;obtain⟨z,c1,A,F,G⟩:=HC.o _ w0.o;go_wp2_with fail
 go_loopg [24] n1 (fun mm iv wr=>∃i:Nat,i<=n1/\mm=n1-i/\iv=U H (i:Nat)/\O (Y7 wr B (Tc [] WV t.rts i))/\O (Fr (fun k=>B<=k) w wr))
 case atStart=>exact⟨0,z1 _,rfl,rfl,by show Y7 _ _ _;rw[P7,k0.o];exact V0.o,w0⟩
 obtain⟨i,x0,rfl,rfl,b,a⟩:=hrel;by_cases q:i<n1
 ·have u:(i:Int)<(n1:Int):=by omega
  obtain⟨r,l⟩:∃r,t.rts[i]?=I r:=⟨_,gE (by rw[k0.o];exact q)⟩;obtain⟨g,e1,d0,d1,d2⟩:=HH.o.rt i r l;subst e1;have b0:=WE (C c.o) a.o d0;have b1:=WE (C c.o) a.o d1;have b2:=WE (C c.o) a.o d2;have K:=Za (fun W (hf:F0 wr W)=>GH W B _ r (b.o.fr hf) (y6 (Le l) (by rw[x6,p0.o];omega)));have HS:=Za (Ry (L:=[]) (W:=WV) l);unfold uf at K;have l1:=bL wr _ b0;clear d0 d1 d2 l;go_wp2_with fail;refine(K.o _ (Zt.alloc _)).mono ?_;rintro e w3 ⟨rfl,d,f⟩;have x:O (Fr (fun k=>B<=k) w w3):=a.o.trans (Fr.trans (Wf.up (Wf.of (Zt.alloc _))) (Wf.up f))
  have y:O (Y7 w3 B (Tc [] WV t.rts (i+1))):=by
   show Y7 _ _ _
   rw[HS.o];exact d
  clear d f;go_wp2_with fail;go_roundg (n1-(i+1))
  case measure=>omega
  exact⟨i+1,by omega,rfl,by go_num,y,x⟩
 have e:i=n1:=by omega
 subst e
 have u:¬(i:Int)<(i:Int):=by omega
 have W0:O (Y7 wr B Q):=by
  have e:=b.o;rw[Ld k0.o,x6,p0.o]at e;exact e
 obtain⟨z,c1,A,F,G⟩:=HC.o _ a.o;clear b;generalize wr=w4 at*;have X0:=Za a.o;clear a;go_wp2_with fail;refine(X3 w4 B Q 1 n2 _ _ W0.o (by omega) rfl rfl (by omega)).mono ?_;rintro e w5 ⟨rfl,y0,A0⟩;have Y0:=Za y0;have B0:=Za (X0.o.trans (Wf.up A0));clear y0 A0 z c1 A F G;obtain⟨z,c1,A,F,G⟩:=HC.o _ B0.o;go_wp2_with fail
 go_loopg [44] n2 (fun mm iv wr=>∃i:Nat,i<=n2/\mm=n2-i/\iv=U H (i:Nat)/\O (Y7 wr B (Tc Q WD t.nms i))/\O (Fr (fun k=>B<=k) w wr))
 case atStart=>exact⟨0,z1 _,rfl,rfl,by show Y7 _ _ _;rw[P7,l0.o];exact Y0.o,B0⟩
 obtain⟨i,x0,rfl,rfl,b,a⟩:=hrel;by_cases q:i<n2
 ·have u:(i:Int)<(n2:Int):=by omega
  obtain⟨s,l⟩:∃r,t.nms[i]?=I r:=⟨_,gE (by rw[l0.o];exact q)⟩;obtain⟨g,e1,d0⟩:=HH.o.nm i s l;subst e1;have b0:=WE (C c.o) a.o d0;have K:=Za (K0 wr B _ s b.o (y6 (Le l) (by rw[q0.o];omega)));have HS:=Za (Ry (L:=Q) (W:=WD) l);clear d0 l;go_wp2_with fail;refine K.o.mono ?_;rintro e w3 ⟨rfl,d,f⟩;have x:=Za (a.o.trans (Wf.up f))
  have y:O (Y7 w3 B (Tc Q WD t.nms (i+1))):=by
   show Y7 _ _ _
   rw[HS.o];exact d
  clear d f;go_wp2_with fail;go_roundg (n2-(i+1))
  case measure=>omega
  exact⟨i+1,by omega,rfl,by go_num,y,x⟩
 have e:i=n2:=by omega
 subst e
 have u:¬(i:Int)<(i:Int):=by omega
 have Z0:O (Y7 wr B R):=by
  have e:=b.o;rw[Ld l0.o,q0.o]at e;exact e
 obtain⟨z,c1,A,F,G⟩:=HC.o _ a.o;clear b;generalize wr=w6 at*;have a1:=Za a.o;clear a;go_wp2_with fail;refine(X3 w6 B R 1 n3 _ _ Z0.o (by omega) rfl rfl (by omega)).mono ?_;rintro e w7 ⟨rfl,C0,D0⟩;have f1:=Za C0;have E0:=Za (a1.o.trans (Wf.up D0));clear C0 D0 z c1 A F G;obtain⟨z,c1,A,F,G⟩:=HC.o _ E0.o;go_wp2_with fail
 go_loopg [64] n3 (fun mm iv wr=>∃i:Nat,i<=n3/\mm=n3-i/\iv=U H (i:Nat)/\O (Y7 wr B (Tc R Tb t.prs i))/\O (Fr (fun k=>B<=k) w wr))
 case atStart=>exact⟨0,z1 _,rfl,rfl,by show Y7 _ _ _;rw[P7,m0.o];exact f1.o,E0⟩
 obtain⟨i,x0,rfl,rfl,b,a⟩:=hrel;by_cases q:i<n3
 ·have u:(i:Int)<(n3:Int):=by omega
  obtain⟨p,l⟩:∃r,t.prs[i]?=I r:=⟨_,gE (by rw[m0.o];exact q)⟩;obtain⟨g,qa,qc,e1,d0,dp⟩:=HH.o.pr i p l;subst e1;have b0:=WE (C c.o) a.o d0;have G0:=j0.o.pr p (mG l);obtain⟨pn,n0⟩:∃n,p.length=n:=⟨_,rfl⟩;rw[n0]at b0;have K:=Za (J6 w wr B _ _ qa pn qc t.rts.length t.nms.length p (C c.o) a.o dp G0.2.2.1 n0 (by omega) b.o (y6 (Le l) (by rw[r0.o];omega)));have HS:=Za (Ry (L:=R) (W:=Tb) l);clear d0 l dp G0 n0;go_wp2_with fail;refine K.o.mono ?_;rintro e w3 ⟨rfl,d,f⟩;have x:=Za (a.o.trans (Wf.up f))
  have y:O (Y7 w3 B (Tc R Tb t.prs (i+1))):=by
   show Y7 _ _ _
   rw[HS.o];exact d
  clear d f;go_wp2_with fail;go_roundg (n3-(i+1))
  case measure=>omega
  exact⟨i+1,by omega,rfl,by go_num,y,x⟩
 have e:i=n3:=by omega
 subst e
 have u:¬(i:Int)<(i:Int):=by omega
 have g1:O (Y7 wr B L3):=by
  have e:=b.o;rw[Ld m0.o,r0.o]at e;exact e
 obtain⟨z,c1,A,F,G⟩:=HC.o _ a.o;clear b;generalize wr=w8 at*;have H0:=Za a.o;clear a;have K:=Za (K1 w B lo t.prs.length (C c.o) j0.o.pl.2 t.root w8 L3 _ j0.o.lf HH.o.tr H0.o g1.o (by rw[<-o0.o];omega));rw[<-o0.o]at K;go_wp2_with fail;refine K.o.mono ?_;rintro e w9 ⟨rfl,I0,J0⟩;obtain⟨v,hb,ho⟩:=I0.bx;obtain⟨m,hm⟩:∃m,(XH t).length=m:=⟨_,rfl⟩;rw[hm]at ho;obtain⟨oa,oc,e⟩:=oL ho;subst e;have z0:=Zc hb 0;have h1:=Za (H0.o.trans (Wf.up J0));have HO:=Za ho;have HM:=Za hm;clear I0 J0 hb ho hm K z c1 A F G
 have i1:(convert 50 9 (E oa m oc)).run Z w9=.ok (z2 ⟨(XH t).toArray⟩) w9:=by
  have hm:=HM.o
  have h0:0<m:=by
   rw[<-hm];unfold XH;simp only[Y,Zi];omega
  obtain⟨g,cap,e,_,_⟩:=HO.o.form h0;injection e with e _ _;subst e;subst hm;refine run_convert_bytes_back w9 50 9 5 ⟨g,0,P⟩ oc (XH t) Tryz.underlying50 Tryz.underlying5 Tryz.underlying9 (fun j hj=>?_);exact HO.o.cells (g:=g) rfl j _ (by unfold Ri;rw[y8,gE hj];rfl)
 have L0:O (F0 w w9):=(Fr.refl _ w).monoNew h1.o (fun k hk=>.inr (by rw[c.o];exact hk));go_wp2_with fail;refine(EG ⟨(XH t).toArray⟩ w9 (by show(XH t).length<=_;omega) (T0.o.fr L0.o)).mono ?_;rintro e m1 ⟨rfl,g0⟩;have j1:=Za (L0.o.trans g0);clear g0 i1 z0;go_wp2_with fail;go_ret;exact⟨rfl,j1.o⟩
def vX (w:z3)(T:Nat)(t:LR):Prop:=∃a b c d,w.cell? ⟨T,1,P⟩=I (V (I ⟨a,0,P⟩))/\OV b w a t.rts c d t.nms t.prs t.root
theorem K3 (w T t)(h:vX w T t)(a:t.Wr)(b:(XH t).length<=199992)(c:LU w):
  M Z 23 #[V (I ⟨T,0,P⟩)] w fun e w'=>e=z4 (z2 ⟨(WW (XH t)).toArray⟩)/\F0 w w':=by
 obtain⟨i,j,k,l,x,d⟩:=h;obtain⟨m,n,p,q,r,s,f⟩:=d.tm;have u:=Za (EH w i t k l m n p q r s j f a b c);clear d f a b c;go_enter Tryz.func23,Tryz.ntmps23;go_wp2_with fail;refine u.o.mono ?_;rintro e y ⟨rfl,g⟩;have v:=Za g;clear g;go_wp2_with fail;go_ret;exact⟨rfl,v.o⟩
