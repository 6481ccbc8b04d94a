import Derived.StringKeys
import Derived.Test.YtccikgogjfbpeaaGreatDoorAn
open Option renaming some->I,none->J
open Go.Proofs.Tryz renaming prog->V
open Go.Value renaming string->Y,pointer->Z,int->U,bool->z9,slice->y3
open Go.IntKind renaming i64->O
open Go.Ending renaming returned->E
open Nat renaming le_refl->G,pow_pos->C,le_trans->z4,mul_comm->z5,pow_le_pow_right->z6,div_eq_of_lt_le->z8,le_of_mul_le_mul_left->y5,lt_of_mul_lt_mul_left->y6,lt_or_ge->y9,mul_div_cancel_left->x0,strongRecOn->x2,zero_le->x3,mul_le_mul_left->x8,mul_div_cancel->x9,le_of_eq->q1,le_of_lt->q2,mul_left_comm->q3,pow_add->q4,mod_lt->q5,mul_assoc->q7,mul_succ->j4,succ_mul->j5,add_mul->j6,pow_one->j7
open List renaming mem_append->N,length_append->z3,length_cons->y7,all_eq_true->y8,length_map->x1,getElem?_eq_none->x4,mem_cons->x5,getElem_of_mem->x6,length_pos_iff->x7,mem_map->q0,map_append->q6,any_cons->q8,range->j8
open Go renaming Calls->A,World->j0
open Go.Obj renaming cells->F
open _root_.ByteArray renaming empty->z7
open Go.AllReadyH renaming nil->y4
open Go.Proofs.Tryz
namespace Go.Proofs.YtccikgogjfbpeaaGreatDoor
set_option linter.defProp false
set_option maxRecDepth 30000
set_option maxHeartbeats 8000000
open Go.RowKit Go.Maps Go.WideMaps
def DP:Keyed V 9:=string_keyed underlying9
def ww (w):(zeroValue 185).run V w=.ok (.agg #[]) w:=n
structure OQ (w:j0)(X M TT n:Nat)(D:DataW Unit):Prop where
 bx:w.heap[X]?=I (.cells #[.pointer (I ⟨TT,0,J⟩),.map (I M)] 103)
 mp:w.ownsMap V 9 (unitElem (H:=Unit)) M n D
 ne:X≠M
def Q7 {w a M n D S}(h:w.ownsMap V 9 (unitElem (H:=Unit)) M n D)(b:Fr S w a)(c:¬S M):a.ownsMap V 9 (unitElem (H:=Unit)) M n D:=by
 obtain⟨d,e,f,g⟩:=h;exact⟨d,e,b.whole f c,g⟩
def OQ.fr {w w' X M a n D S}(h:OQ w X M a n D)(b:Fr S w w')(c:¬S X)(d:¬S M):OQ w' X M a n D:=⟨b.whole h.bx c,Q7 h.mp b d,h.ne⟩
def rp (D:DataW Unit)(s:ByteArray):Bool:=Maps.has D (.string s.data.toList)
def DQ (w X M d n D s)(h:OQ w X M d n D)(b:s.size<=maxLen):
  A V 98 #[.pointer (I ⟨X,0,J⟩),.string s] w fun e f=>e=.returned (.bool (rp D s))/\F0 w f:=by
 have j:=o h.mp;have k:=bC h.bx 1 _ rfl;have g:Hid (keyOf V 9 (.string s)=I (.string s.data.toList)):=keyOf_string_mk underlying9 b;have i:Hid (Maps.has D (.string s.data.toList)=rp D s):=rfl;obtain⟨v,l,a,c⟩:=h.mp.look_ok DP underlying101 (ww w) (zd:=.agg []) (zp:=[]) unitElem_mk g.o;obtain⟨rfl,_⟩:=unitElem_inv c;rw[i.o]at a;clear h b c;go_enter func98,ntmps98;go_wp2;go_ret;exact⟨rfl,(Fr.refl _ _).alloc _⟩
def Fz (a:List Zf)(D:DataW Unit)(i:Nat):Bool:=match a[i]? with
 |none=>false
 |some t=>rp D t.name
def wC (w b Q X M c d D a f g)(j:R6 w b Q a f g)(k:a.length<=6)(h:OQ w X M c d D):
  A V 63 #[Z (I ⟨b,0,J⟩),.func (.func 98) #[Z (I ⟨X,0,J⟩)] #[]] w fun e l=>e=E (.agg #[z9 (Fz a D 0),z9 (Fz a D 1),z9 (Fz a D 2),z9 (Fz a D 3),z9 (Fz a D 4),z9 (Fz a D 5)])/\F0 w l:=
 CF w b Q 98 #[Z (I ⟨X,0,J⟩)] #[] (rp D) (Fz a D) a f g (fun _ _=>aC) j k (fun i t m=>by rw[Fz,m]) (fun i n=>by rw[Fz,x4 n]) fun W s o p=>DQ W X M c d D s (h.fr o y y) aM
def RH (t:NQ):NQ:=⟨t.rts,t.nms,t.prs,t.root.norm⟩
def RI:∀(n:Nat)(l:List Nat),l.Nodup->(∀x,x∈l->x<n)->l.length<=n
 |0,[],_,_=>G _
 |0,x::l,_,h=>by have:=h x y;omega
 |n+1,l,hd,h=>by
  have e:=RI n (l.erase n) (hd.erase n) (fun x c=>by
   have b:=(hd.mem_erase_iff).1 c;have:=h x b.2;have:=b.1
   omega)
  have:=List.le_length_erase (a:=n) (l:=l);omega
def tF (R:List Ze)(a:List Nat):Prop:=a.Nodup/\∀m,m∈a->m<2^R.length/\∃c,∀i r,R[i]?=I r->(m.testBit i=true↔Qi r.digits r.lo r.hi c)
def DR {a m x}(h:x∈WE a m):x∈a\/x=m:=by
 unfold WE at h
 split at h
 ·exact .inl h
 simpa using h
def C0 {R:List Ze}{f:Nat->List Nat->Tr×List Nat}(b:∀d a,d<10->tF R a->tF R (f d a).2):∀(k:Nat)(a:List Nat),k<=10->tF R a->tF R (YI f k a).2
 |0,_,_,h=>h
 |k+1,a,hk,h=>b k _ z (C0 b k a z h)
def FA {R q a b}(h:a<2^R.length):(YH q b 0 R (a,0)).1<2^R.length:=by
 apply Nat.lt_pow_two_of_testBit;intro j d
 cases e:(YH q b 0 R (a,0)).1.testBit j with
 |false=>rfl
 |true=>
  rcases(PE R 0 (a,0) j).1.1 e with c|⟨r,_,f,_⟩
  ·rw[Nat.testBit_lt_two_pow (nL h (z6 aB d))]at c
   cases c
  have:=(iG.1 f).1;omega
def C1 {R:List Ze}(f:∀r,r∈R->PF r):∀(n:Nat)(q:Z6)(a c:Nat)(e:List Nat),7<=n+q.d->q.d<=6->Sx R q a c->a<2^R.length->tF R e->tF R (ZI R n q a c e).2
 |0,q,_,_,_,hn,hq,_,_,_=>z
 |n+1,q,a,c,e,hn,hq,hk,b,hg=>by
  have g:=MM f hq hk;simp only[ZI]
  split
  ·rename_i h;refine⟨Io hg.1,fun x j=>?_⟩;rcases DR j with j|rfl
   ·exact hg.2 x j
   refine⟨FA b,q.x*10^(6-q.d),fun i r m=>?_⟩;have o:YY q (q.x*10^(6-q.d)):=x9 _ (C aB)
   constructor
   ·intro b;exact(g i r m).1 b _ o
   intro p
   cases b:(YH q c 0 R (a,0)).1.testBit i with
   |true=>rfl
   |false=>exact absurd p ((g i r m).2 b (by rw[h];simp) _ o)
  rename_i h;have k:=Sy f h;exact C0 (fun d l s t=>C1 f n (q.longer d) _ _ l (by show 7<=n+(q.d+1);omega) (by show q.d+1<=6;omega) (PG k s g) (FA b) t) 10 e (G _) hg
def VB (r:Ze)(c):Qi r.digits r.lo r.hi c↔r.lo*10^(6-r.digits)<=c/\c<(r.hi+1)*10^(6-r.digits):=by
 have a:0<10^(6-r.digits):=C aB;unfold Qi;rw[Nat.le_div_iff_mul_le a,<-Nat.div_lt_iff_lt_mul a,Nat.lt_succ_iff]
def few {R}(u:R.length<=8){ps}(h:tF R ps):ps.length<=255:=by
 by_cases A:R.length<=7
 ·have:2^R.length<=2^7:=z6 aB A;have:=RI 128 ps h.1 (fun x f=>aj (h.2 x f).1);omega
 have u:R.length=8:=az
 have k:∀x,x∈ps->x<256:=fun x f=>by have:=(h.2 x f).1;rw[u]at this;exact this
 have d:∀m,m<256->m∉ps->ps.length<=255:=fun m B C=>by
  have:=RI 256 (m::ps) (List.nodup_cons.2 ⟨C,h.1⟩) (fun x f=>by
   rcases x5.1 f with rfl|f
   ·exact B
   exact k x f)
  simp at this;omega
 by_cases v:7∈ps
 ·by_cases w:3∈ps
  ·by_cases y:5∈ps
   ·by_cases z:6∈ps
    ·exfalso
     obtain⟨_,l,n⟩:=h.2 7 v;obtain⟨_,o,p⟩:=h.2 3 w;obtain⟨_,q,r⟩:=h.2 5 y;obtain⟨_,s,t⟩:=h.2 6 z;have g:R[0]?=I (R[0]' az):=gE _;have i:R[1]?=I (R[1]' az):=gE _;have j:R[2]?=I (R[2]' az):=gE _;generalize R[0]' az=a at g;generalize R[1]' az=b at i;generalize R[2]' az=c at j;have D:=(VB a l).1 ((n 0 a g).1 aB);have E:=(VB b l).1 ((n 1 b i).1 aB);have F:=(VB c l).1 ((n 2 c j).1 aB);have G:=(VB a o).1 ((p 0 a g).1 aB);have H:=(VB b o).1 ((p 1 b i).1 aB)
     have J:¬_:=fun e=>absurd ((p 2 c j).2 ((VB c o).2 e)) aB
     have K:=(VB a q).1 ((r 0 a g).1 aB)
     have L:¬_:=fun e=>absurd ((r 1 b i).2 ((VB b q).2 e)) aB
     have M:=(VB c q).1 ((r 2 c j).1 aB)
     have N:¬_:=fun e=>absurd ((t 0 a g).2 ((VB a s).2 e)) aB
     have O:=(VB b s).1 ((t 1 b i).1 aB);have P:=(VB c s).1 ((t 2 c j).1 aB);generalize a.lo*10^(6-a.digits)=Q at*;generalize(a.hi+1)*10^(6-a.digits)=S at*;generalize b.lo*10^(6-b.digits)=T at*;generalize(b.hi+1)*10^(6-b.digits)=U at*;generalize c.lo*10^(6-c.digits)=V at*;generalize(c.hi+1)*10^(6-c.digits)=W at*;omega
    exact d 6 aB z
   exact d 5 aB y
  exact d 3 aB w
 exact d 7 aB v
def JM {m n:Nat}(h:m<=n):∀(t:Tr),t.lows m->t.lows n
 | .leaf _,ht=>nL ht h
 | .node k,ht=>fun d a=>JM h (k d) (ht d a)
def JN {f:Nat->List Nat->Tr×List Nat}(b:∀d a,∃s,(f d a).2=a++s)(c:∀d a,(f d a).1.lows (f d a).2.length):∀(k:Nat)(a:List Nat)(d:Nat),d<k->((YI f k a).1 d).lows (YI f k a).2.length
 |0,_,_,hd=>z
 |k+1,a,d,hd=>by
  by_cases e:d=k
  ·subst e;simp only[YI,if_true];exact c d _
  simp only[YI,if_neg e];obtain⟨s,g⟩:=b k (YI f k a).2;rw[g];exact JM y _ (JN b c k a d z)
def JO {R:List Ze}(f:∀r,r∈R->PF r):∀(n:Nat)(q:Z6)(a e:Nat)(c:List Nat),7<=n+q.d->q.d<=6->(ZI R n q a e c).1.lows (ZI R n q a e c).2.length
 |0,q,_,_,_,hn,hq=>z
 |n+1,q,a,e,c,hn,hq=>by
  simp only[ZI]
  split
  ·exact(iG.1 (Je _ _)).1
  rename_i g;have h:=Sy f g
  exact fun d i=>JN (fun d b=>MN R n _ _ _ b) (fun d b=>JO f n (q.longer d) _ _ b (by show 7<=n+(q.d+1);omega) (by show q.d+1<=6;omega)) 10 c d i
def Sm {α:Type}{W:α->List UInt8}{B:Nat}:∀(l:List α),(∀x,x∈l->(W x).length<=B)->(l.flatMap W).length<=l.length*B
 |[],_=>aA
 |x::l,h=>by
  have b:=h x aA;have c:=Sm l (fun y a=>h y (by simp[a]));rw[List.flatMap_cons,lA,y7,j6,Nat.one_mul];omega
def wE (l:List Zl):Prop:=∀k s,l[k]?=I s->k+s.skip<l.length
def FB {l r}(b:∀k s,l[k]?=I s->k+s.skip<l.length+r.length)(c:wE r):wE (l++r):=by
 intro k s a;rw[lA];by_cases d:k<l.length
 ·rw[List.getElem?_append_left d]at a;exact b k s a
 rw[aR z]at a;have:=c _ _ a;omega
def DS {m:Nat}:∀{l:List Zl}{a k:Nat}{s:Zl},(ZP m a l)[k]?=I s->∃x,l[k]?=I x/\s={x with skip:=m-(a+k)+1}
 |[],_,_,_,h=>by simp[ZP]at h
 |x::r,a,0,s,h=>by
  simp[ZP]at h;exact⟨x,aA,by rw[<-h];simp⟩
 |x::r,a,k+1,s,h=>by
  simp only[ZP,List.getElem?_cons_succ]at h;obtain⟨y,b,c⟩:=DS h;exact⟨y,by simpa using b,by rw[c,show a+1+k=a+(k+1)from z]⟩
def FC (i r):(UQ i r).skip=0:=by
 unfold UQ
 split
 ·rfl
 split<;>rfl
def L5 {s}(h:s.skip=0):wE [s]:=fun k x a=>by
 cases k with
 |zero=>simp at a;subst a;simp[h]
 |succ k=>simp at a
def L6 (R:List Ze)(a:Nat):∀L:List Nat,wE (ZL R a L)/\1<=(ZL R a L).length
 |[]=>⟨L5 rfl,by simp[ZL]⟩
 |i::L=>by
  have c:=L6 R a L;simp only[ZL]
  split
  ·cases f:R[i]? with
   |none=>exact c
   |some r=>
    dsimp only
    split
    ·exact⟨L5 (FC i r),y⟩
    refine⟨FB (fun k s b=>?_) ?_,aF⟩
    ·have d:=(iG.1 b).1;unfold Sz at b d ⊢;rw[VO]at d ⊢;obtain⟨x,_,e⟩:=DS b;subst e;simp only[y7];have:=c.2;omega
    exact FB (l:=[UQ i r]) (fun k s b=>by have:=L5 (FC i r) k s b;simp at this ⊢;omega) c.1
  exact c
def wF {l}(h:wE l):Ne l=true:=by
 unfold Ne;rw[y8];intro k _
 cases a:l[k]? with
 |none=>rfl
 |some s=>simpa using h k s a
structure pN (nr:Nat)(r:Ze):Prop where
 m4:r.mcc.length<=4
 mx:∀x,x∈r.mcc->x<=9999
 c4:r.cur.length<=4
 cx:∀x,x∈r.cur->x<=999
 am:∀ab,r.am=I ab->ab.1<=ab.2/\ab.2<=1000000000
 ac:r.decline=true\/1<=r.routes.length/\r.routes.length<=4
 pl:∀x,x∈r.routes->x<nr
def FD {R:List Ze}{g:Nat}(u:∀r,r∈R->pN g r)(d:Nat):∀(L:List Nat)(s:Zl),s∈ZL R d L->sR g R.length s
 |[],s,h=>by
  simp[ZL]at h;exact .inr (.inr (.inr (.inr h)))
 |i::L,s,h=>by
  have j:=FD u d L s;simp only[ZL]at h
  split at h
  ·cases f:R[i]? with
   |none=>rw[f]at h;exact j h
   |some r=>
    rw[f]at h
    dsimp only at h
    have b:=u r (mG f);have l:=(iG.1 f).1
    have v:sR g R.length (UQ i r):=by
     unfold UQ
     split
     ·exact .inr (.inr (.inl ⟨i,rfl,l⟩))
     rename_i y;rcases b.ac with c|⟨c,w⟩
     ·exact absurd c y
     split
     ·exact .inr (.inr (.inr (.inl ⟨5,_,i,.inr rfl,rfl,l,c,w,b.pl⟩)))
     exact .inr (.inr (.inr (.inl ⟨4,_,i,.inl rfl,rfl,l,c,w,b.pl⟩)))
    split at h
    ·simp at h;subst h;exact v
    rcases N.1 h with h|h
    ·obtain⟨k,z,e⟩:=x6 h;have m:=gE z;rw[e]at m;unfold Sz at m;obtain⟨x,c,A⟩:=DS m;have B:=TB r;have n:=mG c;have a:1<=(Z8 r).length-(0+k)+1/\(Z8 r).length-(0+k)+1<=255:=az;generalize(Z8 r).length-(0+k)+1=o at*;subst A;unfold Z8 at n;rw[N,N]at n;rcases n with e|e|e
     ·split at e
      ·cases e
      rename_i p;simp at e;subst e;exact .inl ⟨0,9999,r.mcc,o,.inl ⟨rfl,rfl⟩,rfl,a.1,a.2,x7.2 p,b.m4,b.mx⟩
     ·cases q:r.am with
      |none=>rw[q]at e;cases e
      |some t=>
       rw[q]at e;simp at e;subst e;exact .inr (.inl ⟨t.1,t.2,o,rfl,a.1,a.2,b.am t q⟩)
     split at e
     ·cases e
     rename_i p;simp at e;subst e;exact .inl ⟨2,999,r.cur,o,.inr ⟨rfl,rfl⟩,rfl,a.1,a.2,x7.2 p,b.c4,b.cx⟩
    rcases x5.1 h with rfl|h
    ·exact v
    exact j h
  exact j h
def zt {l}(h:l.length<=4):(TF l).length<=9:=by
 unfold TF;have:=Sm (W:=ZD 2) (B:=2) l (fun x _=>by rw[Zi];omega);rw[lA,Zi];omega
def zu {c d s}(h:sR c d s):(Y6 s).length<=11:=by
 have e:s.nums.length<=4:=by
  rcases h with⟨f,q,l,k,a,rfl,g,i,m,b,n⟩|⟨x,y,k,rfl,g,i,o,r⟩|⟨j,rfl,p⟩|⟨f,l,j,a,rfl,p,m,b,n⟩|rfl
  ·exact b
  ·simp
  ·simp
  ·exact b
  simp
 have:=zt e;unfold Y6;rw[lA,Zi]
 split
 ·rw[lA,Zi];omega
 split
 ·simp only[z3,Zi];omega
 split
 ·rw[Zi];omega
 split
 ·rw[lA,Zi];omega
 simp
def Yi (rts:List Zf)(R:List Ze):NQ:=⟨rts,R.map Ze.name,(ZI R 7 ⟨0,0⟩ 0 (2^R.length-1) []).2.map fun m=>ZL R m (Wk R.length (Zz (Zu R) R.length)),(ZI R 7 ⟨0,0⟩ 0 (2^R.length-1) []).1⟩
def wG {a R}(b:Yh a R):tF R (ZI R 7 ⟨0,0⟩ 0 (2^R.length-1) []).2:=
 C1 (R:=R) (fun r c=>⟨(b.rl r c).bn.1,(b.rl r c).bn.2.1⟩) 7 ⟨0,0⟩ 0 (2^R.length-1) [] y y (Ow R) (C aB) ⟨List.nodup_nil,y⟩
def L7 {a R}(b:Yh a R):(ZI R 7 ⟨0,0⟩ 0 (2^R.length-1) []).1.lows (ZI R 7 ⟨0,0⟩ 0 (2^R.length-1) []).2.length:=
 JO (R:=R) (fun r c=>⟨(b.rl r c).bn.1,(b.rl r c).bn.2.1⟩) 7 ⟨0,0⟩ 0 (2^R.length-1) [] y y
def FE {n:Nat}:∀(t:Tr),t.lows n->0<n
 | .leaf _,h=>Nat.lt_of_le_of_lt (x3 _) h
 | .node k,h=>FE (k 0) (h 0 aB)
def wH {a R}(b:Yh a R)(e:∀r,r∈R->pN a.length r)(f:∀r,r∈a->XP r.name=true/\r.base<=1000000/\r.rate<=1000)(g:∀r,r∈R->XP r.name=true)(h:(YW (a.map Zf.name)&&YW (R.map Ze.name))=true):(Yi a R).Wr:=by
 refine⟨b.r6,f,by unfold Yi;simpa using b.l8,fun s c=>?_,h,?_,fun l i=>?_,Lf b,?_⟩
 ·obtain⟨r,j,rfl⟩:=q0.1 c;exact g r j
 ·unfold Yi
  dsimp only
  rw[x1];exact⟨FE _ (L7 b),few b.l8 (wG b)⟩
 ·obtain⟨m,k,rfl⟩:=q0.1 i;have n:=SB R m (Wk R.length (Zz (Zu R) R.length))
  have o:(Wk R.length (Zz (Zu R) R.length)).length=R.length:=by simp[Wk]
  have p:=b.l8;have d:=L6 R m (Wk R.length (Zz (Zu R) R.length));refine⟨d.2,z,fun s c=>?_,wF d.1⟩;have:=FD e m _ s c;unfold Yi
  dsimp only
  rw[x1];exact this
 unfold Yi
 dsimp only
 rw[x1];exact L7 b
def JP {s}(h:XP s=true):(WF s).length<=9:=by
 have:=QW h;unfold WF;rw[lA,Zi];simp;omega
def wI {t}(h:t.Wr)(a:∀l,l∈t.prs->l.length<=33)(d:t.root.wr.length<=1111):(XK t).length<=100000:=by
 have e:=Sm (W:=WZ) (B:=17) t.rts (fun r c=>by have:=JP (h.rt r c).1;unfold WZ;simp only[z3,Zi];omega);have f:=Sm (W:=WF) (B:=9) t.nms (fun s a=>JP (h.nm s a))
 have g:=Sm (W:=Tl) (B:=364) t.prs (fun l b=>by
  have:=Sm (W:=Y6) (B:=11) l (fun s a=>zu ((h.pr l b).2.2.1 s a));have:=a l b;unfold Tl;rw[lA,Zi]
  omega)
 have:=h.r6;have:=h.n8;have:=h.pl;unfold XK;simp only[z3,Zi];omega
def C2 {s:ByteArray}:∀(l:List ByteArray)(i k:Nat),l[k]?=I s->(∀j x,j<k->l[j]?=I x->(s.toList==x.toList)=false)->UG s i l=((i+k:Nat):Int)
 |[],_,_,h,_=>by simp at h
 |x::r,i,0,h,_=>by
  simp at h;subst h;simp[UG]
 |x::r,i,k+1,h,hn=>by
  rw[UG,if_neg (by rw[hn 0 x z rfl];simp),C2 r (i+1) k (by simpa using h) (fun j y b a=>hn (j+1) y z (by simpa using a))]
  congr 1
  omega
def L8 {l}(h:∀(i j:Nat) a b,l[i]?=I a->l[j]?=I b->j<i->(a.toList==b.toList)=false):YW l=true:=by
 unfold YW;rw[y8];intro k _
 cases c:l[k]? with
 |none=>rfl
 |some s=>
  dsimp only
  rw[C2 l 0 k c (fun j x d e=>h k j s x c e d)];simp
def RJ (H:Nat)(w:j0)(a:Nat)(t:NQ):Prop:=∃b ra rc,H<=b/\H<=a/\G4 b w a t ra rc
def RJ.fr {H w w' a t S}(h:RJ H w a t)(d:Fr S w w')(b:∀k,S k->k<H):RJ H w' a t:=by
 obtain⟨f,g,i,c,j,l⟩:=h;exact⟨f,g,i,c,j,l.fr d (fun k m=>nL (b k m) c) (fun e=>aj (b _ e))⟩
def RJ.lo {H K w a t}(h:RJ H w a t)(f:K<=H):RJ K w a t:=by
 obtain⟨b,c,d,g,i,e⟩:=h;exact⟨b,c,d,z,z,e⟩
def qi (H:Nat)(w:j0)(T:Nat)(t:NQ):Prop:=∃a,H<=T/\w.cell? ⟨T,1,J⟩=I (Z (I ⟨a,0,J⟩))/\RJ H w a t
structure rq (t:NQ)(rts:List Zf)(R:List Ze):Prop where
 r:t.rts=rts
 n:t.nms=R.map Ze.name
 p:An t.rts t.nms t.prs t.root
 e:∀p,YD p=true->Ox t.rts t.nms t.prs t.root p (Rb R (YC (Zu R) (YN R p (Zw p.pan)) R.length))
def JQ {a R}(b:Yh a R):rq (Yi a R) a R:=⟨rfl,rfl,GE b,fun p c=>SC b p c⟩
def wJ {a R}(c:Yh a R)(d:(RH (Yi a R)).Ok):rq (RH (Yi a R)) a R:=⟨rfl,rfl,tC d,fun p e=>by
 obtain⟨q,f,g⟩:=SC c p e;have b:=OJ (dg:=In (Zw p.pan)) (fun n=>q5 _ aB) (Yi a R).root 0;refine⟨q,?_,g⟩
 show(Yi a R).prs[(Yi a R).root.norm.find (In (Zw p.pan)) 0]?=I q
 rw[b]
 exact f⟩
def uy {t a R}(h:rq t a R)(p b):R8 t.rts t.nms p b (Rb R (YC (Zu R) (YN R p (Zw p.pan)) R.length))=UF a R p b:=by
 rw[h.r,h.n,Oy]
def qP (s w p)(g:Xc s=.ok p):
  A V 16 #[Y s] w fun e h=>(∃T,e=E (Z (I ⟨T,0,J⟩))/\qi w.heap.size h T (Yi p.1 p.2))/\F0 w h:=by
 have i:=o (TG s w);have m:=o g;clear g;go_enter func16,ntmps16;go_wp2_with fail;refine i.o.mono ?_;rintro e j k;obtain⟨⟨T,B,n,x,y,z,rfl,l,f,b,q,d,a⟩,c⟩:=(SX.ok m.o).1 k;have r:Hid (F0 w j):=Fr.of_below c
 have t:Hid (qi w.heap.size j T (Yi p.1 p.2)):=by
  obtain⟨u,v,e⟩:=oL d.ro;subst e;exact⟨n,l,b,w.heap.size,u,v,G _,a.tz,a.tg (oS d.ro (x3 _)),oS d.ro az⟩
 clear k l f b q d a c i;go_wp2;go_ret;exact⟨⟨T,rfl,t.o⟩,r.o⟩
def take_nil (w X):A V 94 #[Z (I ⟨X,0,J⟩),Z J] w fun e a=>e=E (.tuple #[])/\a=w:=by
 go_enter func94,ntmps94;go_wp2
 go_end0
 exact⟨rfl,rfl⟩
def JR (w X M f n T b D)(h:OQ w X M f n D)(g:w.cell? ⟨T,1,J⟩=I (Z (I ⟨b,0,J⟩))):A V 94 #[Z (I ⟨X,0,J⟩),Z (I ⟨T,0,J⟩)] w fun e c=>e=E (.tuple #[])/\OQ c X M b n D/\Fr (fun k=>k=X) w c:=by
 have i:=bC h.bx 0 _ rfl;have j:=bF h.bx 0;have a:=o h;clear h;go_enter func94,ntmps94;go_wp2
 go_end0
 have d:Fr (fun k=>k=X) w (w.setCell ⟨X,0,J⟩ (Z (I ⟨b,0,J⟩))):=(Fr.refl (fun k=>k=X) w).setCell (p:=⟨X,0,J⟩) (Or.inl rfl) _;exact⟨rfl,⟨heap_setCell_same w X 0 _ _ _ a.o.bx,Q7 a.o.mp d (fun e=>a.o.ne e.symm),a.o.ne⟩,d⟩
def OQ.lt {w X M a n D}(h:OQ w X M a n D):X<w.heap.size/\M<w.heap.size:=by
 obtain⟨es,c,b,_⟩:=h.mp;exact⟨(iA.1 h.bx).1,(iA.1 b).1⟩
def DT (w X M r n D s p)(h:OQ w X M r n D)(t:Xc s=.ok p):
  A V 52 #[Z (I ⟨X,0,J⟩),Y s] w fun e j=>e=E (.tuple #[U O 0,U O 0])/\(∃b,OQ j X M b n D/\RJ w.heap.size j b (Yi p.1 p.2))/\Fr (fun k=>k=X) w j:=by
 have u:=o (TG s w);have C:=o t;have v:=o h;clear h t;go_enter func52,ntmps52;go_wp2_with fail;refine u.o.mono ?_;rintro e l x;obtain⟨⟨T,B,b,Q,R,S,rfl,F,m,d,H,c,a⟩,f⟩:=(SX.ok C.o).1 x;have y:Hid (F0 w l):=Fr.of_below f
 have K:Hid (RJ w.heap.size l b (Yi p.1 p.2)):=by
  obtain⟨L,N,e⟩:=oL c.ro;subst e;exact⟨w.heap.size,L,N,G _,a.tz,a.tg (oS c.ro (x3 _)),oS c.ro az⟩
 have q:=o d;clear x F m d H c a f u;go_wp2_with fail;refine(JR l X M r n T b D (v.o.fr y.o aA aA) q.o).mono ?_;rintro e W ⟨rfl,z,g⟩;have P:=o z;have i:=o g;clear z g;go_wp2
 go_ret2
 exact⟨rfl,⟨b,P.o,K.o.fr i.o (fun k c=>by rw[c];exact v.o.lt.1)⟩,(y.o.mono aA).trans i.o⟩
def FF (w X s f)(c:Xc s=.error f):
  A V 52 #[Z (I ⟨X,0,J⟩),Y s] w fun e d=>e=E (.tuple #[U O f.1,U O f.2])/\F0 w d:=by
 have g:=o (TG s w);have j:=o c;clear c;go_enter func52,ntmps52;go_wp2_with fail;refine g.o.mono ?_;rintro e h i;obtain⟨rfl,a⟩:=(SX.err j.o).1 i;have k:Hid (F0 w h):=Fr.of_below a;clear i a g;go_wp2_with fail;refine(take_nil h X).mono ?_;rintro e d ⟨rfl,b⟩;replace b:=b.symm;subst b;go_wp2
 go_ret2
 exact⟨rfl,k.o⟩
def wK (w X M j n D s t)(h:OQ w X M j n D)(P:s.size<=9223372036854775807)(l:TE s.data.toList=I t)(m:OG w):
  A V 91 #[Z (I ⟨X,0,J⟩),Y s] w fun e d=>e=E (z9 true)/\(∃a,OQ d X M a n D/\RJ w.heap.size d a t)/\Fr (fun k=>k=X) w d:=by
 have f:=o (LK s w az m);rw[l]at f;have p:=o h;clear h l m;go_enter func91,ntmps91;go_wp2_with fail;refine f.o.mono ?_;rintro e g z;obtain⟨⟨T,Q,B,a,C,F,rfl,G,q,H,r,u,K⟩,v⟩:=z;have x:Hid (F0 w g):=v;have L:Hid (RJ w.heap.size g a t):=⟨B,C,F,az,u,r⟩;have i:=o q;clear v G q H r u K f;go_wp2_with fail;refine(JR g X M j n T a D (p.o.fr x.o aA aA) i.o).mono ?_;rintro e R ⟨rfl,y,b⟩;have N:=o y;have c:=o b;clear y b;go_wp2;go_ret;exact⟨rfl,⟨a,N.o,L.o.fr c.o (fun k O=>by rw[O];exact p.o.lt.1)⟩,(x.o.mono aA).trans c.o⟩
def wL (w X s)(j:s.size<=9223372036854775807)(c:TE s.data.toList=J)(d:OG w):
  A V 91 #[Z (I ⟨X,0,J⟩),Y s] w fun e f=>e=E (z9 false)/\F0 w f:=by
 have a:=o (LK s w z d);rw[c]at a;clear c d;go_enter func91,ntmps91;go_wp2_with fail;refine a.o.mono ?_;rintro e h ⟨rfl,g⟩;have i:=o g;clear g a;go_wp2_with fail;refine(take_nil h X).mono ?_;rintro e f ⟨rfl,b⟩;replace b:=b.symm;subst b;go_wp2;go_ret;exact⟨rfl,i.o⟩
def qQ:DataW Unit:=.map []
def C3 {a b:ByteArray}(h:a.data.toList≠b.data.toList):(Lit.string a.data.toList)≠(Lit.string b.data.toList):=fun e=>h (by injection e)
def JS {w b M}(h:w.mapTurned b M):Fr (fun k=>k=M) w b:=(Fr.refl _ w).grown h.grown (fun k a=>Or.inl (by injection a with a;exact a.symm))
def Q8:Yh [] []:=⟨y,y,trivial,y,y⟩
def FG (w):A V 27 #[] w fun e l=>(∃X M b f,e=E (Z (I ⟨X,0,J⟩))/\f.heap.size<=X/\f.heap.size<=M/\OQ l X M b 0 qQ/\RJ w.heap.size f b (Yi [] [])/\F0 w f/\F0 f l)/\F0 w l:=by
 have s:=@run_makeMap V;have g:Hid (F0 w (w.alloc (F #[y3 J 0 0,y3 J 0 0] 89))):=(Fr.refl _ _).alloc _;have c:=Za (aN w (F #[y3 J 0 0,y3 J 0 0] 89));go_enter func27,ntmps27;go_wp2_with fail;have h:Hid (Bk (w.alloc (F #[y3 J 0 0,y3 J 0 0] 89)) w.heap.size (y3 J 0 0) (y3 J 0 0) [] [] []):=⟨bC c.o 0 _ rfl,bC c.o 1 _ rfl,fun o=>bF c.o o,oZ _ _ _ _,oZ _ _ _ _,rfl,y,y⟩;refine(JI _ w.heap.size _ _ [] [] [] w.heap.size h.o Q8 (G _)).mono ?_;rintro e a ⟨⟨b,rfl,_,m⟩,i⟩;have n:=Za m.tz;have j:=m.tg (rts:=[]) (ra:=J) (rc:=0) (oZ _ _ _ _);have d:=Za (g.o.trans i);have p:=Za j;clear m j i h c g;have k:Hid (F0 a ((a.alloc (.map #[] 0)).alloc (F #[Z (I ⟨b,0,J⟩),.map (I a.heap.size)] 103))):=((Fr.refl _ _).alloc _).alloc _
 have q:Hid (((a.alloc (.map #[] 0)).alloc (F #[Z (I ⟨b,0,J⟩),.map (I a.heap.size)] 103)).heap[a.heap.size+1]?=I (F #[Z (I ⟨b,0,J⟩),.map (I a.heap.size)] 103)):=by
  have e:=aN (a.alloc (.map #[] 0)) (F #[Z (I ⟨b,0,J⟩),.map (I a.heap.size)] 103);rw[show(a.alloc (.map #[] 0)).heap.size=a.heap.size+1 from y]at e;exact e
 have r:Hid (((a.alloc (.map #[] 0)).alloc (F #[Z (I ⟨b,0,J⟩),.map (I a.heap.size)] 103)).ownsMap V 9 (unitElem (H:=Unit)) a.heap.size 0 (.map [])):=Q7 (S:=fun _=>False) (World.ownsMap_made _ _ _ _) ((Fr.refl _ _).alloc _) y;go_wp2;go_ret;have t:=d.o.size;exact⟨⟨_,_,b,a,rfl,z,z,⟨q.o,r.o,z⟩,⟨w.heap.size,J,0,G _,n.o,p.o,oZ _ _ _ _⟩,d.o,k.o⟩,d.o.trans k.o⟩
def rx (w X M b n D s)(h:OQ w X M b n D)(c:s.size<=maxLen):
  A V 53 #[.pointer (I ⟨X,0,J⟩),.string s,.bool true] w fun e d=>e=.returned (.tuple #[])/\OQ d X M b n (D.del (.string s.data.toList))/\Fr (fun k=>k=M) w d:=by
 have r:=bC h.bx 1 _ rfl;have m:Hid (keyOf V 9 (.string s)=I (.string s.data.toList)):=keyOf_string_mk underlying9 c
 have f:=fun p=>h.mp.drop DP underlying101 m.o p
 have a:=o h;clear h c;obtain⟨t,g,i,j⟩:=f 0;have q:=o i;have l:=o (JS j);clear i j f;go_enter func53,ntmps53;go_wp2
 go_end0
 exact⟨rfl,⟨l.o.whole a.o.bx a.o.ne,q.o,a.o.ne⟩,l.o⟩
def wM (w X M r n D s)(h:OQ w X M r n D)(C:n<=140737488355328)(l:XP s=true):
  A V 53 #[.pointer (I ⟨X,0,J⟩),.string s,.bool false] w fun e b=>e=.returned (.tuple #[])/\OQ b X M r (n+1) (D.put (.string s.data.toList) (.agg []))/\Fr (fun k=>k=M) w b:=by
 have E:=QW l;have m:=o (QR s w az);rw[l]at m
 have F:Hid (∀W,A V 96 #[.string s] W fun e b=>e=.returned (.string s)/\F0 W b):=fun W=>Vd s W az
 have G:Hid (keyOf V 9 (.string s)=I (.string s.data.toList)):=keyOf_string_mk underlying9 aM
 have K:Hid (∀W,F0 w W->∃b,(Instr.mapUpdate 101 (.map (I M)) (.string s) (.agg #[])).run V W=.ok () b/\b.ownsMap V 9 (unitElem (H:=Unit)) M (n+1) (D.put (.string s.data.toList) (.agg []))/\W.mapTurned b M):=fun W p=>(h.fr p aA aA).mp.store DP underlying101 aM G.o unitElem_mk
 have t:Hid (∀W,F0 w W->W.cell? ⟨X,1,J⟩=I (.map (I M))):=fun W p=>bC (p.whole h.bx aA) 1 _ rfl
 have u:=o h;clear h l C E;go_enter func53,ntmps53;go_wp2_with fail;refine m.o.mono ?_;rintro e O ⟨rfl,d⟩;have f:=o d;clear d m;go_wp2;refine wp_region_held_drew (S:=fun W=>W.cell? ⟨X,1,J⟩=I (.map (I M))) aC (t.o _ f.o.drew) (fun c=>?_);refine ZJ 0 c ?_
 try go_frame
 refine ZJ 1 c ?_
 try go_frame
 refine ZJ 2 c ?_
 try go_frame
 refine ZJ 3 c ?_
 try go_frame
 refine ZJ 4 c ?_
 try go_frame
 refine ZJ 6 c ?_
 try go_frame
 refine wpAnyH_ready (rs:=[5]) aC aA ?_;refine Zb rfl (fun q g=>?_) y4
 try rw[if_pos aD]
 go_simp;refine(F.o _).mono ?_;rintro e L ⟨rfl,i⟩;have a:=o (f.o.drew.trans i);clear i;refine g.out _ _ (t.o _ a.o) (fun c=>?_);clear g q
 try go_frame
 obtain⟨P,v,x,y⟩:=K.o L a.o;have N:=o x;have z:=o (JS y);clear x y;refine wpAnyH_ready (rs:=[7]) aC aA ?_;refine Zb rfl (fun q g=>?_) y4
 try rw[if_pos aD]
 go_simp;have j:=u.o.ne;have B:=z.o.whole (a.o.whole u.o.bx aA) j;refine g.out _ _ (bC B 1 _ rfl) (fun c=>?_);clear g q
 try go_frame
 refine wpAnyH_done aC ?_ _;go_wp2
 go_end0
 exact⟨rfl,⟨B,N.o,j⟩,(a.o.mono aA).trans z.o⟩
def rz {w l c X M g n D a i j d e m}(h:OQ w X M g n D)(o:Ao w l c a i j d e m):pE w c (.func (.func 98) #[Z (I ⟨X,0,J⟩)] #[]) (Fz a D):=fun W k=>by
 have b:=o.fr k;obtain⟨p,q,r,s,f,_⟩:=b.tg.bx;exact wC W c W.heap.size X M g n D a i j (R6.of (bC f 0 _ rfl) b.tg.ro (G _) b.bk.rt) b.bk.r6 (h.fr k y y)
def wO (w X M s n zb D b ra rc d t tr S p G)(h:OQ w X M s n D)(ht:Ao w zb s b ra rc d t tr)(hs:p.pan.size<=maxLen)(hR:∀W,F0 w W->A V 97 #[Y S] W fun e H=>e=E (.tuple #[X4 p,z9 true])/\F0 W H)(he:YD p=true->Ox b d t tr p G):
  A V 54 #[Z (I ⟨X,0,J⟩),Y S] w fun e H=>e=E (Rc (R8 b d p (Fz b D) G))/\F0 w H:=by
 have g0:∀(fn:Fn)(first K:Array Value)(w:j0),(Instr.makeFunc fn first K).run V w=.ok (.func fn first K) w:=fun _ _ _ _=>rfl
 have u:=o hR;have i:=o (aN w (F #[U O 0,Y ⟨#[]⟩,Y ⟨#[]⟩] 38));have x:Hid (F0 w (w.alloc (F #[U O 0,Y ⟨#[]⟩,Y ⟨#[]⟩] 38))):=(Fr.refl _ _).alloc _
 have HT:Hid (∀W,F0 w W->A V 36 #[Z (I ⟨s,0,J⟩),.agg #[Y p.pan,U O p.mcc,U O p.am,U O p.cur],.func (.func 98) #[Z (I ⟨X,0,J⟩)] #[]] W fun e H=>e=E (Rc (R8 b d p (Fz b D) G))/\F0 W H):=fun W q=>Jn W zb s b ra rc d t tr _ (Fz b D) p G (ht.fr q) (rz (h.fr q aA aA) (ht.fr q)) he hs
 have HX:Hid (∀W,F0 w W->W.cell? ⟨X,0,J⟩=I (Z (I ⟨s,0,J⟩))):=fun W q=>bC (q.whole h.bx aA) 0 _ rfl
 have L:=o h.lt.1;clear h ht he hs hR;unfold X4 at u;go_enter func54,ntmps54;go_upto_region 1 with fail;generalize w.alloc _=w0 at*;obtain⟨Q,hQ⟩:=ad w.heap.size;have HQ:Hid (w.heap.size<=Q/\X<Q):=⟨q1 hQ,by rw[<-hQ];exact L.o⟩;rw[hQ]at i ⊢;clear hQ L;go_wp2_with fail;refine(u.o w0 x.o).mono ?_;rintro e N ⟨rfl,l⟩;have y:Hid (F0 w (N.alloc (F #[Y p.pan,U O p.mcc,U O p.am,U O p.cur] 35))):=(x.o.trans l).alloc _;have b0:=o ((l.alloc (F #[Y p.pan,U O p.mcc,U O p.am,U O p.cur] 35)).whole i.o aA);have c0:=o (aN N (F #[Y p.pan,U O p.mcc,U O p.am,U O p.cur] 35));have d0:Hid (Q<N.heap.size):=nL (iA.1 i.o).1 l.size;clear l x i u;go_upto_region 4 with fail;generalize N.alloc _=w2 at*;generalize N.heap.size=P at*
 have z:Hid (∀f,Fr (fun j=>j=Q) w2 f->f.cell? ⟨X,0,J⟩=I (Z (I ⟨s,0,J⟩))/\f.cell? ⟨P,0,J⟩=I (Y p.pan)/\f.cell? ⟨P,1,J⟩=I (U O p.mcc)/\f.cell? ⟨P,2,J⟩=I (U O p.am)/\f.cell? ⟨P,3,J⟩=I (U O p.cur)):=fun f q=>by
  have e:=q.whole c0.o (by have:=d0.o;show P≠Q;omega);have hx:=HX.o _ y.o;have hq:=HQ.o.2;exact⟨(q.cell (p:=⟨X,0,J⟩) (bL w2 _ hx) (by show X≠Q;omega)).trans hx,bC e 0 _ rfl,bC e 1 _ rfl,bC e 2 _ rfl,bC e 3 _ rfl⟩
 obtain⟨a,g⟩:=ad (R8 b d p (Fz b D) G);have e0:=o g;rw[g]at HT;clear g;unfold Rc at HT;refine wp_region_held_drew (S:=fun f=>f.cell? ⟨X,0,J⟩=I (Z (I ⟨s,0,J⟩))/\f.cell? ⟨P,0,J⟩=I (Y p.pan)/\f.cell? ⟨P,1,J⟩=I (U O p.mcc)/\f.cell? ⟨P,2,J⟩=I (U O p.am)/\f.cell? ⟨P,3,J⟩=I (U O p.cur)) aC (z.o _ (Fr.refl _ _).drew) (fun r=>?_);refine ZJ 0 r ?_
 try go_frame
 refine ZJ 1 r ?_
 try go_frame
 refine ZJ 2 r ?_
 try go_frame
 refine ZJ 3 r ?_
 try go_frame
 refine ZJ 4 r ?_
 try go_frame
 refine ZJ 5 r ?_
 try go_frame
 refine ZJ 6 r ?_
 try go_frame
 refine wpAnyH_ready (rs:=[7]) aC aA ?_;refine Zb rfl (fun K2 R=>?_) y4
 try rw[if_pos aD]
 go_simp;refine(HT.o _ y.o.drew).mono ?_;rintro e T ⟨rfl,a0⟩;have m:=o (((Fr.refl (fun _=>False) w2).drew).trans a0);have c:=o (m.o.whole b0.o aA);clear a0;refine R.out _ _ (z.o _ (m.o.mono aA)) (fun r=>?_);clear R K2
 try go_frame
 have o0:=bC c.o 0 _ rfl;have o1:=bC c.o 1 _ rfl;have o2:=bC c.o 2 _ rfl;have h0:=bF c.o;refine wpAnyH_ready (rs:=[8]) aC aA ?_;refine Zb rfl (fun K2 R=>?_) y4
 try rw[if_pos aD]
 go_simp;have B:Fr (fun j=>j=Q) T (((T.setCell ⟨Q,0,J⟩ (U O (a.1:Nat))).setCell ⟨Q,1,J⟩ (Y a.2.1)).setCell ⟨Q,2,J⟩ (Y a.2.2)):=(((Fr.refl (fun j=>j=Q) T).setCell (p:=⟨Q,0,J⟩) (Or.inl rfl) _).setCell (p:=⟨Q,1,J⟩) (Or.inl rfl) _).setCell (p:=⟨Q,2,J⟩) (Or.inl rfl) _;have f0:F0 w (((T.setCell ⟨Q,0,J⟩ (U O (a.1:Nat))).setCell ⟨Q,1,J⟩ (Y a.2.1)).setCell ⟨Q,2,J⟩ (Y a.2.2)):=(y.o.trans m.o).monoNew B (fun k hk=>Or.inr (aj HQ.o.1));have C:=Lg (v0:=U O (a.1:Nat)) (v1:=Y a.2.1) (v2:=Y a.2.2) c.o;refine R.out _ _ (z.o _ ((m.o.mono aA).trans B)) (fun _=>?_);clear R K2 B
 try go_frame
 generalize((T.setCell ⟨Q,0,J⟩ (U O (a.1:Nat))).setCell ⟨Q,1,J⟩ (Y a.2.1)).setCell ⟨Q,2,J⟩ (Y a.2.2)=W8 at*;refine wpAnyH_done aC ?_ _;go_wp2_with fail;have s0:=bC C 0 _ rfl;have s1:=bC C 1 _ rfl;have s2:=bC C 2 _ rfl;refine bodyPost_ret (v:=.agg #[U O (a.1:Nat),Y a.2.1,Y a.2.2]) (by simp[results,results54,go_sem,s0,s1,s2]) rfl ⟨by rw[e0.o];rfl,f0⟩
def FH (a b:Nat):∀(n k:Nat),k<=SM a b n k
 |0,k=>G _
 |n+1,k=>by
  unfold SM
  split
  ·exact z4 (Nat.le_succ k) (FH a b n (k+1))
  exact G _
def JT {a b m:Nat}(h:vC a b m):∀(n k:Nat),m<=n+k->m<=SM a b n k
 |0,k,h2=>by simpa[SM]using h2
 |n+1,k,h2=>by
  rcases y9 k m with c|c
  ·have e:=z6 (show 0<10 by omega) (show k+1<=m from c)
   have d:a/10^k % 10=0:=by
    obtain⟨j,f⟩:=h.1;rw[f,show m=k+(1+(m-(k+1)))from z,q4,q4,q7,q7,x0 _ (C z),j7,Nat.mul_mod_right]
   unfold SM;rw[if_pos ⟨d,aj h.2⟩];exact JT h n (k+1) z
  exact z4 c (FH a b _ k)
def Np {d c:Nat}{q:Z6}(w:c<10^d)(D:d<=6)(E:q.d<=d)(y:q.x*10^(d-q.d)+10^(d-q.d)<=c+1):∀(n b:Nat),c+1-b<=n->b<=q.x*10^(d-q.d)->ZK q (Yr d c n b)=2
 |0,b,hn,hl=>by have:=C (n:=d-q.d) (show 0<10 by omega);omega
 |n+1,b,hn,hl=>by
  have F:=C (n:=d-q.d) (show 0<10 by omega);have f:b<=c:=az;have H:=ye f w;obtain⟨⟨j,i⟩,I⟩:=NN f
  have l:=fun m (h:vC b c m)=>JT h 9 0
  change∀m,vC b c m->m<=9+0->m<=SZ b c at l
  unfold Yr;rw[if_pos f];generalize SZ b c=k at*;have o:=C (n:=k) (show 0<10 by omega);unfold ZK
  split
  ·rfl
  rename_i s
  have u:b/10^k=j:=by rw[i,x0 _ o]
  have z:¬(q.x*10^(d-q.d)<b+10^k):=fun p=>by
   rcases y9 k (d-q.d)with A|A
   ·obtain⟨t,g⟩:10^k∣q.x*10^(d-q.d):=Nat.dvd_trans (Nat.pow_dvd_pow 10 (q2 A)) (Nat.dvd_mul_left _ _);have J:j<=t:=y5 (by rw[<-i,<-g];exact hl) o;have K:t<j+1:=y6 (a:=10^k) (by rw[<-g,j4,<-i];exact p);have G:t=j:=az
    have B:b=q.x*10^(d-q.d):=by rw[g,G];exact i
    have:=l (d-q.d) ⟨⟨q.x,by rw[B,z5]⟩,by rw[B];exact y⟩ az;omega
   refine s (UT.2 ⟨by show d-k<=q.d;omega,?_⟩)
   show q.x/10^(q.d-(d-k))=b/10^k
   rw[u]
   have e:10^k=10^(d-q.d)*10^(q.d-(d-k)):=by rw[<-q4];congr 1;omega
   have v:10^(d-q.d)*(j*10^(q.d-(d-k)))<=10^(d-q.d)*q.x:=by rw[q3,<-e,z5 j,<-i,z5];exact hl
   have r:10^(d-q.d)*q.x<10^(d-q.d)*((j+1)*10^(q.d-(d-k))):=by rw[q3,<-e,z5 (j+1),j4,<-i,z5];exact p
   exact z8 (y5 v F) (y6 r)
  rw[if_neg ?_]
  ·exact Np w D E y n _ az az
  intro h;obtain⟨v,r⟩:=UT.1 h
  change q.d<=d-k at v
  change b/10^k/10^(d-k-q.d)=q.x at r
  rw[<-Xb,show k+(d-k-q.d)=d-q.d from az]at r;have:=Nat.div_mul_le_self b (10^(d-q.d));rw[r]at this;omega
def L9 {q:Z6}:∀{a:List Z6},ZK q a=1->∃p,p∈a/\q.holds p=true
 |[],h=>by simp[ZK]at h
 |p::r,h=>by
  unfold ZK at h
  split at h
  ·omega
  split at h
  ·rename_i b;exact⟨p,List.mem_cons_self,b⟩
  obtain⟨c,d,e⟩:=L9 h;exact⟨c,List.mem_cons_of_mem _ d,e⟩
def DU {d e f q}(g:f<10^d)(i:d<=6)(h:ZK q (YX d e f)=1):q.d<d/\(e/10^(d-q.d)=q.x\/f/10^(d-q.d)=q.x):=by
 have l:=Mm g i h;have r:=C (n:=d-q.d) (show 0<10 by omega);refine⟨l,?_⟩
 have A:¬(e<=q.x*10^(d-q.d)/\q.x*10^(d-q.d)+10^(d-q.d)<=f+1):=fun⟨a,b⟩=>by
  have:=Np g i (q2 l) b (f+1-e) e (G _) a;unfold YX at h;omega
 obtain⟨y,s,t,j⟩:∃y,e<=y/\y<=f/\y/10^(d-q.d)=q.x:=by
  obtain⟨p,u,v⟩:=L9 h;have k:YY p (p.x*10^(6-p.d)):=x9 _ (C az);obtain⟨B,m⟩:=Uv g i _ _ u (c:=p.x*10^(6-p.d));have o:=Hm v az k;refine⟨_,(m k).1,(m k).2,?_⟩;unfold YY at o;rw[<-Xb,show 6-d+(d-q.d)=6-q.d from az];exact o
 have w:=Nat.div_add_mod y (10^(d-q.d));have D:=q5 y r;rw[j,z5]at w;rcases y9 (q.x*10^(d-q.d)) e with z|z
 ·exact .inl (z8 az (by rw[j5];omega))
 exact .inr (z8 az (by rw[j5];omega))
def NY (d n:Nat)(q:Z6):Nat:=if q.d<d/\n/10^(d-q.d)=q.x then 1 else 0
def TX (f:Nat->Nat):Nat->Nat
 |0=>0
 |m+1=>TX f m+f m
def Ka (f g:Nat->Nat):∀m,TX (fun k=>f k+g k) m=TX f m+TX g m
 |0=>rfl
 |m+1=>by simp only[TX];rw[Ka f g m];omega
def I3 (d n:Nat)(q:Z6):∀m,m<=10->TX (fun k=>NY d n (q.longer k)) m<=if q.d<d/\n/10^(d-q.d)=q.x/\n/10^(d-(q.d+1))% 10<m then 1 else 0
 |0,_=>x3 _
 |m+1,hm=>by
  have a:=I3 d n q m z
  show TX _ m+NY d n (q.longer m)<=_
  generalize TX _ m=S at*;unfold NY
  show S+(if q.d+1<d/\n/10^(d-(q.d+1))=q.x*10+m then 1 else 0)<=_
  rcases y9 (q.d+1) d with h|h
  ·rw[show d-q.d=(d-(q.d+1))+1 from z,Xb,j7]at a ⊢
   split at a<;>split<;>split<;>omega
  rw[if_neg z]
  split at a<;>split<;>omega
def F8 (R:List Ze)(q:Z6):Nat:=(R.map fun r=>NY r.digits r.lo q+NY r.digits r.hi q).sum
def FI (q:Z6):∀R:List Ze,TX (fun k=>F8 R (q.longer k)) 10<=F8 R q
 |[]=>by simp[F8,TX]
 |r::R=>by
  have a:=I3 r.digits r.lo q 10 (G _);have b:=I3 r.digits r.hi q 10 (G _);have c:=FI q R
  show TX (fun k=>NY r.digits r.lo (q.longer k)+NY r.digits r.hi (q.longer k)+F8 R (q.longer k)) 10<=NY r.digits r.lo q+NY r.digits r.hi q+F8 R q
  rw[Ka (fun k=>NY r.digits r.lo (q.longer k)+NY r.digits r.hi (q.longer k)),Ka (fun k=>NY r.digits r.lo (q.longer k))];have d:TX (fun k=>NY r.digits r.lo (q.longer k)) 10<=NY r.digits r.lo q:=z4 a (by unfold NY;split<;>split<;>omega);have e:TX (fun k=>NY r.digits r.hi (q.longer k)) 10<=NY r.digits r.hi q:=z4 b (by unfold NY;split<;>split<;>omega);omega
def C4 {q:Z6}{r:Ze}(h:q.d<r.digits/\(r.lo/10^(r.digits-q.d)=q.x\/r.hi/10^(r.digits-q.d)=q.x)):∀{R:List Ze},r∈R->1<=F8 R q
 |x::R,a=>by
  show 1<=NY x.digits x.lo q+NY x.digits x.hi q+F8 R q
  rcases x5.1 a with e|a
  ·subst e;unfold NY;rcases h.2 with b|b
   ·rw[if_pos ⟨h.1,b⟩];omega
   rw[if_pos (c:=q.d<r.digits/\r.hi/10^(r.digits-q.d)=q.x) ⟨h.1,b⟩];omega
  have:=C4 h a;omega
def wP (q:Z6):∀R:List Ze,F8 R q<=2*R.length
 |[]=>by simp[F8]
 |r::R=>by
  have:=wP q R
  show NY r.digits r.lo q+NY r.digits r.hi q+F8 R q<=_
  unfold NY;rw[y7]
  split<;>split<;>omega
def FJ (W:Nat->List UInt8):∀m,((j8 m).flatMap W).length=TX (fun k=>(W k).length) m
 |0=>rfl
 |m+1=>by rw[List.range_succ,List.flatMap_append,z3,FJ W m];simp[TX]
def C5 {f g:Nat->Nat}:∀m,(∀k,k<m->f k<=g k)->TX f m<=TX g m
 |0,_=>G _
 |m+1,h=>Nat.add_le_add (C5 m fun k a=>h k z) (h m z)
def FK (c:Nat)(f:Nat->Nat):∀m,TX (fun k=>1+c*f k) m=m+c*TX f m
 |0=>by simp[TX]
 |m+1=>by simp only[TX];rw[FK c f m,Nat.mul_add];omega
def FL {f:Nat->List Nat->Tr×List Nat}{B:Nat->Nat}(b:∀d a,(f d a).1.wr.length<=B d):∀(k:Nat)(a:List Nat)(d:Nat),d<k->((YI f k a).1 d).wr.length<=B d
 |0,_,_,hd=>z
 |k+1,a,d,hd=>by
  by_cases e:d=k
  ·subst e;simp only[YI,if_true];exact b d _
  simp only[YI,if_neg e];exact FL b k a d z
def FM {R:List Ze}(g:∀r,r∈R->PF r):∀(n:Nat)(q:Z6)(a c:Nat)(h:List Nat),7<=n+q.d->q.d<=6->(ZI R n q a c h).1.wr.length<=1+10*(6-q.d)*F8 R q
 |0,q,_,_,_,hn,hq=>z
 |n+1,q,a,c,h,hn,hq=>by
  simp only[ZI]
  split
  ·show(ZD 1 _).length<=_
   rw[Zi];omega
  rename_i k;obtain⟨j,l⟩:=Nat.exists_testBit_of_ne_zero k;rcases(PE R 0 (a,0) j).2.1 l with m|⟨r,_,o,_,p⟩
  ·simp at m
  have i:=mG o;have s:=DU (g r i).2 (g r i).1 p;have u:=(g r i).1;have v:=C4 s i
  have t:=FL (f:=fun d b=>ZI R n (q.longer d) (YH q c 0 R (a,0)).1 (YH q c 0 R (a,0)).2 b) (B:=fun d=>1+10*(5-q.d)*F8 R (q.longer d)) (fun d b=>by
   have:=FM g n (q.longer d) (YH q c 0 R (a,0)).1 (YH q c 0 R (a,0)).2 b (by show 7<=n+(q.d+1);omega) (by show q.d+1<=6;omega);rw[show 6-(q.longer d).d=5-q.d from by show 6-(q.d+1)=_;omega]at this
   exact this) 10 h
  show(ZD 1 0++(j8 10).flatMap fun d=>((YI _ 10 h).1 d).wr).length<=_
  have e:=z4 (q1 (FJ _ 10)) (C5 10 t);rw[FK]at e;rw[lA,Zi];have w:=x8 (10*(5-q.d)) (FI q R)
  have x:10*(6-q.d)*F8 R q=10*(5-q.d)*F8 R q+10*F8 R q:=by rw[<-j6];congr 1;omega
  omega
def FN {a R}(b:Yh a R):(Yi a R).root.wr.length<=1111:=by
 have h:=FM (R:=R) (fun r c=>⟨(b.rl r c).bn.1,(b.rl r c).bn.2.1⟩) 7 ⟨0,0⟩ 0 (2^R.length-1) [] y y;have d:=wP ⟨0,0⟩ R;have e:=b.l8;have f:10*(6-0)*F8 R ⟨0,0⟩<=60*16:=x8 60 z;exact z4 h aO
def qj (t:Tk):Prop:=t.sort=0->XP t.text=true
def wQ {s k}(h:k<s.size)(a:ZM (Zy s k)=true)(g:Xe (s.extract k (k+ZB Zr s k))=false)(q:¬8<ZB Zr s k):XP (s.extract k (k+ZB Zr s k))=true:=by
 have i:=XT Zr s k h (by simp[Zr,a]);have r:=Xz Zr s k z;have l:=Rl s k (k+ZB Zr s k) 0 z;have m:(s.extract k (k+ZB Zr s k)).size=ZB Zr s k:=aF;unfold XP;rw[g,l,Nat.add_zero,a,m];simp only[Bool.not_false,Bool.true_and,Bool.and_eq_true,decide_eq_true_eq,y8];refine⟨i,z,fun c b=>?_⟩;rw[Lib.extract_data]at b;obtain⟨j,n,e⟩:=x6 b;rw[List.getElem_take,List.getElem_drop]at e;obtain⟨d,f,o⟩:=QE Zr (s.data.toList.drop k) j (by show j<ZB Zr s k;simp at n;omega);rw[List.getElem?_drop]at f;obtain⟨_,p⟩:=iG.1 f;rw[<-e,p];exact o
def zw {s k a c t}(h:k<s.size)(b:Zt s k a=.tok t c):qj t:=by
 unfold Zt at b
 repeat' split at b
 all_goals first|contradiction|(injection b with d f;subst d;first|(intro e;simp at e;done)|exact fun _=>wQ h aG (by simpa using‹¬Xe _=true›) aG)
def qk {s}:∀n k a c g,s.size-k=n->(∀t,t∈c->qj t)->ZN s k a c=.ok g->∀t,t∈g->qj t:=by
 intro n
 induction n using x2 with
 |ind n l=>
  intro k a c g o j h;by_cases d:k<s.size
  ·cases f:Zt s k a with
   |skip i m=>
    rw[YP d f]at h;have:=We d f;exact l (s.size-i) z i m c g rfl j h
   |tok t i=>
    rw[WK d f]at h;have:=WJ d f;refine l (s.size-i) z i a (c++[t]) g rfl (fun u b=>?_) h;rcases N.1 b with b|b
    ·exact j u b
    simp at b;subst b;exact zw d f
   |bad=>rw[XC d f]at h;cases h
  rw[WL d]at h;injection h with h;subst h;intro u b;rcases N.1 b with b|b
  ·exact j u b
  simp at b;subst b;exact fun e=>by simp at e
def uz:VC->Prop
 | .route e=>XP e.name.text=true
 | .rule e=>XP e.name.text=true/\(e.act.decline=true\/1<=e.act.routes.length)
def wR {d c}:∀m i b l k,d.length-i=m->X5 d i c b=.ok (l,k)->b.length<=l.length:=by
 intro m
 induction m using x2 with
 |ind m g=>
  intro i b l k p a;rw[X5]at a
  split at a
  ·rename_i h;have j:=Uu h
   split at a
   ·cases a
   rename_i t f n;have e:=(Yx n).2.2;have:=g (d.length-f) z f _ l k rfl a;simp at this;omega
  injection a with a;injection a with o q;subst o;omega
def wS {b i a l k}(h:Xv b i a=.ok (l,k)):1<=l.length:=by
 rw[QG]at h;obtain⟨t,j,_,c⟩:=bI h;exact wR _ j [t] l k rfl c
def uA {ts}(h:∀t,t∈ts->qj t){i e k}(g:ZW ts i=.ok (e,k)):uz e:=by
 have n:∀{i:Nat}{t:Tk}{k:Nat},Yb ts i 0=.ok (t,k)->XP t.text=true:=fun{i t k} o=>by
  obtain⟨rfl,d,_⟩:=Yx o;unfold Zp at d ⊢;rw[gD]at d ⊢
  cases m:ts[i]? with
  |none=>rw[m]at d;simp at d
  |some t=>rw[m]at d;exact h t (mG m) d
 unfold ZW at g
 split at g
 ·obtain⟨r,j,f,d⟩:=bI g;injection d with d;injection d with d _;subst d;unfold WN at f;obtain⟨a,q,g1,f⟩:=bI f;obtain⟨b,p,g2,f⟩:=bI f;obtain⟨c,s,g3,f⟩:=bI f;injection f with f;injection f with f _;subst f;exact n g1
 obtain⟨_,j,f,g⟩:=bI g;obtain⟨r,p,d,g⟩:=bI g;injection g with g;injection g with g _;subst g;unfold Wo at d;obtain⟨a,_,g1,d⟩:=bI d
 iterate 8 obtain⟨_,_,_,d⟩:=bI d
 obtain⟨b,_,g2,d⟩:=bI d;injection d with d;injection d with d _;subst d;refine⟨n g1,?_⟩;unfold Xr at g2
 split at g2
 ·injection g2 with g2;injection g2 with g2 _;subst g2;exact .inl rfl
 split at g2
 all_goals
  obtain⟨l,j,g3,g2⟩:=bI g2;injection g2 with g2;injection g2 with g2 _;subst g2;exact .inr (wS g3)
def uB {ts}(h:∀t,t∈ts->qj t):∀m i c g k,ts.length-i=m->(∀x,x∈c->uz x)->Zs ts i c=.ok (g,k)->∀x,x∈g->uz x:=by
 intro m
 induction m using x2 with
 |ind m p=>
  intro i c g k s n a;by_cases d:(Zp ts i).sort=3
  ·rw[XL d]at a;injection a with a;injection a with a _;subst a;exact n
  cases f:ZW ts i with
  |error l=>rw[YR d f]at a;cases a
  |ok r=>
   obtain⟨e,j⟩:=r
   cases b:ZG ts j Vk with
   |error l=>rw[Xg d f b]at a;cases a
   |ok r=>
    obtain⟨u,o⟩:=r;rw[Wg d f b]at a;have v:=Vb f;have w:=Yz b
    have y:i<ts.length:=Nat.lt_of_not_le fun q=>d (by unfold Zp;rw[gD,x4 q];rfl)
    refine p (ts.length-o) z o _ g k rfl (fun x b=>?_) a;rcases N.1 b with b|b
    ·exact n x b
    simp at b;subst b;exact uA h f
def C6 {c:List Zf}:∀(l:List Tk)(i:Nat)(a:List Nat),i<=4->Zx c i l=.ok a->i+a.length<=4/\a.length=l.length
 |[],i,a,hi,h=>by
  simp only[Zx]at h;injection h with h;subst h
  simpa using hi
 |t::r,i,a,hi,h=>by
  simp only[Zx]at h
  split at h
  ·cases h
  split at h
  ·cases h
  cases b:Zx c (i+1) r with
  |error f=>rw[b]at h;cases h
  |ok d=>
   rw[b]at h;injection h with h;subst h;have:=C6 r (i+1) d z b;simp;omega
def RK:∀{l:List ByteArray},YG l->∀(i j:Nat)(a b:ByteArray),l[i]?=I a->l[j]?=I b->j<i->(a.toList==b.toList)=false
 |x::xs,h,0,j,_,_,_,_,hl=>z
 |x::xs,h,i+1,0,a,b,hi,c,_=>by
  injection c with c;subst c;exact h.1 a (mG (l:=xs) (i:=i) (by simpa using hi))
 |x::xs,h,i+1,j+1,a,b,hi,c,hl=>RK h.2 i j a b (by simpa using hi) (by simpa using c) z
structure zx (rts:List Zf)(R:List Ze):Prop where
 rt:∀t,t∈rts->XP t.name=true/\t.base<=1000000/\t.rate<=1000
 rn:YG (rts.map Zf.name)
 ru:∀r,r∈R->XP r.name=true/\(r.decline=true\/1<=r.routes.length/\r.routes.length<=4)
 un:YG (R.map Ze.name)
def I4:∀(d:List VC)(a:List Zf)(c:List Ze)(p:List Zf×List Ze),zx a c->(∀x,x∈d->uz x)->ZT a c d=.ok p->zx p.1 p.2
 |[],a,c,p,hB,_,h=>by
  simp only[ZT]at h;injection h with h;subst h;exact hB
 | .route e::d,a,c,p,hB,ho,h=>by
  have j:=ho (.route e) y
  cases b:ZF a e with
  |error f=>rw[YZ (f:=f) (by simp only[VD,b])]at h;cases h
  |ok t=>
   rw[Xx (p:=(a++[t],c)) (by simp only[VD,b])]at h;unfold ZF at b
   split at b
   ·cases b
   split at b
   ·cases b
   rename_i k
   split at b
   ·cases b
   split at b
   ·cases b
   injection b with b;subst b;refine I4 d _ c p ⟨fun u g=>?_,?_,hB.ru,hB.un⟩ (fun x l=>ho x (by simp[l])) h
   ·rcases N.1 g with g|g
    ·exact hB.rt u g
    simp at g;subst g;exact⟨j,aO,aO⟩
   rw[q6];exact TQ hB.rn (Bool.eq_false_iff.2 fun b=>k ((Od e.name.text a 0).2 b))
 | .rule e::d,a,c,p,hB,ho,h=>by
  have j:=ho (.rule e) y
  cases b:Ya a c e with
  |error f=>rw[YZ (f:=f) (by simp only[VD,b])]at h;cases h
  |ok t=>
   rw[Xx (p:=(a,c++[t])) (by simp only[VD,b])]at h
   obtain⟨m,n,k,o⟩:t.name=e.name.text/\t.decline=e.act.decline/\XR e.name.text c=false/\Zx a 0 e.act.routes=.ok t.routes:=by
    unfold Ya at b
    repeat' split at b
    all_goals first|contradiction|(injection b with b;subst b;exact⟨rfl,rfl,by simp_all,aG⟩)
   have q:=C6 _ 0 _ z o;refine I4 d a _ p ⟨hB.rt,hB.rn,fun r i=>?_,?_⟩ (fun x l=>ho x (by simp[l])) h
   ·rcases N.1 i with i|i
    ·exact hB.ru r i
    simp at i;subst i;rw[m,n];exact⟨j.1,j.2.imp id fun h=>z⟩
   rw[q6];refine TQ hB.un ?_;rw[m,<-OZ];exact k
def FO {s p}(h:Xc s=.ok p):zx p.1 p.2:=by
 unfold Xc at h
 split at h
 ·cases h
 cases a:ZN s 0 1 []with
 |error l=>rw[a]at h;cases h
 |ok c=>
  rw[a]at h
  dsimp only at h
  cases b:Zs c 0 []with
  |error l=>rw[b]at h;cases h
  |ok r=>
   rw[b]at h;exact I4 _ [] [] p ⟨y,trivial,y,trivial⟩ (uB (qk _ 0 1 [] c rfl y a) _ 0 [] _ _ rfl y b) h
def NZ {b R}(c:Yh b R)(d:∀r,r∈R->Tt r)(f:zx b R):(Yi b R).Wr/\(XK (Yi b R)).length<=100000:=by
 have g:=wH c (fun r a=>⟨(d r a).m4,(d r a).mx,(d r a).c4,(d r a).cx,fun h e=>⟨(d r a).am h e,q2 ((c.rl r a).am h e).2⟩,(f.ru r a).2,(c.rl r a).pl.2⟩) f.rt (fun r a=>(f.ru r a).1)
  (by rw[L8 (RK f.rn),L8 (RK f.un)];rfl)
 refine⟨g,wI g (fun l i=>?_) (FN c)⟩;obtain⟨m,j,rfl⟩:=q0.1 i;have k:=SB R m (Wk R.length (Zz (Zu R) R.length))
 have n:(Wk R.length (Zz (Zu R) R.length)).length=R.length:=by simp[Wk]
 have o:=c.l8;omega
def uC (a:List Zf)(R:List Ze)(b:Nat->Bool)(s:ByteArray):Nat×ByteArray×ByteArray:=match WX s.data.toList with
 |some p=>UF a R p b
 |none=>(1,z7,z7)
def Kb {l p}(h:WX l=I p):p.pan.size<=l.length:=by
 obtain⟨b,m,a,c,k⟩:=OD (s:=bs l) h;rw[show WX l=I (rR b m a c)from k.read]at h;injection h with h;have e:l=ST b m a c:=k.l;rw[<-h,e]
 show(bs b).size<=_
 rw[Sv];unfold ST;simp
def DV (w X M x n H D t f R)(s)(h:OQ w X M x n D)(N:RJ H w x t)(i:rq t f R)(hs:s.size<=140737488355328)(P:Jy w):
  A V 54 #[Z (I ⟨X,0,J⟩),Y s] w fun e j=>e=E (Rc (uC f R (Fz f D) s))/\F0 w j:=by
 have y:Hid (∀W,F0 w W->_):=fun W c=>NE s W hs (P.fr c)
 unfold uC
 cases u:WX s.data.toList with
 |some p=>
  obtain⟨zb,ra,rc,_,_,hl⟩:=N
  have e:=wO w X M x n zb D t.rts ra rc t.nms t.prs t.root s p (Rb R (YC (Zu R) (YN R p (Zw p.pan)) R.length)) h ⟨hl.1,i.p⟩ (by have:=Kb u;unfold maxLen;simp at this;omega) (fun W c=>(y.o W c).mono fun e j ⟨⟨q,b,z,d⟩,c⟩=>by
   unfold vZ at d;rw[u]at d;rw[z,d.1,d.2]
   exact⟨rfl,c⟩) (i.e p)
  rw[uy i,i.r]at e;exact e
 |none=>
  obtain⟨k,l⟩:=WM w (F #[U O 0,Y ⟨#[]⟩,Y ⟨#[]⟩] 38)
  have B:Hid (∀W,F0 w W->A V 97 #[Y s] W fun e j=>(∃q,e=E (.tuple #[X4 q,z9 false]))/\F0 W j):=fun W c=>(y.o W c).mono fun e j ⟨⟨q,b,z,d⟩,c⟩=>by
   unfold vZ at d;rw[u]at d;rw[z,d];exact⟨⟨q,rfl⟩,c⟩
  clear h N i u y P;go_enter func54,ntmps54;go_upto_region 1 with fail;generalize w.alloc _=w0 at*;obtain⟨Q,C⟩:=ad w.heap.size;have G:Hid (w.heap.size<=Q):=q1 C;rw[C]at l ⊢;clear C;go_wp2_with fail;refine(B.o w0 k.o).mono ?_;rintro e w1 ⟨⟨q,rfl⟩,m⟩;obtain⟨S,T,c2,c3⟩:=q;have a:=o ((m.alloc (F #[Y S,U O T,U O c2,U O c3] 35)).whole l.o);have K:=o ((k.o.trans m).alloc (F #[Y S,U O T,U O c2,U O c3] 35));unfold X4;obtain⟨y0,y1,y2⟩:=aq a.o;have z0:=bF a.o;have g:=o (Lg (v0:=U O 1) (v1:=Y ⟨#[]⟩) (v2:=Y ⟨#[]⟩) a.o);have L:=o (((K.o.setCell (p:=⟨Q,0,J⟩) (Or.inr G.o) (U O 1)).setCell (p:=⟨Q,1,J⟩) (Or.inr G.o) (Y ⟨#[]⟩)).setCell (p:=⟨Q,2,J⟩) (Or.inr G.o) (Y ⟨#[]⟩));go_wp2_with fail;obtain⟨s0,s1,s2⟩:=aq g.o;exact bodyPost_ret (v:=Rc (1,z7,z7)) (by simp[results,results54,go_sem,s0,s1,s2,Rc];rfl) rfl ⟨rfl,L.o⟩
def DX (D:DataW Unit)(l:List ByteArray):Prop:=IsMap D/\∀s,XP s=true->rp D s=Ny l s
def DX.sw {D l a R}(h:DX D l)(b:zx a R):Fz a D=UX a l:=by
 funext i
 unfold Fz UX
 cases c:a[i]? with
 |none=>rfl
 |some t=>exact h.2 t.name (b.rt t (mG c)).1
def Q9 (l)(x s:ByteArray):Ny (l.filter fun y=>!(y.toList==x.toList)) s=(Ny l s&&!(s.toList==x.toList)):=by
 unfold Ny;rw[List.any_filter]
 induction l with
 |nil=>rfl
 |cons y r a=>
  rw[q8,q8,a]
  cases h:(s.toList==y.toList)with
  |false=>simp
  |true=>
   rw[eq_of_beq h]
   cases(y.toList==x.toList)<;>simp
def DY {s x:ByteArray}(e:¬s.data.toList=x.data.toList):(s.toList==x.toList)=false:=by
 rw[ByteArray.toList_eq,ByteArray.toList_eq];exact beq_eq_false_iff_ne.2 e
def DX.up {D l}(h:DX D l)(x:ByteArray):DX (D.del (.string x.data.toList)) (l.filter fun y=>!(y.toList==x.toList)):=by
 refine⟨h.1.del _,fun s a=>?_⟩;rw[Q9,<-h.2 s a];unfold rp;by_cases e:s.data.toList=x.data.toList
 ·rw[e,has_del_same];simp[ByteArray.toList_eq,e]
 rw[has_del_other (C3 e),DY e];simp
def FP (l)(x s):Ny (l++[x]) s=(Ny l s||(s.toList==x.toList)):=by
 unfold Ny;rw[List.any_append];simp
def DX.down {D l}(h:DX D l)(x):DX (D.put (.string x.data.toList) (.agg [])) ((l.filter fun y=>!(y.toList==x.toList))++[x]):=by
 refine⟨h.1.put _ _,fun s a=>?_⟩;rw[FP,Q9,<-h.2 s a];unfold rp;by_cases e:s.data.toList=x.data.toList
 ·rw[e,has_put_same (k:=Lit.string x.data.toList) h.1 trivial];simp[ByteArray.toList_eq,e]
 rw[has_put_other (C3 e),DY e];simp
def DX.pass {D l}(h:DX D l){x}(b:XP x=false):DX D ((l.filter fun y=>!(y.toList==x.toList))++[x]):=by
 refine⟨h.1,fun s a=>?_⟩
 have e:(s.toList==x.toList)=false:=DY fun e=>by
  have:s=x:=ByteArray.ext (Array.toList_inj.1 e);rw[this,b]at a
  cases a
 rw[FP,Q9,h.2 s a,e];simp
def uD (l:List ByteArray)(s:ByteArray)(a:Bool):List ByteArray:=if a then(l.filter fun y=>!(y.toList==s.toList))else(l.filter fun y=>!(y.toList==s.toList))++[s]
def qR (c:j0)(X M d n:Nat)(s:ByteArray)(e:Bool)(l:List ByteArray):Prop:=∃a b,a<=n+1/\OQ c X M d a b/\DX b (uD l s e)
def uE (w X M b n D)(s)(i){l}(h:OQ w X M b n D)(r:n<=140737488355328)(t:s.size<=140737488355328)(c:DX D l):
  A V 53 #[Z (I ⟨X,0,J⟩),Y s,z9 i] w fun e d=>e=E (.tuple #[])/\qR d X M b n s i l/\Fr (fun k=>k=M) w d:=by
 cases i with
 |true=>exact(rx w X M b n D s h aM).mono fun e d ⟨j,m,p⟩=>⟨j,⟨n,_,z,m,c.up s⟩,p⟩
 |false=>
  cases f:XP s with
  |true=>exact(wM w X M b n D s h r f).mono fun e d ⟨j,m,p⟩=>⟨j,⟨n+1,_,z,m,c.down s⟩,p⟩
  |false=>
   have g:=QR s w t;rw[f]at g;have g:=o g;have u:=o (c.pass f);have v:=o h;clear h c f;go_enter func53,ntmps53;go_wp2_with fail;refine g.o.mono ?_;rintro e x ⟨rfl,q⟩;have a:=o q;go_wp2
   go_end0
   exact⟨rfl,⟨n,D,z,v.o.fr a.o y y,u.o⟩,a.o.mono⟩


def JU (t):XK (RH t)=XK t:=by
 unfold XK RH;rw[CU]
def uF {t}(h:t.Wr)(a:(RH t).Ok):(RH t).Wr:=⟨h.r6,h.rt,h.n8,h.nm,h.df,h.pl,h.pr,a.dp,a.lf⟩
def KI.ti {w T a R}(h:KI w T a R):sS w T (Yi a R):=by
 obtain⟨b,c,d,e,f,g,i,_⟩:=h;exact⟨c,b,d,e,f,g.tg i⟩
def KH.ti {w T t}(h:KH w T t):sS w T t:=by
 obtain⟨_,a,b,c,d,e,f⟩:=h;exact⟨a,b,c,d,e,f⟩
def KH.same {w T rts R}(h:KH w T (RH (Yi rts R)))(f:(RH (Yi rts R)).Ok)(g:Yh rts R)(a c l)(b:ZX w a l)(i:l.length<=maxLen)(p)(j:p.pan.size<=maxLen):
  A V 19 #[Z (I ⟨T,0,J⟩),X4 p,y3 a l.length c] w fun e k=>e=E (Rc (UF rts R p (UX rts l)))/\F0 w k:=by
 obtain⟨_,m,o,r,s,t,u⟩:=h
 have e:=GD w o T m rts r s _ _ _ a c l p (Rb R (YC (Zu R) (YN R p (Zw p.pan)) R.length)) ⟨t,u,tC f,b,i⟩ (fun v=>by
  obtain⟨q,x,y⟩:=SC g p v;have d:=OJ (dg:=In (Zw p.pan)) (fun n=>q5 _ aB) (Yi rts R).root 0;refine⟨q,?_,y⟩
  show(Yi rts R).prs[(Yi rts R).root.norm.find (In (Zw p.pan)) 0]?=I q
  rw[d]
  exact x) j
 have z:=Oy (rts:=rts) (R:=R) p (UX rts l);rw[<-z];exact e
