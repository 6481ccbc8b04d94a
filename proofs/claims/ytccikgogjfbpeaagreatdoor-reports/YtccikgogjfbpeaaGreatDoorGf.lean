import Derived.Test.YtccikgogjfbpeaaGreatDoorGd
import Derived.Maps.OwnSet
import Derived.Maps.Views
open Option renaming some->I,none->P
open Go renaming Value->J,World->Y
open Go.Value renaming slice->V,ownBlock->B,slice->N,int->X,agg->Q
open Or renaming inr->Z,inl->U
open Go.AllReadyH renaming nil->O
open Go.Proofs.Tryz renaming prog->E
open Nat renaming le_trans->H
open List renaming getElem?_append_left->L,idxOf_append->C
open Go.Obj renaming cells->A
namespace Go.Proofs.YtccikgogjfbpeaaGreatDoor
set_option maxRecDepth 30000
set_option maxHeartbeats 8000000
open Go.RowKit Go.Maps
theorem oA {w w':Y}{S:Nat->Prop}{base:Nat}{e:TypeId}{a:Nat}{v:J}{n:Nat}{c:List J}(h:w.ownsRow base e a v n c)(d:Fr S w w')(f:∀k,v.ownBlock=I k->¬S k):w'.ownsRow base e a v n c:=by
 refine⟨h.1,h.2.imp id ?_⟩;rintro⟨g,cap,b,rfl,i,j,l⟩;exact⟨g,cap,b,rfl,i,d.whole j (f g rfl),l⟩
theorem oN {w:Y}{b:Nat}{e t:TypeId}{s:Nat}{v:J}{n g:Nat}{i:List J}{j:Array J}{f:Nat×Nat}(h:w.ownsRow b e s v n i)(k:w.heap[g]?=I (A j t f))(c:e≠t):v.ownBlock≠I g:=by
 rcases h.2 with⟨rfl,_⟩|⟨m,cap,l,rfl,_,a,_⟩
 ·simp[B]
 ·intro d
  simp[B]at d;subst d;rw[k]at a;injection a with a;injection a with _ a _;exact c a.symm
theorem OE {w:Y}{b:Nat}{e:TypeId}{s:Nat}{v:J}{n g:Nat}{f:List J}{es:Array MapEntry}{c:Nat}(h:w.ownsRow b e s v n f)(i:w.heap[g]?=I (.map es c)):v.ownBlock≠I g:=by
 rcases h.2 with⟨rfl,_⟩|⟨k,cap,j,rfl,_,a,_⟩
 ·simp[B]
 ·intro d
  simp[B]at d;subst d;rw[i]at a;injection a with a
  cases a
structure Ah (zb:Nat)(w0:Y)(S:Nat->Prop)(v0 v1:J)(rls:List Zc)(ord:Nat->Nat):Prop where
 zl:zb<=w0.heap.size
 rl:∃va c,v0=N va rls.length c/\∀i r,rls[i]?=I r->∃g ma mc ca cc pa pc,va=I ⟨g,0,P⟩/\g<w0.heap.size/\¬S g/\
   (∀o v,[Value.string r.name,X .i64 r.rank,X .i64 r.digits,X .i64 r.lo,X .i64 r.hi,N ma r.mcc.length mc,.bool r.am.isSome,X .i64 (r.am.getD (0,0)).1,X .i64 (r.am.getD (0,0)).2,N ca r.cur.length cc,.bool r.decline,.bool r.cheapest,N pa r.routes.length pc,X .i64 r.ahead][o]?=I v->w0.cell? ⟨g,i*14+o,P⟩=I v)/\
   (w0.ownsRow zb 3 1 (N ma r.mcc.length mc) r.mcc.length (Zg r.mcc)/\∀k,(V ma r.mcc.length mc).ownBlock=I k->¬S k)/\(w0.ownsRow zb 3 1 (N ca r.cur.length cc) r.cur.length (Zg r.cur)/\∀k,(V ca r.cur.length cc).ownBlock=I k->¬S k)/\(w0.ownsRow zb 3 1 (N pa r.routes.length pc) r.routes.length (Zg r.routes)/\∀k,(V pa r.routes.length pc).ownBlock=I k->¬S k)
 od:∃oa oc,v1=N oa rls.length oc/\∀k,k<rls.length->∃og,oa=I ⟨og,0,P⟩/\og<w0.heap.size/\¬S og/\w0.cell? ⟨og,k,P⟩=I (X .i64 (ord k))
theorem Ah.at {m:Nat}{w0 w:Y}{S:Nat->Prop}{v0 v1:J}{b:List Zc}{d:Nat->Nat}{G:Nat}(h:Ah m w0 S v0 v1 b d)(a:Fr S w0 w)(u:w.cell? ⟨G,0,P⟩=I v0)(x:w.cell? ⟨G,1,P⟩=I v1):Cb m w G b d:=by
 obtain⟨y,⟨z,c,rfl,A⟩,B,C,rfl,D⟩:=h;refine⟨H y a.size,⟨z,c,u,fun i r E=>?_⟩,B,C,x,fun k F=>?_⟩
 ·obtain⟨g,K,L,M,N,O,Q,f,e,j,l,n,q,s⟩:=A i r E
  exact⟨g,K,L,M,N,O,Q,f,nL e a.size,fun o v R=>(a.cell (p:=⟨g,i*14+o,P⟩) e j).trans (l o v R),oA n.1 a n.2,oA q.1 a q.2,oA s.1 a s.2⟩
 ·obtain⟨t,f,e,j,l⟩:=D k F
  exact⟨t,f,nL e a.size,(a.cell (p:=⟨t,k,P⟩) e j).trans l⟩
structure BM (D:DataW Unit)(ps:List Nat):Prop where
 im:IsMap D
 at':∀m:Nat,m<256->Maps.has D (.int .u64 m)=decide (m∈ps)/\(m∈ps->∀z,D.atKey (.int .u64 m) z=.lit (.int .i64 (ps.idxOf m:Nat)))
theorem BM.put {D:DataW Unit}{a:List Nat}{met:Nat}(h:BM D a)(f:met∉a):BM (D.put (.int .u64 met) (.lit (.int .i64 (a.length:Nat)))) (a++[met]):=by
 refine⟨h.im.put _ _,fun m g=>?_⟩;by_cases e:m=met
 ·subst e
  refine⟨?_,fun _ z=>?_⟩
  ·rw[has_put_same h.im (by simp[WideAt.IsKeyLit])]
   simp
  ·rw[atKey_put_same h.im (by simp[WideAt.IsKeyLit]),C,if_neg f]
   simp
 ·have b:Lit.int .u64 (m:Nat)≠Lit.int .u64 (met:Nat):=by
   intro d;injection d with _ d;omega
  obtain⟨i,j⟩:=h.at' m g;refine⟨?_,fun k z=>?_⟩
  ·rw[has_put_other b,i]
   simp[e]
  ·have c:m∈a:=by simpa[e]using k
   rw[atKey_put_other b,j c z,C,if_pos c]
theorem T9:Keyed E 183:=int_keyed Tryz.underlying183
theorem OF (w:Y):(zeroValue 3).run E w=.ok (X .i64 0) w:=by kernel_rfl
theorem Be (m:Nat)(h:m<256):keyOf E 183 (.int .u64 m)=I (.int .u64 m):=keyOf_int_mk Tryz.underlying183 (WalkArith.wf_u64 (by omega))
theorem OG:(E.info? 129).map (fun i=>(i.zero,i.size,i.bytes))=I (I (N P 0 0),1,24):=by kernel_rfl
structure TR (zb:Nat)(w0 w:Y)(G M:Nat)(v0 v1:J)(R:List Zc)(ord:Nat->Nat)(ps:List Nat)(vp:J):Prop where
 ru:Ah zb w0 (fun k=>k=G\/k=M) v0 v1 R ord
 fr:Fr (fun k=>k=G\/k=M) w0 w
 bx:w.heap[G]?=I (.cells #[v0,v1,vp,.map (I M)] 178)
 mp:∃D:DataW Unit,w.ownsMap E 183 (plainElem E 3) M ps.length D/\BM D ps
 pg:∃xs,w.ownsRow w0.heap.size 129 1 vp ps.length xs/\∀(j m:Nat),ps[j]?=I m->∃vj,xs[j]?=I vj/\YW zb w zb vj (Z2 R m (WY R.length ord))
 nd:ps.Nodup
 lt:∀m,m∈ps->m<256
theorem Tt {a:Nat}{w w':Y}{S:Nat->Prop}{v:J}{l:List Zn}(h:YW a w a v l)(c:Fr S w w')(d:∀e s v n b,(e=208\/e=3)->w.ownsRow a e s v n b->∀k,v.ownBlock=I k->¬S k):YW a w' a v l:=by
 obtain⟨b,f,i⟩:=h;exact⟨b,oA f c (d _ _ _ _ _ (U rfl) f),i.keep (fun v n j g=>oA g c (d _ _ _ _ _ (Z rfl) g))⟩
theorem Mf {i:Nat}{w:Y}{G M b n:Nat}{j:Array J}{es:Array MapEntry}{l:Nat}{d:J}{m:List J}(o:w.heap[G]?=I (A j 178))(p:w.heap[M]?=I (.map es l))(q:w.ownsRow b 129 1 d n m):
  ∀e s v n f,(e=208\/e=3)->w.ownsRow i e s v n f->∀k,v.ownBlock=I k->¬(k=G\/k=M\/d.ownBlock=I k):=by
 rintro e s v n f g c k a (rfl|rfl|h)
 ·exact oN c o (by rcases g with rfl|rfl<;>decide) a
 ·exact OE c p a
 ·rcases WW c q (by rcases g with rfl|rfl<;>decide)with h'|h'
  ·rw[h']at a
   cases a
  ·exact h' (a.trans h.symm)
theorem TR.more {K:Nat}{w0 w w1 s f:Y}{G M:Nat}{v0 v1:J}{R:List Zc}{l:Nat->Nat}{v:List Nat}{c:Option Addr}{n d met g cap:Nat}{x:List J}{D1:DataW Unit}{u:J}
  (h:TR K w0 w G M v0 v1 R l v (.slice c n d))(hn:v.length=n)(a0:met∉v)(hm:met<256)(hM:M<w0.heap.size)(hG:G<w0.heap.size)
  (o:w.ownsRow w0.heap.size 129 1 (.slice c n d) n x)(b0:∀(j m:Nat),v[j]?=I m->∃X,x[j]?=I X/\YW K w K X (Z2 R m (WY R.length l)))
  (c0:w1.ownsMap E 183 (plainElem E 3) M (n+1) D1)(d0:BM D1 (v++[met]))(y:Fr (fun k=>k=M) w w1)(q:F0 w1 s)(e0:YW K s K u (Z2 R met (WY R.length l)))
  (t:f.ownsRow w0.heap.size 129 1 (.slice (I ⟨g,0,P⟩) (n+1) cap) (n+1) (x++[u]))(z:s.grownBy f (V c n d).ownBlock):
  TR K w0 (f.setCell ⟨G,2,P⟩ (.slice (I ⟨g,0,P⟩) (n+1) cap)) G M v0 v1 R l (v++[met]) (.slice (I ⟨g,0,P⟩) (n+1) cap)/\Fr (fun k=>k=G\/k=M\/(V c n d).ownBlock=I k) w (f.setCell ⟨G,2,P⟩ (.slice (I ⟨g,0,P⟩) (n+1) cap))/\f.cell? ⟨G,2,P⟩=I (.slice c n d)/\f.frozen? ⟨G,2,P⟩=false:=by
 have A:∀k,(V c n d).ownBlock=I k->w0.heap.size<=k:=fun k i=>(o.lt k i).1
 obtain⟨D,⟨m0,n0,B,_⟩,_⟩:=h.mp
 have N:G≠M:=by
  rintro rfl;rw[h.bx]at B
  cases B
 have f0:=y.whole h.bx N;have O:=q.whole f0 (by simp);have C:Fr (fun k=>(V c n d).ownBlock=I k) s f:=(Fr.refl _ s).grown z (fun k i=>U i);have r:=C.whole O (fun e=>by have:=A G e;omega);have Q:Fr (fun k=>k=G\/k=M\/(V c n d).ownBlock=I k) s (f.setCell ⟨G,2,P⟩ (.slice (I ⟨g,0,P⟩) (n+1) cap)):=Fr.setCell (S:=fun k=>k=G\/k=M\/(V c n d).ownBlock=I k) (C.mono (fun k i=>Z (Z i))) (p:=⟨G,2,P⟩) (U (U rfl)) _;have g0:Fr (fun k=>k=G\/k=M\/(V c n d).ownBlock=I k) w s:=(y.mono (fun k i=>Z (U i))).trans (q.mono (by simp));have F:=g0.trans Q;have T:s.ownsRow w0.heap.size 129 1 (.slice c n d) n x:=oF (oF o y (fun k i=>by omega)) q (by simp);obtain⟨es,ck,h0,i0⟩:=c0;have W:=q.whole h0 (by simp);refine⟨⟨h.ru,h.fr.monoNew F ?_,?_,⟨D1,⟨es,ck,?_,?_⟩,d0⟩,⟨x++[u],?_,?_⟩,?_,?_⟩,F,bC r 2 _ rfl,bF r 2⟩
 ·rintro k (rfl|rfl|i)
  ·exact U (U rfl)
  ·exact U (Z rfl)
  ·exact Z (A k i)
 ·have e:=heap_setCell_same f G 2 _ _ (.slice (I ⟨g,0,P⟩) (n+1) cap) r
  simpa using e
 ·have j0:=C.whole W (fun e=>by have:=A M e;omega)
  rw[heap_setCell_other f ⟨G,2,P⟩ M _ (fun e=>N e.symm)];exact j0
 ·rw[lA,hn]
  exact i0
 ·rw[lA,hn]
  exact ownsRow_setCell_other t (a:=⟨G,2,P⟩) (oN t r (by decide)) _
 ·intro j m H
  have o0:x.length=n:=by have:=o.1;omega
  rcases Nat.lt_or_ge j n with p0|q0
  ·rw[L (by omega)]at H
   obtain⟨X,e1,e2⟩:=b0 j m H;exact⟨X,by rw[L (by omega)];exact e1,Tt e2 F (Mf h.bx B o)⟩
  ·rw[aR (by omega)]at H
   have k0:j-v.length=0:=by
    have:=(iG.1 H).1;simp at this;omega
   rw[k0]at H;simp at H;subst H;refine⟨u,?_,Tt e0 Q (Mf O W T)⟩;rw[aR (by omega),show j-x.length=0 from by omega];rfl
 ·rw[List.nodup_append]
  refine⟨h.nd,by simp,fun a ha b hb=>?_⟩;simp at hb;subst hb;rintro rfl;exact a0 ha
 ·intro m l0
  rcases List.mem_append.1 l0 with h'|h'
  ·exact h.lt m h'
  ·simp at h'
   subst h';exact hm
theorem Lf {Q:Nat}(w0 w:Y)(G M:Nat)(v0 v1:J)(R:List Zc)(g:Nat->Nat)(t:List Nat)(vp:J)(met:Nat)(h:TR Q w0 w G M v0 v1 R g t vp)(hM:M<w0.heap.size)(hG:G<w0.heap.size)(r0:t.length<=256)(hn:R.length<=8)(hm:met<256)(ho:∀k,k<R.length->g k<R.length)(hR:∀r,r∈R->r.mcc.length<=4000/\r.cur.length<=4000):
  Calls E 148 #[.pointer (I ⟨G,0,P⟩),.int .u64 met] w fun e w'=>e=.returned (.int .i64 (WG t met:Nat))/\(∃d0,TR Q w0 w' G M v0 v1 R g (V4 t met) d0/\(d0.ownBlock=vp.ownBlock\/∀k,d0.ownBlock=I k->w.heap.size<=k))/\Fr (fun k=>k=G\/k=M\/vp.ownBlock=I k) w w':=by
 obtain⟨ii,s0,t0,x0,y0⟩:=info_parts OG;have T:=Za h
 have z0:Hid (∀W,Cb Q W G R g->Calls E 187 #[.pointer (I ⟨G,0,P⟩),.int .u64 met] W fun e w'=>(∃v,e=.returned v/\YW Q w' W.heap.size v (Z2 R met (WY R.length g)))/\F0 W w'):=fun W hW=>Ib W G R g met hW hn hm ho hR
 obtain⟨D,l,hD⟩:=h.mp;have A:=Za l;have HD:=Za hD;have HK:=Za (Be met hm);obtain⟨C,a0,i0⟩:=h.pg;obtain⟨X,pc,e3⟩:=oL a0;subst e3;obtain⟨n,e0⟩:∃n,t.length=n:=⟨_,rfl⟩;have HN:=Za e0;rw[e0]at A T r0 a0 ⊢;have g0:Hid (w.ownsRow w0.heap.size 129 1 (.slice X n pc) n C/\∀(j m:Nat),t[j]?=I m->∃vj,C[j]?=I vj/\YW Q w Q vj (Z2 R m (WY R.length g))):=⟨a0,i0⟩;have x2:w.cell? ⟨G,2,P⟩=I (.slice X n pc):=bC T.o.bx 2 _ rfl;have x3:w.cell? ⟨G,3,P⟩=I (.map (I M)):=bC T.o.bx 3 _ rfl;have u:=(hD.at' met hm).1;clear h l hD a0 i0 ho hR e0;by_cases p:met∈t
 ·have hh:Maps.has D (.int .u64 met)=true:=by rw[u];simpa using p
  clear u;go_enter Tryz.func148,Tryz.ntmps148
  go_wp2_with (at_lookup;refine wpList_lookup_own_ok_int _ rfl (.tmp 11) (.tmp 12) 176 rfl 183 3 .i64 T9 Tryz.underlying176 Tryz.underlying3 (OF _) M n D rfl A.o _ _ rfl HK.o ?h1;rw[hh])
  case h1=>
   intro c i h0
   have hc:c=((WG t met:Nat):Int):=by
    rw[(HD.o.at' met hm).2 p]at i;injection i with i;injection i with _ i;exact i.symm
   subst hc;clear i h0 hh;go_wp2_with fail;go_ret;refine⟨rfl,⟨.slice X n pc,?_,U rfl⟩,Fr.refl _ _⟩;rw[show V4 t met=t from if_pos p];exact T.o
 ·have hh:Maps.has D (.int .u64 met)=false:=by rw[u];simpa using p
  clear u;go_enter Tryz.func148,Tryz.ntmps148
  go_wp2_with (at_lookup;refine wpList_lookup_own_ok_int _ rfl (.tmp 11) (.tmp 12) 176 rfl 183 3 .i64 T9 Tryz.underlying176 Tryz.underlying3 (OF _) M n D rfl A.o _ _ rfl HK.o ?g1;rw[hh])
  case g1=>
   intro c i h0;clear i h0 hh
   go_wp2_with (at_mapUpdate;refine wpList_mapUpdate_own _ rfl (.tmp 26) (.tmp 27) (.tmp 28) 176 rfl 183 3 T9 Tryz.underlying176 _ M n D rfl A.o ?k1 _ _ _ rfl rfl HK.o (.lit (.int .i64 (n:Nat))) [] ?k2 ?k3)
   case k1=>unfold maxLen;omega
   case k2=>exact plainElem_int Tryz.underlying3 (WalkArith.wf_i64 (by omega))
   case k3=>
    intro w1 F x;have z:Fr (fun k=>k=M) w w1:=(Fr.refl _ w).grown x (fun k hk=>U (by injection hk with hk;exact hk.symm))
    have A0:G≠M:=by
     obtain⟨G0,H0,j0,_⟩:=A.o;rintro rfl;rw[T.o.bx]at j0
     cases j0
    have k0:=Za z;have l0:=Za F
    have B0:Hid (BM (D.put (.int .u64 met) (.lit (.int .i64 (n:Nat)))) (t++[met])):=by
     have e:=HD.o.put p;rw[HN.o]at e;exact e
    have y:=z.whole T.o.bx A0;have y2:w1.cell? ⟨G,2,P⟩=I (.slice X n pc):=bC y 2 _ rfl;have b0:w1.ownsRow w0.heap.size 129 1 (.slice X n pc) n C:=oF g0.o.1 z (fun k hk=>by omega);have m0:w0.heap.size<=w1.heap.size:=H T.o.fr.size z.size
    have n0:Hid (∀W,F0 w1 W->Calls E 187 #[.pointer (I ⟨G,0,P⟩),.int .u64 met] W fun e w'=>(∃a b c,e=.returned (.slice a b c)/\Hid (YW Q w' Q (.slice a b c) (Z2 R met (WY R.length g))))/\Hid (F0 w1 w'/\w'.ownsRow w0.heap.size 129 1 (.slice X n pc) n C/\w0.heap.size<=w'.heap.size)/\w'.cell? ⟨G,2,P⟩=I (.slice X n pc)):=by
     intro W hW
     have o0:Cb Q W G R g:=by
      have f0:Fr (fun k=>k=G\/k=M) w0 w1:=T.o.fr.trans (z.mono (fun k hk=>Z hk));have b:=hW.whole y (by simp);exact T.o.ru.at (f0.trans (hW.mono (by simp))) (bC b 0 _ rfl) (bC b 1 _ rfl)
     refine(z0.o W o0).mono ?_;rintro e w' ⟨⟨v,rfl,C0⟩,hf⟩;have f2:=hW.trans hf;obtain⟨ys,o1,o2⟩:=C0;obtain⟨a,c,e3⟩:=oL o1;subst e3;exact⟨⟨a,_,c,rfl,⟨ys,oS o1 o0.zl,o2⟩⟩,⟨f2,oF b0 f2 (by simp),H m0 f2.size⟩,bC (f2.whole y (by simp)) 2 _ rfl⟩
    have D0:Hid (WG t met=n):=by
     unfold WG;rw[List.idxOf_eq_length p];exact HN.o
    clear F x z b0 y x2 x3;go_wp2_with fail;refine wp_region_held_drew (S:=fun _=>True) (by kernel_rfl) trivial (fun q=>?_);refine Zf 0 q ?_
    try go_frame
    refine Zf 1 q ?_
    try go_frame
    refine Zf 2 q ?_
    try go_frame
    refine Zf 3 q ?_
    try go_frame
    refine Zf 5 q ?_
    try go_frame
    refine Zf 6 q ?_
    try go_frame
    refine wpAnyH_ready (rs:=[4,7]) (by kernel_rfl) (by simp) ?_;refine Zb rfl (fun K d=>?p1) (Zb rfl (fun K d=>?p2) O)
    case' p1=>
     try rw[if_pos (by rfl)]
     go_simp;refine d.out _ _ q (fun _=>?_);clear d K
     try go_frame
     refine wpAnyH_ready (rs:=[7]) (by kernel_rfl) (by simp) ?_;refine Zb rfl (fun K d=>?_) O;go_simp;refine(n0.o _ (Fr.refl _ _).drew).mono ?_;rintro e w5 ⟨⟨a1,b1,c1,rfl,p0⟩,L,z2⟩;refine d.out _ _ trivial (fun q=>?_);clear d K
     try go_frame
     refine wpAnyH_ready (rs:=[8]) (by kernel_rfl) (by simp) ?_;refine Zb rfl (fun K d=>?_) O
     try rw[if_pos (by rfl)]
     go_simp;refine d.out _ _ trivial (fun q=>?_);clear d K
     try go_frame
    case' p2=>
     go_simp;refine(n0.o _ (Fr.refl _ _).drew).mono ?_;rintro e w5 ⟨⟨a1,b1,c1,rfl,p0⟩,L,z2⟩;refine d.out _ _ trivial (fun q=>?_);clear d K
     try go_frame
     refine wpAnyH_ready (rs:=[4,8]) (by kernel_rfl) (by simp) ?_;refine Zb rfl (fun K d=>?p3) (Zb rfl (fun K d=>?p4) O)
    case' p3=>
     try rw[if_pos (by rfl)]
     go_simp;refine d.out _ _ q (fun _=>?_);clear d K
     try go_frame
     refine wpAnyH_ready (rs:=[8]) (by kernel_rfl) (by simp) ?_;refine Zb rfl (fun K d=>?_) O
     try rw[if_pos (by rfl)]
     go_simp;refine d.out _ _ trivial (fun q=>?_);clear d K
     try go_frame
    case' p4=>
     try rw[if_pos (by rfl)]
     go_simp;refine d.out _ _ trivial (fun q=>?_);clear d K
     try go_frame
     refine wpAnyH_ready (rs:=[4]) (by kernel_rfl) (by simp) ?_;refine Zb rfl (fun K d=>?_) O
     try rw[if_pos (by rfl)]
     have z3:=fun o=>(World.cell?_alloc_some w5 ⟨G,2,P⟩ o (by simp[z2])).trans z2
     go_simp;refine d.out _ _ q (fun _=>?_);clear d K z3
     try go_frame
    all_goals
     refine wpAnyH_ready (rs:=[9]) (by kernel_rfl) (by simp) ?_;refine Zb rfl (fun K d=>?_) O;refine step_append_lies _ rfl (.tmp 33) (.tmp 37) 130 rfl w0.heap.size 129 ii _ 1 24 Tryz.underlying130 s0 t0 x0 y0 rfl (by decide) (.slice X n pc) n C rfl ?h1 ⟨w5.heap.size,0,P⟩ 1 1 [.slice a1 b1 c1] rfl rfl ?h2 ?h3 (by decide) ?h4 ?h5 ?h6 _ rfl ?h7
     case h1=>exact L.o.2.1.alloc _
     case h2=>exact World.news_of_block (aN w5 _)
     case h3=>simp[Value.oneCell']
     case h4=>unfold maxLen;omega
     case h5=>omega
     case h6=>have:=L.o.2.2;simp;omega
     case h7=>
      intro g2 s w8 l N q0 _;have f:=TR.more T.o HN.o p hm hM hG g0.o.1 g0.o.2 l0.o B0.o k0.o (L.o.1.alloc _) (OB p0.o ((Fr.refl _ _).alloc _)) l N;have d2:=f.2.2.1;have df:=f.2.2.2
      have E0:Hid ((V (I ⟨g2,0,P⟩) (n+1) s).ownBlock=(V X n pc).ownBlock\/∀k,(V (I ⟨g2,0,P⟩) (n+1) s).ownBlock=I k->w.heap.size<=k):=by
       rcases q0 with e|e
       ·exact U e.symm
       ·refine Z fun k hk=>?_
        have e2:g2=k:=by simpa[B]using hk
        have:=k0.o.size;have:=L.o.1.size
        have e3:g2=w5.heap.size+1:=by rw[e];simp
        omega
      have c0:Hid (TR Q w0 (w8.setCell ⟨G,2,P⟩ (.slice (I ⟨g2,0,P⟩) (n+1) s)) G M v0 v1 R g (t++[met]) (.slice (I ⟨g2,0,P⟩) (n+1) s)/\Fr (fun k=>k=G\/k=M\/(V X n pc).ownBlock=I k) w (w8.setCell ⟨G,2,P⟩ (.slice (I ⟨g2,0,P⟩) (n+1) s))):=⟨f.1,f.2.1⟩;clear f l N q0;refine d.out _ _ trivial (fun q=>?_);clear d K
      try go_frame
      refine Zf 10 q ?_
      try go_frame
      refine Zf 11 q ?_
      try go_frame
      refine wpAnyH_ready (rs:=[12]) (by kernel_rfl) (by simp) ?_;refine Zb rfl (fun K d=>?_) O
      try rw[if_pos (by rfl)]
      go_simp;refine d.out _ _ trivial (fun _=>?_);clear d K
      try go_frame
      refine wpAnyH_done (by kernel_rfl) ?_ _;go_wp2;go_ret;refine⟨by rw[D0.o];rfl,⟨_,?_,E0.o⟩,c0.o.2⟩;rw[show V4 t met=t++[met]from if_neg p];exact c0.o.1
def VY (w:Y)(lo:Nat):Tr->J->Prop
 | .leaf p,v=>v=Q #[.pointer P,X .i64 p]
 | .node k,v=>∃K c,v=Q #[.pointer (I ⟨K,0,P⟩),X .i64 0]/\lo<=K/\w.heap[K]?=I (A c 248)/\c.size=20/\∀d,d<10->∃a b,c[d*2]?=I a/\c[d*2+1]?=I b/\VY w lo (k d) (Q #[a,b])
theorem VY.keep {w w':Y}{S:Nat->Prop}{lo:Nat}(e:Fr S w w')(f:∀K c,lo<=K->w.heap[K]?=I (A c 248)->¬S K):∀(t:Tr)(v:J),VY w lo t v->VY w' lo t v
 | .leaf _,_,h=>h
 | .node k,v,⟨K,c,h1,hl,h2,h3,h4⟩=>⟨K,c,h1,hl,e.whole h2 (f K c hl h2),h3,fun d g=>by
   obtain⟨a,b,i,j,l⟩:=h4 d g
   exact⟨a,b,i,j,VY.keep e f (k d) _ l⟩⟩
theorem VY.keep' {w w':Y}{S:Nat->Prop}{lo:Nat}{t:Tr}{v:J}(h:VY w lo t v)(a:Fr S w w')(b:∀K,lo<=K->¬S K):VY w' lo t v:=VY.keep a (fun K _ c _=>b K c) t v h
theorem VY.low {w:Y}{lo c:Nat}(e:c<=lo):∀(t:Tr)(v:J),VY w lo t v->VY w c t v
 | .leaf _,_,h=>h
 | .node k,v,⟨K,cs,h1,hl,h2,h3,h4⟩=>⟨K,cs,h1,H e hl,h2,h3,fun d f=>by
   obtain⟨a,b,g,i,j⟩:=h4 d f
   exact⟨a,b,g,i,VY.low e (k d) _ j⟩⟩
theorem TR.keep {c:Nat}{w0 w w':Y}{G M:Nat}{v0 v1:J}{R:List Zc}{a:Nat->Nat}{d:List Nat}{e:J}(h:TR c w0 w G M v0 v1 R a d e)(b:F0 w w'):TR c w0 w' G M v0 v1 R a d e:=by
 obtain⟨D,⟨es,f,g,i⟩,k⟩:=h.mp;obtain⟨l,n,o⟩:=h.pg;refine⟨h.ru,h.fr.trans (b.mono (by simp)),b.whole h.bx (by simp),⟨D,⟨es,f,b.whole g (by simp),i⟩,k⟩,⟨l,oF n b (by simp),fun j m p=>?_⟩,h.nd,h.lt⟩;obtain⟨q,r,s⟩:=o j m p;exact⟨q,r,OB s b⟩
theorem TR.wrote {r:Nat}{w0 w w':Y}{S:Nat->Prop}{G M:Nat}{v0 v1:J}{R:List Zc}{f:Nat->Nat}{z:List Nat}{B:J}(h:TR r w0 w G M v0 v1 R f z B)(g:Fr S w w')(o:∀k,S k->w0.heap.size<=k/\∃p t,w.heap[k]?=I (A p t)/\(t=133\/t=248)):TR r w0 w' G M v0 v1 R f z B:=by
 obtain⟨D,⟨es,F,C,i⟩,H⟩:=h.mp;obtain⟨d,E,K⟩:=h.pg
 have c:∀e s v n d b,(e=208\/e=3\/e=129)->w.ownsRow b e s v n d->∀k,v.ownBlock=I k->¬S k:=by
  intro e s v n d b u i k x l;obtain⟨_,p,t,a,q⟩:=o k l;exact oN i a (by rcases u with rfl|rfl|rfl<;>rcases q with rfl|rfl<;>decide) x
 have L:¬S G:=fun l=>by
  obtain⟨_,p,t,a,q⟩:=o G l;rw[h.bx]at a;injection a with a;injection a with _ a _;subst a
  rcases q with e|e<;>exact absurd e (by decide)
 have y:¬S M:=fun l=>by
  obtain⟨_,p,t,a,q⟩:=o M l;rw[C]at a
  cases a
 refine⟨h.ru,h.fr.monoNew g (fun k x=>Z (o k x).1),g.whole h.bx L,⟨D,⟨es,F,g.whole C y,i⟩,H⟩,⟨d,oA E g (c _ _ _ _ _ _ (Z (Z rfl)) E),fun j m N=>?_⟩,h.nd,h.lt⟩;obtain⟨O,P,Q⟩:=K j m N;exact⟨O,P,Tt Q g (fun e s v n d u i=>c e s v n d r (by rcases u with e|e<;>simp[e]) i)⟩
theorem TR.apart {f:Nat}{w0 w:Y}{G M:Nat}{v0 v1:J}{R:List Zc}{b:Nat->Nat}{g:List Nat}{c:J}(h:TR f w0 w G M v0 v1 R b g c):∀K d,w.heap[K]?=I (A d 248)->¬(K=G\/K=M\/c.ownBlock=I K):=by
 obtain⟨D,⟨es,k,i,_⟩,_⟩:=h.mp;obtain⟨l,j,_⟩:=h.pg;rintro K d a (rfl|rfl|e)
 ·rw[h.bx]at a
  injection a with a;injection a with _ a _;exact absurd a (by decide)
 ·rw[i]at a
  cases a
 ·exact oN j a (by decide) e
theorem TR.gr {b:Nat}{w0 w:Y}{G M:Nat}{v0 v1:J}{R:List Zc}{a:Nat->Nat}{c:List Nat}{d:J}(h:TR b w0 w G M v0 v1 R a c d):Cb b w G R a:=h.ru.at h.fr (bC h.bx 0 _ rfl) (bC h.bx 1 _ rfl)
theorem TR.few {c:Nat}{w0 w:Y}{G M:Nat}{v0 v1:J}{R:List Zc}{a:Nat->Nat}{b:List Nat}{d:J}(h:TR c w0 w G M v0 v1 R a b d):b.length<=256:=by
 have e:b⊆List.range 256:=fun m f=>List.mem_range.2 (h.lt m f)
 have:=List.Nodup.length_le_of_subset h.nd e
 simpa using this
def Tg (q:ZK)(op i:Nat)(r:Zc)(a:Nat×Nat):Nat×Nat:=
 if op.testBit i then(if ZO q (YQ r.digits r.lo r.hi)=2 then(a.1|||1<<<i,a.2)else if ZO q (YQ r.digits r.lo r.hi)=1 then(a.1,a.2|||1<<<i)else a)else a
theorem G8 {q:ZK}{op i:Nat}{R:List Zc}{r:Zc}{a:Nat×Nat}(h:R[i]?=I r):Xb q op i (R.drop i) a=Xb q op (i+1) (R.drop (i+1)) (Tg q op i r a):=by
 obtain⟨b,e⟩:=iG.1 h;rw[dC b,e];rfl
theorem ET {q:ZK}{op:Nat}{R:List Zc}{a:Nat×Nat}:Xb q op R.length (R.drop R.length) a=a:=by
 rw[dL (Nat.le_refl _)];rfl
structure Bf (zb:Nat)(w0 W2:Y)(G M K:Nat)(v0 v1:J)(R:List Zc)(ord:Nat->Nat)(f:Nat->List Nat->Tr×List Nat)(ps:List Nat)(vp:J)(d:Nat)(wx:Y):Prop where
 gs:∃vp',TR zb w0 wx G M v0 v1 R ord (Xu f d ps).2 vp'/\(vp'.ownBlock=vp.ownBlock\/∀k,vp'.ownBlock=I k->W2.heap.size<=k)
 fr:Fr (fun k=>k=G\/k=M\/vp.ownBlock=I k\/k=K) W2 wx
 ar:∃cs,wx.heap[K]?=I (A cs 248)/\cs.size=20/\∀j,j<d->∃a b,cs[j*2]?=I a/\cs[j*2+1]?=I b/\VY wx (K+1) ((Xu f d ps).1 j) (Q #[a,b])
def VZ (g:Nat)(w0 w:Y)(G M:Nat)(v0 v1:J)(R:List Zc)(d:Nat->Nat)(T:Tr×List Nat)(f:J)(e:Ending)(w':Y):Prop:=
 (∃a b,e=.returned (Q #[a,b])/\VY w' w.heap.size T.1 (Q #[a,b]))/\(∃c,TR g w0 w' G M v0 v1 R d T.2 c/\(c.ownBlock=f.ownBlock\/∀k,c.ownBlock=I k->w.heap.size<=k))/\Fr (fun k=>k=G\/k=M\/f.ownBlock=I k) w w'
theorem Bf.step {B:Nat}{w0 o E F c:Y}{G M K:Nat}{v0 v1:J}{R:List Zc}{l:Nat->Nat}{f:Nat->List Nat->Tr×List Nat}{n:List Nat}{r m:J}{d:Nat}{a b:J}
  (h:Bf B w0 o G M K v0 v1 R l f n r d E)(hd:d<10)(L:w0.heap.size<=K)(b0:K<o.heap.size)(N:TR B w0 E G M v0 v1 R l (Xu f d n).2 m)(s:m.ownBlock=r.ownBlock\/∀k,m.ownBlock=I k->o.heap.size<=k)(g:F0 E F)
  (hp:VZ B w0 F G M v0 v1 R l (f d (Xu f d n).2) m (.returned (Q #[a,b])) c):
  Bf B w0 o G M K v0 v1 R l f n r (d+1) ((c.setCell ⟨K,d*2,P⟩ a).setCell ⟨K,d*2+1,P⟩ b)/\(∃u,c.cell? ⟨K,d*2,P⟩=I u)/\(∃u,c.cell? ⟨K,d*2+1,P⟩=I u)/\(∀j,c.frozen? ⟨K,j,P⟩=false)/\Fr (fun k=>k=G\/k=M\/r.ownBlock=I k\/k=K) o c:=by
 obtain⟨⟨a',b',t,ht⟩,⟨O,S,v⟩,q⟩:=hp;injection t with t;injection t with t
 obtain⟨rfl,rfl⟩:a=a'/\b=b':=by simpa using t
 obtain⟨C,hc,T,w⟩:=h.ar;have z:=g.whole hc (by simp);have A:=N.keep g;have i:=q.whole z (A.apart K C z);have D:Fr (fun k=>k=K) c ((c.setCell ⟨K,d*2,P⟩ a).setCell ⟨K,d*2+1,P⟩ b):=((Fr.refl (fun k=>k=K) c).setCell (p:=⟨K,d*2,P⟩) (U rfl) _).setCell (p:=⟨K,d*2+1,P⟩) (U rfl) _
 have f8:Fr (fun k=>k=G\/k=M\/r.ownBlock=I k\/k=K) o c:=by
  refine(h.fr.trans (g.mono (by simp))).monoNew q ?_;rintro k (rfl|rfl|e)
  ·exact U (U rfl)
  ·exact U (Z (U rfl))
  ·rcases s with V|V
   ·exact U (Z (Z (U (V▸e))))
   ·exact Z (V k e)
 have W:o.heap.size<=F.heap.size:=H h.fr.size g.size;have e1:=heap_setCell_same c K (d*2) _ _ a i;have e2:=heap_setCell_same _ K (d*2+1) _ _ b e1;have g1:∃u,C[d*2]?=I u:=⟨_,Array.getElem?_eq_getElem (by omega)⟩;have g2:∃u,C[d*2+1]?=I u:=⟨_,Array.getElem?_eq_getElem (by omega)⟩;refine⟨⟨⟨O,S.wrote D ?_,?_⟩,f8.trans (D.mono (fun k w=>Z (Z (Z w)))),⟨_,e2,by simpa using T,?_⟩⟩,?_,?_,fun j=>bF i j,f8⟩
 ·rintro k rfl
  exact⟨L,C,_,i,Z rfl⟩
 ·rcases v with e|e
  ·rw[e]
   exact s
  ·exact Z fun k w=>H W (e k w)
 ·intro j hj
  by_cases ej:j=d
  ·subst ej
   refine⟨a,b,?_,?_,?_⟩
   ·rw[Array.getElem?_setIfInBounds_ne (by omega),Array.getElem?_setIfInBounds_self_of_lt (by omega)]
   ·rw[Array.getElem?_setIfInBounds_self_of_lt (by simp;omega)]
   ·have e:(Xu f (j+1) n).1 j=(f j (Xu f j n).2).1:=by simp[Xu]
    rw[e];exact(VY.low (by omega) _ _ ht).keep' D (fun X hl=>by omega)
  ·obtain⟨x,y,h1,h2,h3⟩:=w j (by omega)
   refine⟨x,y,?_,?_,?_⟩
   ·rw[Array.getElem?_setIfInBounds_ne (by omega),Array.getElem?_setIfInBounds_ne (by omega)]
    exact h1
   ·rw[Array.getElem?_setIfInBounds_ne (by omega),Array.getElem?_setIfInBounds_ne (by omega)]
    exact h2
   ·have e:(Xu f (d+1) n).1 j=(Xu f d n).1 j:=by simp[Xu,ej]
    rw[e];exact(VY.keep q (fun X cs' _ a0=>A.apart X cs' a0) _ _ (VY.keep g (fun _ _ _ _=>by simp) _ _ h3)).keep' D (fun X hl=>by omega)
 ·obtain⟨u,hu⟩:=g1
  exact⟨u,bC i _ _ hu⟩
 ·obtain⟨u,hu⟩:=g2
  exact⟨u,bC i _ _ hu⟩
