import Derived.Test.YtccikgogjfbpeaaGreatDoorAi
import Derived.Maps.OwnSet
import Derived.Maps.Views
open Option renaming none->I,some->J
open Go.Value renaming int->P,pointer->V,slice->Y,slice->B,string->C,ownBlock->y5,agg->y6,bool->y9,oneCell'->j1,string->j2
open Go.IntKind renaming i64->Z,u64->k9
open Go.Proofs.Tryz renaming prog->U
open Or renaming inl->O,inr->E
open _root_.ByteArray renaming empty->A
open Go.AllReadyH renaming nil->Q
open Go.RowKit renaming Hid->z5
open Go renaming World->z6,Value->y4,Calls->y7
open Go.Obj renaming cells->z7
open Nat renaming le_trans->z8,pow_le_pow_right->q3,le_of_eq->q7,add_zero->j5,pow_succ->k6,le_refl->k7,zero_le->k8
open Go.Ending renaming returned->z9
open List renaming getElem?_append_left->y3,take_add_one->y8,getElem?_cons_succ->q8,mem_append->q9,map_append->j0,getElem?_eq_none->j3,mem_cons->j4,pairwise_cons->j6,idxOf_append->j7,length_map->j8,all_append->j9,find?_cons->k0,drop_zero->k4,all_cons->k5
open Go.World renaming news_of_block->q4
open Bool renaming false_eq_true->q5,true_and->q6
namespace Go.Proofs.YtccikgogjfbpeaaGreatDoor
set_option maxRecDepth 30000
set_option maxHeartbeats 8000000
open Go.RowKit Go.Maps
theorem oA {w w' S base e a v n c}(h:w.ownsRow base e a v n c)(d:Fr S w w')(f:∀k,v.ownBlock=J k->¬S k):w'.ownsRow base e a v n c:=by
 refine⟨h.1,h.2.imp id ?_⟩;rintro⟨g,cap,b,rfl,i,j,l⟩;exact⟨g,cap,b,rfl,i,d.whole j (f g rfl),l⟩
theorem oN {w:z6}{b e t s v n g i j f}(h:w.ownsRow b e s v n i)(k:w.heap[g]?=J (z7 j t f))(c:e≠t):v.ownBlock≠J g:=by
 rcases h.2 with⟨rfl,_⟩|⟨m,cap,l,rfl,_,a,_⟩
 ·simp[y5]
 intro d
 simp[y5]at d;subst d;rw[k]at a;injection a with a;injection a with _ a _;exact c a.symm
theorem Mh {w:z6}{b e s v n g f es c}(h:w.ownsRow b e s v n f)(i:w.heap[g]?=J (.map es c)):v.ownBlock≠J g:=by
 rcases h.2 with⟨rfl,_⟩|⟨k,cap,j,rfl,_,a,_⟩
 ·simp[y5]
 intro d
 simp[y5]at d;subst d;rw[i]at a;injection a with a
 cases a
structure uW (zb:Nat)(w0:z6)(S:Nat->Prop)(v0 v1:y4)(rls:List Ze)(ord:Nat->Nat):Prop where
 zl:zb<=w0.heap.size
 rl:∃va c,v0=Y va rls.length c/\∀i r,rls[i]?=J r->∃g ma mc ca cc pa pc,va=J ⟨g,0,I⟩/\g<w0.heap.size/\¬S g/\
   (∀o v,[C r.name,P Z r.rank,P Z r.digits,P Z r.lo,P Z r.hi,Y ma r.mcc.length mc,y9 r.am.isSome,P Z (r.am.getD (0,0)).1,P Z (r.am.getD (0,0)).2,Y ca r.cur.length cc,y9 r.decline,y9 r.cheapest,Y pa r.routes.length pc,P Z r.ahead][o]?=J v->w0.cell? ⟨g,i*14+o,I⟩=J v)/\
   (w0.ownsRow zb 3 1 (Y ma r.mcc.length mc) r.mcc.length (Zg r.mcc)/\∀k,(B ma r.mcc.length mc).ownBlock=J k->¬S k)/\(w0.ownsRow zb 3 1 (Y ca r.cur.length cc) r.cur.length (Zg r.cur)/\∀k,(B ca r.cur.length cc).ownBlock=J k->¬S k)/\(w0.ownsRow zb 3 1 (Y pa r.routes.length pc) r.routes.length (Zg r.routes)/\∀k,(B pa r.routes.length pc).ownBlock=J k->¬S k)
 od:∃oa oc,v1=Y oa rls.length oc/\∀k,k<rls.length->∃og,oa=J ⟨og,0,I⟩/\og<w0.heap.size/\¬S og/\w0.cell? ⟨og,k,I⟩=J (P Z (ord k))
theorem uW.at {m w0 w S v0 v1 b d G}(h:uW m w0 S v0 v1 b d)(a:Fr S w0 w)(u:w.cell? ⟨G,0,I⟩=J v0)(x:w.cell? ⟨G,1,I⟩=J v1):xo m w G b d:=by
 obtain⟨y,⟨z,c,rfl,A⟩,B,C,rfl,D⟩:=h;refine⟨z8 y a.size,⟨z,c,u,fun i r hi=>?_⟩,B,C,x,fun k E=>?_⟩
 ·obtain⟨g,F,H,K,L,M,N,f,e,j,l,n,q,s⟩:=A i r hi
  exact⟨g,F,H,K,L,M,N,f,nL e a.size,fun o v O=>(a.cell (p:=⟨g,i*14+o,I⟩) e j).trans (l o v O),oA n.1 a n.2,oA q.1 a q.2,oA s.1 a s.2⟩
 obtain⟨t,f,e,j,l⟩:=D k E
 exact⟨t,f,nL e a.size,(a.cell (p:=⟨t,k,I⟩) e j).trans l⟩
structure ud (D:DataW Unit)(ps:List Nat):Prop where
 im:IsMap D
 at':∀m:Nat,m<256->Maps.has D (.int .u64 m)=decide (m∈ps)/\(m∈ps->∀z,D.atKey (.int .u64 m) z=.lit (.int .i64 (ps.idxOf m:Nat)))
theorem ud.put {D a met}(h:ud D a)(f:met∉a):ud (D.put (.int .u64 met) (.lit (.int .i64 (a.length:Nat)))) (a++[met]):=by
 refine⟨h.im.put _ _,fun m g=>?_⟩;by_cases e:m=met
 ·subst e
  refine⟨?_,fun _ z=>?_⟩
  ·rw[has_put_same h.im (by simp[WideAt.IsKeyLit])]
   simp
  rw[atKey_put_same h.im (by simp[WideAt.IsKeyLit]),j7,if_neg f]
  simp
 have b:Lit.int .u64 (m:Nat)≠Lit.int .u64 (met:Nat):=by
  intro d;injection d with _ d;omega
 obtain⟨i,j⟩:=h.at' m g;refine⟨?_,fun hi z=>?_⟩
 ·rw[has_put_other b,i]
  simp[e]
 have c:m∈a:=by simpa[e]using hi
 rw[atKey_put_other b,j c z,j7,if_pos c]
theorem SZ:Keyed U 183:=int_keyed Tryz.underlying183
theorem Mi (w):(zeroValue 3).run U w=.ok (P Z 0) w:=by kernel_rfl
theorem vx (m:Nat)(h:m<256):keyOf U 183 (.int .u64 m)=J (.int .u64 m):=keyOf_int_mk Tryz.underlying183 (WalkArith.wf_u64 (by omega))
theorem Mj:(U.info? 129).map (fun i=>(i.zero,i.size,i.bytes))=J (J (Y I 0 0),1,24):=by kernel_rfl
structure QA (zb:Nat)(w0 w:z6)(G M:Nat)(v0 v1:y4)(R:List Ze)(ord:Nat->Nat)(ps:List Nat)(vp:y4):Prop where
 ru:uW zb w0 (fun k=>k=G\/k=M) v0 v1 R ord
 fr:Fr (fun k=>k=G\/k=M) w0 w
 bx:w.heap[G]?=J (.cells #[v0,v1,vp,.map (J M)] 178)
 mp:∃D:DataW Unit,w.ownsMap U 183 (plainElem U 3) M ps.length D/\ud D ps
 pg:∃xs,w.ownsRow w0.heap.size 129 1 vp ps.length xs/\∀(j m:Nat),ps[j]?=J m->∃vj,xs[j]?=J vj/\Z3 zb w zb vj (ZJ R m (Wb R.length ord))
 nd:ps.Nodup
 lt:∀m,m∈ps->m<256
theorem Sj {a w w' S v l}(h:Z3 a w a v l)(c:Fr S w w')(d:∀e s v n b,(e=208\/e=3)->w.ownsRow a e s v n b->∀k,v.ownBlock=J k->¬S k):Z3 a w' a v l:=by
 obtain⟨b,f,i⟩:=h;exact⟨b,oA f c (d _ _ _ _ _ (O rfl) f),i.keep (fun v n j g=>oA g c (d _ _ _ _ _ (E rfl) g))⟩
theorem Ks {zb}{w:z6}{G M b n i es j d l}(m:w.heap[G]?=J (z7 i 178))(o:w.heap[M]?=J (.map es j))(p:w.ownsRow b 129 1 d n l):
  ∀e s v n f,(e=208\/e=3)->w.ownsRow zb e s v n f->∀k,v.ownBlock=J k->¬(k=G\/k=M\/d.ownBlock=J k):=by
 rintro e s v n f g c k a (rfl|rfl|h)
 ·exact oN c m (by rcases g with rfl|rfl<;>decide) a
 ·exact Mh c o a
 rcases WL c p (by rcases g with rfl|rfl<;>decide)with h'|h'
 ·rw[h']at a
  cases a
 exact h' (a.trans h.symm)
theorem QA.more {H w0 w Z K d G M v0 v1 R f t i n l met g cap L D1 u}(h:QA H w0 w G M v0 v1 R f t (Y i n l))(hn:t.length=n)(a0:met∉t)(hm:met<256)(hM:M<w0.heap.size)(hG:G<w0.heap.size)(o:w.ownsRow w0.heap.size 129 1 (Y i n l) n L)(b0:∀(j m:Nat),t[j]?=J m->∃W,L[j]?=J W/\Z3 H w H W (ZJ R m (Wb R.length f)))(c0:Z.ownsMap U 183 (plainElem U 3) M (n+1) D1)(d0:ud D1 (t++[met]))(v:Fr (fun k=>k=M) w Z)(q:F0 Z K)(e0:Z3 H K H u (ZJ R met (Wb R.length f)))(s:d.ownsRow w0.heap.size 129 1 (Y (J ⟨g,0,I⟩) (n+1) cap) (n+1) (L++[u]))(x:K.grownBy d (B i n l).ownBlock):
  QA H w0 (d.setCell ⟨G,2,I⟩ (Y (J ⟨g,0,I⟩) (n+1) cap)) G M v0 v1 R f (t++[met]) (Y (J ⟨g,0,I⟩) (n+1) cap)/\Fr (fun k=>k=G\/k=M\/(B i n l).ownBlock=J k) w (d.setCell ⟨G,2,I⟩ (Y (J ⟨g,0,I⟩) (n+1) cap))/\d.cell? ⟨G,2,I⟩=J (Y i n l)/\d.frozen? ⟨G,2,I⟩=false:=by
 have y:∀k,(B i n l).ownBlock=J k->w0.heap.size<=k:=fun k c=>(o.lt k c).1
 obtain⟨D,⟨m0,n0,z,_⟩,_⟩:=h.mp
 have N:G≠M:=by
  rintro rfl;rw[h.bx]at z
  cases z
 have f0:=v.whole h.bx N;have P:=q.whole f0;have A:=(Fr.refl _ K).grown x (fun k c=>O c);have r:=A.whole P (fun e=>by have:=y G e;omega);have Q:Fr (fun k=>k=G\/k=M\/(B i n l).ownBlock=J k) K (d.setCell ⟨G,2,I⟩ (Y (J ⟨g,0,I⟩) (n+1) cap)):=Fr.setCell (S:=fun k=>k=G\/k=M\/(B i n l).ownBlock=J k) (A.mono (fun k c=>E (E c))) (p:=⟨G,2,I⟩) (O (O rfl)) _;have g0:Fr (fun k=>k=G\/k=M\/(B i n l).ownBlock=J k) w K:=(v.mono (fun k c=>E (O c))).trans (q.mono);have F:=g0.trans Q;have T:=oF (oF o v (fun k c=>by omega)) q;obtain⟨es,ck,h0,i0⟩:=c0;have V:=q.whole h0;refine⟨⟨h.ru,h.fr.monoNew F ?_,?_,⟨D1,⟨es,ck,?_,?_⟩,d0⟩,⟨L++[u],?_,?_⟩,?_,?_⟩,F,Zc r 2,bF r 2⟩
 ·rintro k (rfl|rfl|c)
  ·exact O (O rfl)
  ·exact O (E rfl)
  exact E (y k c)
 ·have e:=heap_setCell_same d G 2 _ _ (Y (J ⟨g,0,I⟩) (n+1) cap) r
  simpa using e
 ·have j0:=A.whole V (fun e=>by have:=y M e;omega)
  rw[heap_setCell_other d ⟨G,2,I⟩ M _ (fun e=>N e.symm)];exact j0
 ·rw[lA,hn]
  exact i0
 ·rw[lA,hn]
  exact ownsRow_setCell_other s (a:=⟨G,2,I⟩) (oN s r (by decide)) _
 ·intro j m C
  have o0:L.length=n:=by have:=o.1;omega
  rcases Nat.lt_or_ge j n with p0|q0
  ·rw[y3 (by omega)]at C
   obtain⟨W,e1,e2⟩:=b0 j m C;exact⟨W,by rw[y3 (by omega)];exact e1,Sj e2 F (Ks h.bx z o)⟩
  rw[aR (by omega)]at C
  have k0:j-t.length=0:=by
   have:=(iG.1 C).1;simp at this;omega
  rw[k0]at C;simp at C;subst C;refine⟨u,?_,Sj e0 Q (Ks P V T)⟩;rw[aR (by omega),show j-L.length=0 from by omega];rfl
 ·rw[List.nodup_append]
  refine⟨h.nd,by simp,fun a ha b hb=>?_⟩;simp at hb;subst hb;rintro rfl;exact a0 ha
 intro m l0
 rcases q9.1 l0 with X|X
 ·exact h.lt m X
 simp at X
 subst X;exact hm
theorem JG {zb}(w0 w G M v0 v1 R d p vp)(met:Nat)(h:QA zb w0 w G M v0 v1 R d p vp)(hM:M<w0.heap.size)(hG:G<w0.heap.size)(l0:p.length<=256)(hn:R.length<=8)(hm:met<256)(ho:∀k,k<R.length->d k<R.length)(hR:∀r,r∈R->r.mcc.length<=4000/\r.cur.length<=4000):
  y7 U 148 #[.pointer (J ⟨G,0,I⟩),.int .u64 met] w fun e w'=>e=.returned (.int .i64 (Vg p met:Nat))/\(∃P,QA zb w0 w' G M v0 v1 R d (Wy p met) P/\(P.ownBlock=vp.ownBlock\/∀k,P.ownBlock=J k->w.heap.size<=k))/\Fr (fun k=>k=G\/k=M\/vp.ownBlock=J k) w w':=by
 obtain⟨ii,m0,n0,o0,p0⟩:=info_parts Mj;have A:=Za h
 have q0:z5 (∀W,xo zb W G R d->y7 U 187 #[.pointer (J ⟨G,0,I⟩),.int .u64 met] W fun e w'=>(∃v,e=.returned v/\Z3 zb w' W.heap.size v (ZJ R met (Wb R.length d)))/\F0 W w'):=fun W hW=>FR W G R d met hW hn hm ho hR
 obtain⟨D,t,hD⟩:=h.mp;have u:=Za t;have HD:=Za hD;have HK:=Za (vx met hm);obtain⟨C,T,r0⟩:=h.pg;obtain⟨V,X,e3⟩:=oL T;subst e3;obtain⟨n,b0⟩:∃n,p.length=n:=⟨_,rfl⟩;have HN:=Za b0;rw[b0]at u A l0 T ⊢;have Y:z5 (w.ownsRow w0.heap.size 129 1 (.slice V n X) n C/\∀(j m:Nat),p[j]?=J m->∃vj,C[j]?=J vj/\Z3 zb w zb vj (ZJ R m (Wb R.length d))):=⟨T,r0⟩;have x2:=Zc A.o.bx 2;have x3:=Zc A.o.bx 3;have H:=(hD.at' met hm).1;by_cases i:met∈p
 ·have hh:Maps.has D (.int .u64 met)=true:=by rw[H];simpa using i
  go_enter Tryz.func148,Tryz.ntmps148
  go_wp2_with (at_lookup;refine wpList_lookup_own_ok_int _ rfl (.tmp 11) (.tmp 12) 176 rfl 183 3 .i64 SZ Tryz.underlying176 Tryz.underlying3 (Mi _) M n D rfl u.o _ _ rfl HK.o ?h1;rw[hh])
  intro c q s0
  have hc:c=((Vg p met:Nat):Int):=by
   rw[(HD.o.at' met hm).2 i]at q;injection q with q;injection q with _ q;exact q.symm
  subst hc;go_wp2_with fail;go_ret;refine⟨rfl,⟨.slice V n X,?_,O rfl⟩,Zt⟩;rw[show Wy p met=p from if_pos i];exact A.o
 have hh:Maps.has D (.int .u64 met)=false:=by rw[H];simpa using i
 go_enter Tryz.func148,Tryz.ntmps148
 go_wp2_with (at_lookup;refine wpList_lookup_own_ok_int _ rfl (.tmp 11) (.tmp 12) 176 rfl 183 3 .i64 SZ Tryz.underlying176 Tryz.underlying3 (Mi _) M n D rfl u.o _ _ rfl HK.o ?g1;rw[hh])
 intro c q s0
 go_wp2_with (at_mapUpdate;refine wpList_mapUpdate_own _ rfl (.tmp 26) (.tmp 27) (.tmp 28) 176 rfl 183 3 SZ Tryz.underlying176 _ M n D rfl u.o ?k1 _ _ _ rfl rfl HK.o (.lit (.int .i64 (n:Nat))) [] ?k2 ?k3)
 case k1=>unfold maxLen;omega
 case k2=>exact plainElem_int Tryz.underlying3 (WalkArith.wf_i64 (by omega))
 intro w1 Z F;have x:Fr (fun k=>k=M) w w1:=(Fr.refl _ w).grown F (fun k L=>O (by injection L with L;exact L.symm))
 have t0:G≠M:=by
  obtain⟨C0,D0,c0,_⟩:=u.o;rintro rfl;rw[A.o.bx]at c0
  cases c0
 have d0:=Za x;have e0:=Za Z
 have x0:z5 (ud (D.put (.int .u64 met) (.lit (.int .i64 (n:Nat)))) (p++[met])):=by
  have e:=HD.o.put i;rw[HN.o]at e;exact e
 have y:=x.whole A.o.bx t0;have y2:=Zc y 2;have g0:=oF Y.o.1 x (fun k L=>by omega);have h0:w0.heap.size<=w1.heap.size:=z8 A.o.fr.size x.size
 have i0:z5 (∀W,F0 w1 W->y7 U 187 #[.pointer (J ⟨G,0,I⟩),.int .u64 met] W fun e w'=>(∃a b c,e=.returned (.slice a b c)/\z5 (Z3 zb w' zb (.slice a b c) (ZJ R met (Wb R.length d))))/\z5 (F0 w1 w'/\w'.ownsRow w0.heap.size 129 1 (.slice V n X) n C/\w0.heap.size<=w'.heap.size)/\w'.cell? ⟨G,2,I⟩=J (.slice V n X)):=by
  intro W hW
  have j0:xo zb W G R d:=by
   have f0:=A.o.fr.trans (x.mono (fun k L=>E L));have b:=hW.whole y;exact A.o.ru.at (f0.trans (hW.mono)) (Zc b 0) (Zc b 1)
  refine(q0.o W j0).mono ?_;rintro e w' ⟨⟨v,rfl,y0⟩,hf⟩;have f2:=hW.trans hf;obtain⟨ys,o1,o2⟩:=y0;obtain⟨a,c,e3⟩:=oL o1;subst e3;exact⟨⟨a,_,c,rfl,⟨ys,oS o1 j0.zl,o2⟩⟩,⟨f2,oF g0 f2,z8 h0 f2.size⟩,bC (f2.whole y) 2 _ rfl⟩
 have z0:z5 (Vg p met=n):=by
  unfold Vg;rw[List.idxOf_eq_length i];exact HN.o
 go_wp2_with fail;refine wp_region_held_drew (S:=fun _=>True) (by kernel_rfl) trivial (fun s=>?_)
 iterate 4 (refine YP 0 s ?_;try go_frame)
 iterate 2 ((first|refine YP 0 s ?_|refine YP 1 s ?_);try go_frame)
 refine XC [4,7] ?_;refine Zb rfl (fun K f=>?p1) (Zb rfl (fun K f=>?p2) Q)
 case' p1=>
  try rw[if_pos (by rfl)]
  go_simp;refine f.out _ _ s (fun _=>?_)
  try go_frame
  refine Vy 7 (fun K f=>?_);go_simp;refine(i0.o _ Zt.drew).mono ?_;rintro e w5 ⟨⟨a1,b1,c1,rfl,k0⟩,z,z2⟩;refine f.out _ _ trivial (fun s=>?_)
  try go_frame
  refine Vy 8 (fun K f=>?_);go_simp;refine f.out _ _ trivial (fun s=>?_)
  try go_frame
 case' p2=>
  go_simp;refine(i0.o _ Zt.drew).mono ?_;rintro e w5 ⟨⟨a1,b1,c1,rfl,k0⟩,z,z2⟩;refine f.out _ _ trivial (fun s=>?_)
  try go_frame
  refine XC [4,8] ?_;refine Zb rfl (fun K f=>?p3) (Zb rfl (fun K f=>?p4) Q)
 case' p3=>
  try rw[if_pos (by rfl)]
  go_simp;refine f.out _ _ s (fun _=>?_)
  try go_frame
  refine Vy 8 (fun K f=>?_);go_simp;refine f.out _ _ trivial (fun s=>?_)
  try go_frame
 case' p4=>
  try rw[if_pos (by rfl)]
  go_simp;refine f.out _ _ trivial (fun s=>?_)
  try go_frame
  refine XC [4] ?_;refine Zb rfl (fun K f=>?_) Q
  try rw[if_pos (by rfl)]
  have z3:=fun o=>(World.cell?_alloc_some w5 ⟨G,2,I⟩ o (by simp[z2])).trans z2
  go_simp;refine f.out _ _ s (fun _=>?_)
  try go_frame
 all_goals
  refine XC [9] ?_;refine Zb rfl (fun K f=>?_) Q;refine step_append_lies _ rfl (.tmp 33) (.tmp 37) 130 rfl w0.heap.size 129 ii _ 1 24 Tryz.underlying130 m0 n0 o0 p0 rfl (by decide) (.slice V n X) n C rfl ?h1 ⟨w5.heap.size,0,I⟩ 1 1 [.slice a1 b1 c1] rfl rfl ?h2 ?h3 (by decide) ?h4 ?h5 ?h6 _ rfl ?h7
  case h1=>exact z.o.2.1.alloc _
  case h2=>exact q4 (aN w5 _)
  case h3=>simp[j1]
  case h4=>unfold maxLen;omega
  case h5=>omega
  case h6=>have:=z.o.2.2;simp;omega
  intro g2 l w8 t a0 A0 _;have g:=QA.more A.o HN.o i hm hM hG Y.o.1 Y.o.2 e0.o x0.o d0.o (z.o.1.alloc _) (Q6 k0.o (Zt.alloc _)) t a0;have d2:=g.2.2.1;have df:=g.2.2.2
  have B0:z5 ((B (J ⟨g2,0,I⟩) (n+1) l).ownBlock=(B V n X).ownBlock\/∀k,(B (J ⟨g2,0,I⟩) (n+1) l).ownBlock=J k->w.heap.size<=k):=by
   rcases A0 with e|e
   ·exact O e.symm
   refine E fun k L=>?_
   have e2:g2=k:=by simpa[y5]using L
   have:=d0.o.size;have:=z.o.1.size
   have e3:g2=w5.heap.size+1:=by rw[e];simp
   omega
  have N:z5 (QA zb w0 (w8.setCell ⟨G,2,I⟩ (.slice (J ⟨g2,0,I⟩) (n+1) l)) G M v0 v1 R d (p++[met]) (.slice (J ⟨g2,0,I⟩) (n+1) l)/\Fr (fun k=>k=G\/k=M\/(B V n X).ownBlock=J k) w (w8.setCell ⟨G,2,I⟩ (.slice (J ⟨g2,0,I⟩) (n+1) l))):=⟨g.1,g.2.1⟩;refine f.out _ _ trivial (fun s=>?_)
  try go_frame
  iterate 2 (refine YP 0 s ?_;try go_frame)
  refine Vy 12 (fun K f=>?_);go_simp;refine f.out _ _ trivial (fun _=>?_)
  try go_frame
  refine wpAnyH_done (by kernel_rfl) ?_ _;go_wp2;go_ret;refine⟨by rw[z0.o];rfl,⟨_,?_,B0.o⟩,N.o.2⟩;rw[show Wy p met=p++[met]from if_neg i];exact N.o.1
def Xf (w:z6)(lo:Nat):Tr->y4->Prop
 | .leaf p,v=>v=y6 #[V I,P Z p]
 | .node k,v=>∃K c,v=y6 #[V (J ⟨K,0,I⟩),P Z 0]/\lo<=K/\w.heap[K]?=J (z7 c 248)/\c.size=20/\∀d,d<10->∃a b,c[d*2]?=J a/\c[d*2+1]?=J b/\Xf w lo (k d) (y6 #[a,b])
theorem Xf.keep {w w':z6}{S:Nat->Prop}{lo:Nat}(e:Fr S w w')(f:∀K c,lo<=K->w.heap[K]?=J (z7 c 248)->¬S K):∀(t:Tr)(v:y4),Xf w lo t v->Xf w' lo t v
 | .leaf _,_,h=>h
 | .node k,v,⟨K,c,h1,hl,h2,h3,h4⟩=>⟨K,c,h1,hl,e.whole h2 (f K c hl h2),h3,fun d g=>by
   obtain⟨a,b,i,j,l⟩:=h4 d g
   exact⟨a,b,i,j,Xf.keep e f (k d) _ l⟩⟩
theorem Xf.keep' {w w' S lo t v}(h:Xf w lo t v)(a:Fr S w w')(b:∀K,lo<=K->¬S K):Xf w' lo t v:=Xf.keep a (fun K _ c _=>b K c) t v h
theorem Xf.low {w:z6}{lo c:Nat}(e:c<=lo):∀(t:Tr)(v:y4),Xf w lo t v->Xf w c t v
 | .leaf _,_,h=>h
 | .node k,v,⟨K,cs,h1,hl,h2,h3,h4⟩=>⟨K,cs,h1,z8 e hl,h2,h3,fun d f=>by
   obtain⟨a,b,g,i,j⟩:=h4 d f
   exact⟨a,b,g,i,Xf.low e (k d) _ j⟩⟩
theorem QA.keep {c w0 w w' G M v0 v1 R a d e}(h:QA c w0 w G M v0 v1 R a d e)(b:F0 w w'):QA c w0 w' G M v0 v1 R a d e:=by
 obtain⟨D,⟨es,f,g,i⟩,k⟩:=h.mp;obtain⟨l,n,o⟩:=h.pg;refine⟨h.ru,h.fr.trans (b.mono),b.whole h.bx,⟨D,⟨es,f,b.whole g,i⟩,k⟩,⟨l,oF n b,fun j m p=>?_⟩,h.nd,h.lt⟩;obtain⟨q,r,s⟩:=o j m p;exact⟨q,r,Q6 s b⟩
theorem QA.wrote {r w0 w w' S G M v0 v1 R f z A}(h:QA r w0 w G M v0 v1 R f z A)(g:Fr S w w')(o:∀k,S k->w0.heap.size<=k/\∃p t,w.heap[k]?=J (z7 p t)/\(t=133\/t=248)):QA r w0 w' G M v0 v1 R f z A:=by
 obtain⟨D,⟨es,F,B,i⟩,H⟩:=h.mp;obtain⟨d,C,I⟩:=h.pg
 have c:∀e s v n d b,(e=208\/e=3\/e=129)->w.ownsRow b e s v n d->∀k,v.ownBlock=J k->¬S k:=by
  intro e s v n d b u i k x l;obtain⟨_,p,t,a,q⟩:=o k l;exact oN i a (by rcases u with rfl|rfl|rfl<;>rcases q with rfl|rfl<;>decide) x
 have K:¬S G:=fun l=>by
  obtain⟨_,p,t,a,q⟩:=o G l;rw[h.bx]at a;injection a with a;injection a with _ a _;subst a
  rcases q with e|e<;>exact absurd e (by decide)
 have y:¬S M:=fun l=>by
  obtain⟨_,p,t,a,q⟩:=o M l;rw[B]at a
  cases a
 refine⟨h.ru,h.fr.monoNew g (fun k x=>E (o k x).1),g.whole h.bx K,⟨D,⟨es,F,g.whole B y,i⟩,H⟩,⟨d,oA C g (c _ _ _ _ _ _ (E (E rfl)) C),fun j m L=>?_⟩,h.nd,h.lt⟩;obtain⟨N,O,P⟩:=I j m L;exact⟨N,O,Sj P g (fun e s v n d u i=>c e s v n d r (by rcases u with e|e<;>simp[e]) i)⟩
theorem QA.apart {f w0 w G M v0 v1 R b g c}(h:QA f w0 w G M v0 v1 R b g c):∀K d,w.heap[K]?=J (z7 d 248)->¬(K=G\/K=M\/c.ownBlock=J K):=by
 obtain⟨D,⟨es,k,i,_⟩,_⟩:=h.mp;obtain⟨l,j,_⟩:=h.pg;rintro K d a (rfl|rfl|e)
 ·rw[h.bx]at a
  injection a with a;injection a with _ a _;exact absurd a (by decide)
 ·rw[i]at a
  cases a
 exact oN j a (by decide) e
theorem QA.gr {b w0 w G M v0 v1 R a c d}(h:QA b w0 w G M v0 v1 R a c d):xo b w G R a:=h.ru.at h.fr (Zc h.bx 0) (Zc h.bx 1)
theorem QA.few {c w0 w G M v0 v1 R a b d}(h:QA c w0 w G M v0 v1 R a b d):b.length<=256:=by
 have e:b⊆List.range 256:=fun m f=>List.mem_range.2 (h.lt m f)
 have:=List.Nodup.length_le_of_subset h.nd e
 simpa using this
def TU (q:Z5)(op i:Nat)(r:Ze)(a:Nat×Nat):Nat×Nat:=
 if op.testBit i then(if ZI q (YS r.digits r.lo r.hi)=2 then(a.1|||1<<<i,a.2)else if ZI q (YS r.digits r.lo r.hi)=1 then(a.1,a.2|||1<<<i)else a)else a
theorem CQ {q op i}{R:List Ze}{r a}(h:R[i]?=J r):YA q op i (R.drop i) a=YA q op (i+1) (R.drop (i+1)) (TU q op i r a):=by
 obtain⟨hi,e⟩:=iG.1 h;rw[dC hi,e];rfl
theorem A8 {q op}{R:List Ze}{a}:YA q op R.length (R.drop R.length) a=a:=by
 rw[dL (k7 _)];rfl
structure ue (zb:Nat)(w0 W2:z6)(G M K:Nat)(v0 v1:y4)(R:List Ze)(ord:Nat->Nat)(f:Nat->List Nat->Tr×List Nat)(ps:List Nat)(vp:y4)(d:Nat)(wx:z6):Prop where
 gs:∃vp',QA zb w0 wx G M v0 v1 R ord (YB f d ps).2 vp'/\(vp'.ownBlock=vp.ownBlock\/∀k,vp'.ownBlock=J k->W2.heap.size<=k)
 fr:Fr (fun k=>k=G\/k=M\/vp.ownBlock=J k\/k=K) W2 wx
 ar:∃cs,wx.heap[K]?=J (z7 cs 248)/\cs.size=20/\∀j,j<d->∃a b,cs[j*2]?=J a/\cs[j*2+1]?=J b/\Xf wx (K+1) ((YB f d ps).1 j) (y6 #[a,b])
def U5 (g:Nat)(w0 w:z6)(G M:Nat)(v0 v1:y4)(R:List Ze)(d:Nat->Nat)(T:Tr×List Nat)(f:y4)(e:Ending)(w':z6):Prop:=
 (∃a b,e=z9 (y6 #[a,b])/\Xf w' w.heap.size T.1 (y6 #[a,b]))/\(∃c,QA g w0 w' G M v0 v1 R d T.2 c/\(c.ownBlock=f.ownBlock\/∀k,c.ownBlock=J k->w.heap.size<=k))/\Fr (fun k=>k=G\/k=M\/f.ownBlock=J k) w w'
theorem ue.step {B w0 o F H c G M K v0 v1 R l f n r m d a b}(h:ue B w0 o G M K v0 v1 R l f n r d F)(hd:d<10)(L:w0.heap.size<=K)(a0:K<o.heap.size)(N:QA B w0 F G M v0 v1 R l (YB f d n).2 m)(s:m.ownBlock=r.ownBlock\/∀k,m.ownBlock=J k->o.heap.size<=k)(g:F0 F H)(hp:U5 B w0 H G M v0 v1 R l (f d (YB f d n).2) m (z9 (y6 #[a,b])) c):
  ue B w0 o G M K v0 v1 R l f n r (d+1) ((c.setCell ⟨K,d*2,I⟩ a).setCell ⟨K,d*2+1,I⟩ b)/\(∃u,c.cell? ⟨K,d*2,I⟩=J u)/\(∃u,c.cell? ⟨K,d*2+1,I⟩=J u)/\(∀j,c.frozen? ⟨K,j,I⟩=false)/\Fr (fun k=>k=G\/k=M\/r.ownBlock=J k\/k=K) o c:=by
 obtain⟨⟨a',b',t,ht⟩,⟨P,Q,v⟩,q⟩:=hp;injection t with t;injection t with t
 obtain⟨rfl,rfl⟩:a=a'/\b=b':=by simpa using t
 obtain⟨C,hc,S,w⟩:=h.ar;have z:=g.whole hc;have A:=N.keep g;have i:=q.whole z (A.apart K C z);have D:Fr (fun k=>k=K) c ((c.setCell ⟨K,d*2,I⟩ a).setCell ⟨K,d*2+1,I⟩ b):=((Fr.refl (fun k=>k=K) c).setCell (p:=⟨K,d*2,I⟩) (O rfl) _).setCell (p:=⟨K,d*2+1,I⟩) (O rfl) _
 have Y:Fr (fun k=>k=G\/k=M\/r.ownBlock=J k\/k=K) o c:=by
  refine(h.fr.trans (g.mono)).monoNew q ?_;rintro k (rfl|rfl|e)
  ·exact O (O rfl)
  ·exact O (E (O rfl))
  rcases s with T|T
  ·exact O (E (E (O (T▸e))))
  exact E (T k e)
 have U:o.heap.size<=H.heap.size:=z8 h.fr.size g.size;have e1:=heap_setCell_same c K (d*2) _ _ a i;have e2:=heap_setCell_same _ K (d*2+1) _ _ b e1;have g1:∃u,C[d*2]?=J u:=⟨_,Array.getElem?_eq_getElem (by omega)⟩;have g2:∃u,C[d*2+1]?=J u:=⟨_,Array.getElem?_eq_getElem (by omega)⟩;refine⟨⟨⟨P,Q.wrote D ?_,?_⟩,Y.trans (D.mono (fun k w=>E (E (E w)))),⟨_,e2,by simpa using S,?_⟩⟩,?_,?_,fun j=>bF i j,Y⟩
 ·rintro k rfl
  exact⟨L,C,_,i,E rfl⟩
 ·rcases v with e|e
  ·rw[e]
   exact s
  exact E fun k w=>z8 U (e k w)
 ·intro j hj
  by_cases Z:j=d
  ·subst Z
   refine⟨a,b,?_,?_,?_⟩
   ·rw[Array.getElem?_setIfInBounds_ne (by omega),Array.getElem?_setIfInBounds_self_of_lt (by omega)]
   ·rw[Array.getElem?_setIfInBounds_self_of_lt (by simp;omega)]
   have e:(YB f (j+1) n).1 j=(f j (YB f j n).2).1:=by simp[YB]
   rw[e];exact(Xf.low (by omega) _ _ ht).keep' D (fun V hl=>by omega)
  obtain⟨x,y,h1,h2,h3⟩:=w j (by omega)
  refine⟨x,y,?_,?_,?_⟩
  ·rw[Array.getElem?_setIfInBounds_ne (by omega),Array.getElem?_setIfInBounds_ne (by omega)]
   exact h1
  ·rw[Array.getElem?_setIfInBounds_ne (by omega),Array.getElem?_setIfInBounds_ne (by omega)]
   exact h2
  have e:(YB f (d+1) n).1 j=(YB f d n).1 j:=by simp[YB,Z]
  rw[e];exact(Xf.keep q (fun V cs' _ W=>A.apart V cs' W) _ _ (Xf.keep g (fun _ _ _ _=>by simp) _ _ h3)).keep' D (fun V hl=>by omega)
 ·obtain⟨u,X⟩:=g1
  exact⟨u,bC i _ _ X⟩
 obtain⟨u,X⟩:=g2
 exact⟨u,bC i _ _ X⟩
theorem Xf.form {w:z6}{lo:Nat}{a b:y4}:∀{t:Tr},Xf w lo t (y6 #[a,b])->∃(p:Option Addr)(k:Nat),a=V p/\b=P Z k
 | .leaf p,h=>by
  have e:=h;injection e with e
  obtain⟨c,d⟩:a=V I/\b=P Z p:=by simpa using e
  exact⟨I,p,c,d⟩
 | .node _,⟨K,_,e,_⟩=>by
  injection e with e
  obtain⟨c,d⟩:a=V (J ⟨K,0,I⟩)/\b=P Z 0:=by simpa using e
  exact⟨_,0,c,d⟩
def I9:Array y4:=#[V I,P Z 0,V I,P Z 0,V I,P Z 0,V I,P Z 0,V I,P Z 0,V I,P Z 0,V I,P Z 0,V I,P Z 0,V I,P Z 0,V I,P Z 0]
structure sD (W0:z6)(q:Z5)(op:Nat)(R:List Ze)(met i a1 a2:Nat)(wr:z6):Prop where
 fr:F0 W0 wr
 eq:YA q op i (R.drop i) (a1,a2)=YA q op 0 R (met,0)
theorem CR {zb}(w0 G M v0 v1 R z)(hM:M<w0.heap.size)(hG:G<w0.heap.size)(J1:R.length<=8)(ho:∀k,k<R.length->z k<R.length)(hR:∀r,r∈R->r.mcc.length<=4000/\r.cur.length<=4000)(hB:∀r,r∈R->Q0 r/\r.lo<=1000000)(n)(ih:∀q (met op:Nat) B D w,7<=n+q.d->q.d<=6->q.x<10^q.d->met<256->op<256->QA zb w0 w G M v0 v1 R z B D->y7 U 93 #[V (J ⟨G,0,I⟩),VX q,P .u64 met,P .u64 op] w (U5 zb w0 w G M v0 v1 R z (ZH R n q met op B) D))(q)(met op:Nat)(B D w)(h7:7<=n+1+q.d)(hq:q.d<=6)(hx:q.x<10^q.d)(hm:met<256)(K1:op<256)(h:QA zb w0 w G M v0 v1 R z B D):
  y7 U 93 #[V (J ⟨G,0,I⟩),VX q,P .u64 met,P .u64 op] w (U5 zb w0 w G M v0 v1 R z (ZH R (n+1) q met op B) D):=by
 have L1:=Za ih;have HS:=Za h;have HO:=Za ho;have M1:=Za hR;have k1:=Za hB;have HX:=Za hx;have H7:=Za h7;obtain⟨N,hN⟩:∃N,R.length=N:=⟨_,rfl⟩;have HN:=Za hN;obtain⟨va,c,h0,_⟩:=h.gr.rl;rw[hN]at h0 J1
 have HQ:z5 (∀e w',U5 zb w0 w G M v0 v1 R z (ZH R (n+1) q met op B) D e w'↔U5 zb w0 w G M v0 v1 R z (ZH R (n+1) q met op B) D e w'):=fun _ _=>Iff.rfl
 generalize m0:U5 zb w0 w G M v0 v1 R z (ZH R (n+1) q met op B) D=t2 at*;have HP:=Za m0;clear ih h ho hR hB hx h7 hN m0 HQ;obtain⟨u,A⟩:=q;unfold VX;simp only at hq;go_enter Tryz.func93,Tryz.ntmps93;obtain⟨B0,C0,N0⟩:=SE w (z7 #[P Z u,P Z A] 181) (z7 #[V I,P Z 0] 133);go_upto_region 1 with fail;generalize(w.alloc _).alloc _=W0 at*;obtain⟨b,hb⟩:∃b,w.heap.size=b:=⟨_,rfl⟩;have HB:=Za hb;rw[hb]at C0 N0 ⊢;clear hb;have O0:=Za (HS.o.keep B0.o);have g0:=(B0.o.cell (p:=⟨G,0,I⟩) (bL w _ h0)).trans h0;have P0:=Za g0;clear h0;go_wp2_with fail
 go_loopg [2,9,19] N (fun m mv sv kv wr=>∃i t C,i<=N/\m=N-i/\kv=P Z (i:Nat)/\mv=P .u64 (t:Nat)/\sv=P .u64 (C:Nat)/\t<256/\C<256/\z5 (sD W0 ⟨u,A⟩ op R met i t C wr))
 case atStart=>exact⟨0,met,0,k8 _,rfl,rfl,rfl,rfl,hm,by omega,⟨Zt,rfl⟩⟩
 obtain⟨i,t,C,hi,rfl,rfl,rfl,rfl,Y,i0,HF⟩:=hrel;by_cases R0:i<N
 ·have N1:(i:Int)<(N:Int):=by omega
  have l1:=(O0.o.keep HF.o.fr).gr;obtain⟨B2,c2,m1,o1⟩:=l1.rl;obtain⟨r,hr⟩:∃r,R[i]?=J r:=⟨_,gE (by have:=HN.o;omega)⟩;have r1:=Za hr;obtain⟨g,ma,mc,ca,cc,pa,pc,eg,O1,f,P1,Q1,R1⟩:=o1 i r hr;have e1:=(HF.o.fr.cell (p:=⟨G,0,I⟩) (bL W0 _ P0.o)).trans P0.o;rw[m1]at e1;injection e1 with e1;injection e1 with e1 _ e2;rw[eg]at e1;subst e1;have t1:=f 0 _ rfl;have S1:=f 1 _ rfl;have v2:=f 2 _ rfl;have v3:=f 3 _ rfl;have v4:=f 4 _ rfl;have v5:=f 5 _ rfl;have v6:=f 6 _ rfl;have v7:=f 7 _ rfl;have v8:=f 8 _ rfl;have v9:=f 9 _ rfl;have T1:=f 10 _ rfl;have V1:=f 11 _ rfl;have X1:=f 12 _ rfl;have Y1:=f 13 _ rfl;rw[j5]at t1;clear f P1 Q1 R1 o1 l1 O1 m1 hr;have D0:=Za (HF.o.fr.alloc (Lq r.name r.rank r.digits r.lo r.hi ma r.mcc.length mc r.am.isSome (r.am.getD (0,0)).1 (r.am.getD (0,0)).2 ca r.cur.length cc r.decline r.cheapest pa r.routes.length pc r.ahead));have S0:=(VA wr (Lq r.name r.rank r.digits r.lo r.hi ma r.mcc.length mc r.am.isSome (r.am.getD (0,0)).1 (r.am.getD (0,0)).2 ca r.cur.length cc r.decline r.cheapest pa r.routes.length pc r.ahead)).2;unfold Lq at D0 S0;go_upto_region 5 with fail;generalize wr.alloc _=W1 at*;generalize wr.heap.size=X at*;clear t1 S1 v2 v3 v4 v5 v6 v7 v8 v9 T1 V1 X1 Y1
  have F:z5 (YA ⟨u,A⟩ op (i+1) (R.drop (i+1)) (TU ⟨u,A⟩ op i r (t,C))=YA ⟨u,A⟩ op 0 R (met,0)):=by
   have e:=HF.o.eq;rw[CQ r1.o]at e;exact e
  have E0:i<8:=by omega
  have G0:z5 (∀W,y7 U 145 #[P .u64 op,P Z i] W fun e w'=>e=z9 (y9 (op.testBit i))/\w'=W):=fun W=>De op i W K1 E0
  have w1:z5 (∀s W,s<256->y7 U 147 #[P .u64 (s:Nat),P Z i] W fun e w'=>e=z9 (P .u64 (s|||1<<<i:Nat))/\w'=W):=fun s W hs=>AZ s i W hs E0
  cases hb:op.testBit i with
  |false=>
   rw[hb]at G0
   have H0:z5 (TU ⟨u,A⟩ op i r (t,C)=(t,C)):=by
    show _=_
    unfold TU;rw[hb];rfl
   rw[H0.o]at F;go_wp2_with fail;refine(G0.o _).mono ?_;rintro e w2 ⟨rfl,hw⟩;replace hw:=hw.symm;subst hw;go_wp2_with fail;go_roundg (N-(i+1))
   case measure=>omega
   exact⟨i+1,t,C,by omega,rfl,by go_num,rfl,rfl,Y,i0,⟨D0.o,F.o⟩⟩
  |true=>
   rw[hb]at G0;have I0:=k1.o r (mG r1.o)
   have o0:A<=1000000:=by
    have e:=HX.o;have:10^u<=10^6:=q3 (by omega) hq;omega
   have T0:=Za (CM r.name r.rank r.digits r.lo r.hi ma r.mcc.length mc r.am.isSome (r.am.getD (0,0)).1 (r.am.getD (0,0)).2 ca r.cur.length cc r.decline r.cheapest pa r.routes.length pc r.ahead ⟨u,A⟩ W1 I0.1.1 I0.2 I0.1.2 ⟨hq,o0⟩);unfold GY VX at T0
   have A1:TU ⟨u,A⟩ op i r (t,C)=if ZI ⟨u,A⟩ (YS r.digits r.lo r.hi)=2 then(t|||1<<<i,C)else if ZI ⟨u,A⟩ (YS r.digits r.lo r.hi)=1 then(t,C|||1<<<i)else(t,C):=by
    unfold TU;rw[hb];rfl
   rw[A1]at F;have l:=S0.o;have V0:=D0.o.whole C0.o;have x0:=Zc l 0;have x1:=Zc l 1;have x2:=Zc l 2;have x3:=Zc l 3;have x4:=Zc l 4;have x5:=Zc l 5;have x6:=Zc l 6;have x7:=Zc l 7;have x8:=Zc l 8;have x9:=Zc l 9;have Z1:=Zc l 10;have b2:=Zc l 11;have d2:=Zc l 12;have f2:=Zc l 13;have p0:=Zc V0 0;have p1:=Zc V0 1;clear l V0 A1 I0 o0;go_wp2_with fail;refine(G0.o _).mono ?_;rintro e w2 ⟨rfl,hw⟩;replace hw:=hw.symm;subst hw;go_wp2_with fail;refine T0.o.mono ?_;rintro e w3 ⟨rfl,d0⟩;have X0:=Za (D0.o.trans (Fr.of_below d0));generalize ZI ⟨u,A⟩ (YS r.digits r.lo r.hi)=al at*;clear d0 x0 x1 x2 x3 x4 x5 x6 x7 x8 x9 Z1 b2 d2 f2 p0 p1 T0;by_cases h2:al=2
   ·subst h2
    rw[if_pos rfl]at F;go_wp2_with fail;refine(w1.o t _ Y).mono ?_;rintro e w2 ⟨rfl,hw⟩;replace hw:=hw.symm;subst hw;go_wp2_with fail;go_roundg (N-(i+1))
    case measure=>omega
    exact⟨i+1,_,C,by omega,rfl,by go_num,rfl,rfl,ww _ _ Y E0,i0,⟨X0.o,F.o⟩⟩
   rw[if_neg h2]at F
   have C2:¬(al:Int)=2:=by omega
   by_cases h1:al=1
   ·subst h1
    rw[if_pos rfl]at F;go_wp2_with fail;refine(w1.o C _ i0).mono ?_;rintro e w2 ⟨rfl,hw⟩;replace hw:=hw.symm;subst hw;go_wp2_with fail;go_roundg (N-(i+1))
    case measure=>omega
    exact⟨i+1,t,_,by omega,rfl,by go_num,rfl,rfl,Y,ww _ _ i0 E0,⟨X0.o,F.o⟩⟩
   rw[if_neg h1]at F
   have D2:¬(al:Int)=1:=by omega
   go_wp2_with fail;go_roundg (N-(i+1))
   case measure=>omega
   exact⟨i+1,t,C,by omega,rfl,by go_num,rfl,rfl,Y,i0,⟨X0.o,F.o⟩⟩
 have g2:i=N:=by omega
 subst g2
 have N1:¬(i:Int)<(i:Int):=by omega
 have Y0:z5 (YA ⟨u,A⟩ op 0 R (met,0)=(t,C)):=by
  have e:=HF.o.eq;rw[<-HN.o,A8]at e;exact e.symm
 have J0:=Za (B0.o.trans HF.o.fr);have K0:=Za (O0.o.keep HF.o.fr);have e0:=Za (HF.o.fr.whole N0.o);have M0:=Za (HF.o.fr.whole C0.o);clear N0 C0 O0 B0 P0 HF;by_cases hz:C=0
 ·subst hz
  have i2:z5 (y7 U 148 #[V (J ⟨G,0,I⟩),P .u64 t] wr fun e w'=>e=z9 (P Z (Vg B t:Nat))/\(∃H,QA zb w0 w' G M v0 v1 R z (Wy B t) H/\(H.ownBlock=D.ownBlock\/∀k,H.ownBlock=J k->wr.heap.size<=k))/\Fr (fun k=>k=G\/k=M\/D.ownBlock=J k) wr w'):=
   JG w0 wr G M v0 v1 R z B D t K0.o hM hG K0.o.few (by have:=HN.o;omega) Y HO.o M1.o
  go_wp2_with fail;refine i2.o.mono ?_;rintro e w5 ⟨rfl,⟨H,a0,b0⟩,Z0⟩
  have E2:w0.heap.size<=b:=by rw[<-HB.o];exact HS.o.fr.size
  have B1:¬(b+1=G\/b+1=M\/D.ownBlock=J (b+1)):=by
   rintro(e|e|e)
   ·omega
   ·omega
   obtain⟨xs,hp,_⟩:=HS.o.pg
   have:=(hp.lt _ e).2;have:=HB.o;omega
  have l:=Z0.whole e0.o B1;have S0:=Za l;have y0:=Zc l 0;have y1:=Zc l 1;have yf:=bF l
  have Q:z5 (U5 zb w0 w G M v0 v1 R z (ZH R (n+1) ⟨u,A⟩ met op B) D (z9 (y6 #[V I,P Z (Vg B t:Nat)])) ((w5.setCell ⟨b+1,0,I⟩ (V I)).setCell ⟨b+1,1,I⟩ (P Z (Vg B t:Nat)))):=by
   have hS:Fr (fun k=>k=b+1) w5 ((w5.setCell ⟨b+1,0,I⟩ (V I)).setCell ⟨b+1,1,I⟩ (P Z (Vg B t:Nat))):=((Fr.refl (fun k=>k=b+1) w5).setCell (p:=⟨b+1,0,I⟩) (O rfl) _).setCell (p:=⟨b+1,1,I⟩) (O rfl) _
   have hT:ZH R (n+1) ⟨u,A⟩ met op B=(.leaf (Vg B t),Wy B t):=by
    unfold ZH;rw[Y0.o,if_pos rfl]
   rw[hT];refine⟨⟨_,_,rfl,rfl⟩,⟨H,a0.wrote hS ?_,?_⟩,?_⟩
   ·rintro k rfl
    exact⟨by omega,_,_,l,O rfl⟩
   ·rcases b0 with e|e
    ·exact O e
    exact E fun k hk=>z8 J0.o.size (e k hk)
   have f1:=(J0.o.mono).trans Z0
   exact f1.monoNew hS (fun k hk=>E (by have:=HB.o;omega))
  rw[HP.o]at Q;clear a0 b0 Z0 l B1;go_wp2_with fail
  obtain⟨s0,s1⟩:((w5.setCell ⟨b+1,0,I⟩ (V I)).setCell ⟨b+1,1,I⟩ (P Z (Vg B t:Nat))).cell? ⟨b+1,0,I⟩=J (V I)/\((w5.setCell ⟨b+1,0,I⟩ (V I)).setCell ⟨b+1,1,I⟩ (P Z (Vg B t:Nat))).cell? ⟨b+1,1,I⟩=J (P Z (Vg B t:Nat)):=by
   constructor
   ·rw[cO _ _ _ _ (by simp)];exact cS _ _ _ y0
   exact cS _ _ _ (by rw[cO _ _ _ _ (by simp)];exact y1)
  refine bodyPost_ret (v:=y6 #[V I,P Z (Vg B t:Nat)]) (by simp[results,Tryz.results93,go_sem,s0,s1]) rfl Q.o
 have F2:¬(C:Int)=0:=by omega
 have G2:u<6:=Sh (q:=⟨u,A⟩) (met:=met) (op:=op) (fun r hr=>(k1.o r hr).1) (by rw[Y0.o];exact hz);obtain⟨j0,L0,k0⟩:=SE wr (z7 I9 248) (z7 #[V (J ⟨wr.heap.size,0,I⟩),P Z 0] 133);unfold I9 at j0 L0 k0;go_upto_region 15 with fail;generalize(wr.alloc _).alloc _=W2 at*;obtain⟨K,b1⟩:∃K,wr.heap.size=K:=⟨_,rfl⟩;have H2:=Za b1;rw[b1]at L0 k0 ⊢
 have I2:b+1<K:=by
  have:=(iA.1 e0.o).1;omega
 have J2:K+1<W2.heap.size:=(iA.1 k0.o).1
 have L2:w0.heap.size<=b:=by rw[<-HB.o];exact HS.o.fr.size
 have T:z5 (∀k,b<=k->k≠K->¬(k=G\/k=M\/D.ownBlock=J k\/k=K)):=by
  rintro k hk j2 (e|e|e|e)
  ·omega
  ·omega
  ·obtain⟨xs,hp,_⟩:=HS.o.pg
   have:=(hp.lt _ e).2;have:=HB.o;omega
  exact j2 e
 have C1:=Za (K0.o.keep j0.o);have f0:=Za (j0.o.whole M0.o);have D1:=Za (j0.o.whole e0.o);have E1:=Za (J0.o.trans j0.o);have k2:z5 (ue zb w0 W2 G M K v0 v1 R z (fun d L=>ZH R n (Z5.longer ⟨u,A⟩ d) t C L) B D 0 W2):=⟨⟨D,C1.o,O rfl⟩,Zt,⟨_,L0.o,rfl,fun j hj=>by omega⟩⟩;clear b1 j0 L0 M0 e0 J0 K0 C1;go_wp2_with fail
 go_loopg [50] 10 (fun m kv wx=>∃d,d<=10/\m=10-d/\kv=P Z (d:Nat)/\z5 (ue zb w0 W2 G M K v0 v1 R z (fun d L=>ZH R n (Z5.longer ⟨u,A⟩ d) t C L) B D d wx))
 case atStart=>exact⟨0,by omega,rfl,rfl,k2⟩
 obtain⟨d,hd,rfl,rfl,HK⟩:=hrel;by_cases R0:d<10
 ·have y2:(d:Int)<10:=by omega
  have z2:(0:Int)<=(d:Int):=by omega
  obtain⟨H,a0,b0⟩:=HK.o.gs;have F1:=Za a0;have l2:=Za b0;have q0:=bC (HK.o.fr.whole f0.o (T.o b (by omega) (by omega))) 0 _ rfl;have q1:=bC (HK.o.fr.whole f0.o (T.o b (by omega) (by omega))) 1 _ rfl;have q2:=bC (HK.o.fr.whole k0.o (T.o (K+1) (by omega) (by omega))) 0 _ rfl;clear a0 b0;obtain⟨c0,r0⟩:∃x,x=u+1:=⟨_,rfl⟩;obtain⟨t0,A0⟩:∃x,x=A*10+d:=⟨_,rfl⟩
  have G1:z5 (Z5.longer ⟨u,A⟩ d=⟨c0,t0⟩):=by
   show _=_
   unfold Z5.longer;rw[r0,A0]
  have c1:z5 (t0<10^c0/\7<=n+c0/\c0<=6):=by
   refine⟨?_,?_,by omega⟩
   ·have e:=HX.o
    rw[r0,A0,k6];omega
   have e:=H7.o
   omega
  have o0:A<=1000000:=by
   have e:=HX.o;have:10^u<=10^6:=q3 (by omega) hq;omega
  have m2:z5 (∀W,F0 wr W->y7 U 149 #[y6 #[P Z u,P Z A],P Z d] W fun e w'=>e=z9 (y6 #[P Z c0,P Z t0])/\z5 (F0 wr w')):=by
   intro W hW;have e:=FJ ⟨u,A⟩ d W hq o0 R0;refine e.mono ?_;rintro e w' ⟨rfl,d0⟩;rw[G1.o];exact⟨rfl,hW.trans (Fr.of_below d0)⟩
  have n2:z5 (∀W,F0 wr W->y7 U 93 #[V (J ⟨G,0,I⟩),y6 #[P Z c0,P Z t0],P .u64 t,P .u64 C] W (U5 zb w0 W G M v0 v1 R z (ZH R n (Z5.longer ⟨u,A⟩ d) t C (YB (fun d L=>ZH R n (Z5.longer ⟨u,A⟩ d) t C L) d B).2) H)):=by
   intro W hW;rw[G1.o];exact L1.o ⟨c0,t0⟩ t C _ H W c1.o.2.1 c1.o.2.2 c1.o.1 Y i0 (F1.o.keep hW)
  have d1:z5 (∀W,Fr (fun k=>k=G\/k=M\/D.ownBlock=J k\/k=K) W2 W->W.cell? ⟨b,0,I⟩=J (P Z u)/\W.cell? ⟨b,1,I⟩=J (P Z A)/\W.cell? ⟨K+1,0,I⟩=J (V (J ⟨K,0,I⟩))):=fun W hW=>
   ⟨bC (hW.whole f0.o (T.o b (by omega) (by omega))) 0 _ rfl,bC (hW.whole f0.o (T.o b (by omega) (by omega))) 1 _ rfl,bC (hW.whole k0.o (T.o (K+1) (by omega) (by omega))) 0 _ rfl⟩
  clear r0 A0 o0;go_wp2_with fail;refine wp_region_held_drew (S:=fun W=>W.cell? ⟨b,0,I⟩=J (P Z u)/\W.cell? ⟨b,1,I⟩=J (P Z A)/\W.cell? ⟨K+1,0,I⟩=J (V (J ⟨K,0,I⟩))) (by kernel_rfl) ⟨q0,q1,q2⟩ (fun hH=>?_)
  iterate 6 (refine YP 0 hH ?_;try go_frame)
  iterate 2 ((first|refine YP 0 hH ?_|refine YP 1 hH ?_);try go_frame)
  refine ZY 10 hH ?_
  try go_frame
  refine Vy 6 (fun K2 hK=>?_);go_simp;refine(m2.o _ Zt.drew).mono ?_;rintro e wy ⟨rfl,g1⟩;refine hK.out _ _ (d1.o _ (HK.o.fr.trans (g1.o.mono))) (fun hH=>?_);clear hK K2
  try go_frame
  refine Vy 9 (fun K2 hK=>?_);go_simp;refine(n2.o _ g1.o).mono ?_;intro e w8 i1
  obtain⟨pp,kk,rfl⟩:∃(pp:Option Addr)(kk:Nat),e=z9 (y6 #[V pp,P Z kk]):=by
   obtain⟨⟨a,bb,e1,ht⟩,_⟩:=i1;obtain⟨pp,kk,rfl,rfl⟩:=ht.form;exact⟨pp,kk,e1⟩
  obtain⟨H1,⟨u0,z0⟩,⟨u1,z1⟩,zf,I1⟩:=ue.step HK.o R0 (by omega) (by omega) F1.o l2.o g1.o i1;have H0:=Za H1;have o2:=d1.o _ I1;have M2:=zf (d*2);have p2:=zf (d*2+1)
  have N2:(w8.setCell ⟨K,d*2,I⟩ (V pp)).cell? ⟨K,d*2+1,I⟩=J u1:=by rw[cO _ _ _ _ (by simp)];exact z1
  have A2:(w8.setCell ⟨K,d*2,I⟩ (V pp)).frozen? ⟨K,d*2+1,I⟩=false:=by simpa using p2
  clear H1 i1 I1 zf;refine hK.out _ _ o2 (fun hH=>?_);clear hK K2
  try go_frame
  refine ZY 11 hH ?_
  try go_frame
  refine Vy 12 (fun K2 hK=>?_);go_simp;refine hK.out _ _ (d1.o _ H0.o.fr) (fun _=>?_);clear hK K2
  try go_frame
  refine wpAnyH_done (by kernel_rfl) ?_ _;go_wp2_with fail;go_roundg (10-(d+1))
  case measure=>omega
  exact⟨d+1,by omega,rfl,by go_num,H0⟩
 have r2:d=10:=by omega
 subst r2;have l0:=HK.o.fr.whole D1.o (T.o (b+1) (by omega) (by omega));have j1:=HK.o.fr.whole k0.o (T.o (K+1) (by omega) (by omega));have y0:=Zc l0 0;have y1:=Zc l0 1;have O2:=bF l0 0;have P2:=bF l0 1;have n0:=Zc j1 0;have n1:=Zc j1 1
 have Q:z5 (U5 zb w0 w G M v0 v1 R z (ZH R (n+1) ⟨u,A⟩ met op B) D (z9 (y6 #[V (J ⟨K,0,I⟩),P Z 0])) ((wr.setCell ⟨b+1,0,I⟩ (V (J ⟨K,0,I⟩))).setCell ⟨b+1,1,I⟩ (P Z 0))):=by
  have hS:Fr (fun k=>k=b+1) wr ((wr.setCell ⟨b+1,0,I⟩ (V (J ⟨K,0,I⟩))).setCell ⟨b+1,1,I⟩ (P Z 0)):=((Fr.refl (fun k=>k=b+1) wr).setCell (p:=⟨b+1,0,I⟩) (O rfl) _).setCell (p:=⟨b+1,1,I⟩) (O rfl) _
  have hT:ZH R (n+1) ⟨u,A⟩ met op B=(.node (YB (fun d L=>ZH R n (Z5.longer ⟨u,A⟩ d) t C L) 10 B).1,(YB (fun d L=>ZH R n (Z5.longer ⟨u,A⟩ d) t C L) 10 B).2):=by
   rw[ZH,Y0.o,if_neg hz]
  rw[hT];obtain⟨H,a0,b0⟩:=HK.o.gs;obtain⟨cs,hc,s2,hk⟩:=HK.o.ar;have Q2:=HB.o;refine⟨⟨_,_,rfl,⟨K,cs,rfl,by omega,hS.whole hc (by omega),s2,fun j hj=>?_⟩⟩,⟨H,a0.wrote hS ?_,?_⟩,?_⟩
  ·obtain⟨x,y,e1,e2,e3⟩:=hk j hj
   exact⟨x,y,e1,e2,Xf.low (by omega) _ _ (e3.keep' hS (fun K' hl=>by omega))⟩
  ·rintro k rfl
   exact⟨by omega,_,_,l0,O rfl⟩
  ·rcases b0 with e|e
   ·exact O e
   exact E fun k hk=>z8 E1.o.size (e k hk)
  have f1:Fr (fun k=>k=G\/k=M\/D.ownBlock=J k) w wr:=by
   refine Fr.monoNew (S:=fun k=>k=G\/k=M\/D.ownBlock=J k) (E1.o.mono) HK.o.fr ?_;rintro k (e|e|e|e)
   ·exact O (O e)
   ·exact O (E (O e))
   ·exact O (E (E e))
   exact E (by omega)
  exact f1.monoNew hS (fun k hk=>E (by omega))
 rw[HP.o]at Q;clear l0 j1;go_wp2_with fail
 obtain⟨s0,s1⟩:((wr.setCell ⟨b+1,0,I⟩ (V (J ⟨K,0,I⟩))).setCell ⟨b+1,1,I⟩ (P Z 0)).cell? ⟨b+1,0,I⟩=J (V (J ⟨K,0,I⟩))/\((wr.setCell ⟨b+1,0,I⟩ (V (J ⟨K,0,I⟩))).setCell ⟨b+1,1,I⟩ (P Z 0)).cell? ⟨b+1,1,I⟩=J (P Z 0):=by
  constructor
  ·rw[cO _ _ _ _ (by simp)];exact cS _ _ _ y0
  exact cS _ _ _ (by rw[cO _ _ _ _ (by simp)];exact y1)
 refine bodyPost_ret (v:=y6 #[V (J ⟨K,0,I⟩),P Z 0]) (by simp[results,Tryz.results93,go_sem,s0,s1]) rfl Q.o
theorem Ha {f:Nat}(w0:z6)(G M:Nat)(v0 v1:y4)(R:List Ze)(a:Nat->Nat)(g:M<w0.heap.size)(i:G<w0.heap.size)(b:R.length<=8)(j:∀k,k<R.length->a k<R.length)(l:∀r,r∈R->r.mcc.length<=4000/\r.cur.length<=4000)(m:∀r,r∈R->Q0 r/\r.lo<=1000000):
  ∀(n:Nat)(q:Z5)(met op:Nat)(c:List Nat)(e:y4)(w:z6),7<=n+q.d->q.d<=6->q.x<10^q.d->met<256->op<256->QA f w0 w G M v0 v1 R a c e->y7 U 93 #[V (J ⟨G,0,I⟩),VX q,P .u64 met,P .u64 op] w (U5 f w0 w G M v0 v1 R a (ZH R n q met op c) e)
 |0,_,_,_,_,_,_,h7,hq,_,_,_,_=>by omega
 |n+1,q,met,op,c,e,w,h7,hq,hx,hm,hop,h=>CR w0 G M v0 v1 R a g i b j l m n (Ha w0 G M v0 v1 R a g i b j l m n) q met op c e w h7 hq hx hm hop h
structure uX (w:z6)(va:Option Addr)(n c:Nat)(ord:Nat->Nat)(G M:Nat)(oa:Option Addr)(oc:Nat)(w1:z6):Prop where
 fr:F0 w w1
 bx:w1.heap[G]?=J (z7 #[Y va n c,Y oa n oc,Y I 0 0,.map (J M)] 178)
 mp:w1.heap[M]?=J (.map #[] 0)
 od:∀k,k<n->∃og,oa=J ⟨og,0,I⟩/\og<w1.heap.size/\og≠G/\og≠M/\w1.cell? ⟨og,k,I⟩=J (P Z (ord k))
 lo:w.heap.size<=G/\w.heap.size<=M
theorem uX.start {e w wc wr s c j G M E F R}(h:uX w s R.length c j G M E F wc)(l:F0 wc wr)(S:e<=w.heap.size)(K:∀i r,R[i]?=J r->∃g t u x y z A,s=J ⟨g,0,I⟩/\g<w.heap.size/\
   (∀o v,[C r.name,.int .i64 r.rank,.int .i64 r.digits,.int .i64 r.lo,.int .i64 r.hi,.slice t r.mcc.length u,.bool r.am.isSome,.int .i64 (r.am.getD (0,0)).1,.int .i64 (r.am.getD (0,0)).2,.slice x r.cur.length y,.bool r.decline,.bool r.cheapest,.slice z r.routes.length A,.int .i64 r.ahead][o]?=J v->w.cell? ⟨g,i*14+o,I⟩=J v)/\
   w.ownsRow e 3 1 (.slice t r.mcc.length u) r.mcc.length (Zg r.mcc)/\w.ownsRow e 3 1 (.slice x r.cur.length y) r.cur.length (Zg r.cur)/\w.ownsRow e 3 1 (.slice z r.routes.length A) r.routes.length (Zg r.routes)):
  QA e wr wr G M (.slice s R.length c) (.slice E R.length F) R j [] (.slice I 0 0)/\G<wr.heap.size/\M<wr.heap.size:=by
 have f:=h.fr.trans l;have T:=h.lo;have n:=l.whole h.bx;have q:=l.whole h.mp;refine⟨⟨⟨z8 S f.size,⟨s,c,rfl,fun i r hi=>?_⟩,⟨E,F,rfl,fun k b=>?_⟩⟩,Zt,n,⟨.map [],?_,⟨isMap_empty,fun m _=>⟨by simp[Maps.has_eq],by simp⟩⟩⟩,⟨[],World.ownsRow_nil _ _ _ _,by simp⟩,by simp,by simp⟩,(Array.getElem?_eq_some_iff.1 n).1,(Array.getElem?_eq_some_iff.1 q).1⟩
 ·obtain⟨g,t,u,x,y,z,A,L,d,O,N,B,P⟩:=K i r hi
  have a:∀k,k<w.heap.size->¬(k=G\/k=M):=fun k b=>by omega
  exact⟨g,t,u,x,y,z,A,L,nL d f.size,a g d,fun o v V=>(f.cell (p:=⟨g,i*14+o,I⟩) d).trans (O o v V),⟨oF N f,fun k b=>a k (N.lt k b).2⟩,⟨oF B f,fun k b=>a k (B.lt k b).2⟩,⟨oF P f,fun k b=>a k (P.lt k b).2⟩⟩
 ·obtain⟨Q,L,d,O,N,B⟩:=h.od k b
  exact⟨Q,L,nL d l.size,by omega,(l.cell (p:=⟨Q,k,I⟩) d).trans B⟩
 obtain⟨es,ck,D,W,X,Y⟩:=World.ownsMap_made (H:=Unit) wr U 183 (plainElem U 3)
 rw[aN]at D;injection D with D;injection D with Z a2;subst Z a2;exact⟨#[],0,q,W,X,Y⟩
structure Wc (zb:Nat)(w:z6)(T:Nat)(vr:y4)(R:List Ze)(ord:Nat->Nat):Prop where
 tz:zb<=T
 bx:∃vn vp a b,w.heap[T]?=J (z7 #[vr,vn,vp,a,b] 135)/\w.ownsRow zb 9 1 vn R.length ((R.map Ze.name).map C)/\(∃xs,w.ownsRow zb 129 1 vp (ZH R 7 ⟨0,0⟩ 0 (2^R.length-1) []).2.length xs/\∀(j m:Nat),(ZH R 7 ⟨0,0⟩ 0 (2^R.length-1) []).2[j]?=J m->∃vj,xs[j]?=J vj/\Z3 zb w zb vj (ZJ R m (Wb R.length ord)))/\Xf w zb (ZH R 7 ⟨0,0⟩ 0 (2^R.length-1) []).1 (y6 #[a,b])
theorem Rp {a w w' S base v l}(h:Z3 a w base v l)(d:a<=base)(b:Fr S w w')(c:∀k,S k->k<a):Z3 a w' base v l:=by
 obtain⟨e,f,g⟩:=h;exact⟨e,oF f b (fun k i=>nL (c k i) d),g.keep (fun v n m j=>oF j b c)⟩
theorem Wc.fr {g w w' S T i R c}(h:Wc g w T i R c)(d:Fr S w w')(f:∀k,S k->k<g:=by simp):Wc g w' T i R c:=by
 have l:=h.tz;obtain⟨n,o,a,b,p,q,⟨r,s,t⟩,u⟩:=h.bx;refine⟨l,n,o,a,b,d.whole p (fun e=>by have:=f T e;omega),oF q d f,⟨r,oF s d f,fun j m v=>?_⟩,u.keep' d (fun K A e=>by have:=f K e;omega)⟩;obtain⟨x,y,z⟩:=t j m v;exact⟨x,y,Rp z (k7 _) d f⟩
theorem A9 {g w wc wr a T G M u N v0 v1 x h R b l i}{o:Nat}(hz:g<=w.heap.size)(q:F0 w wc)(hT:wc.heap.size=T)(hG:w.heap.size<=G)(hM:w.heap.size<=M)(W:R.map Ze.name=l)(y:F0 wc wr)(Q:wr.heap[T]?=J (z7 #[N,x,Y I 0 0,V I,P Z 0] 135))(z:wr.ownsRow (T+1) 9 1 x l.length (l.map C))(S:QA g wr wr G M v0 v1 R b [] u)(c:u.ownBlock=I)(A:T≠G)(B:T≠M)(X:Xf a wr.heap.size (ZH R 7 ⟨0,0⟩ 0 (2^R.length-1) []).1 (y6 #[V i,P Z o]))(hg:QA g wr a G M v0 v1 R b (ZH R 7 ⟨0,0⟩ 0 (2^R.length-1) []).2 h)(d:Fr (fun k=>k=G\/k=M\/u.ownBlock=J k) wr a):
  w.heap.size<=T/\Wc g (((a.setCell ⟨T,3,I⟩ (V i)).setCell ⟨T,4,I⟩ (P Z o)).setCell ⟨T,2,I⟩ h) T N R b/\F0 w (((a.setCell ⟨T,3,I⟩ (V i)).setCell ⟨T,4,I⟩ (P Z o)).setCell ⟨T,2,I⟩ h):=by
 have a0:T<wr.heap.size:=(iA.1 Q).1
 have F:w.heap.size<=T:=by have:=q.size;omega
 have r:=d.whole Q (by rintro(e|e|e)<;>first|exact A e|exact B e|(rw[c]at e;cases e));have t:Fr (fun k=>k=T) a (((a.setCell ⟨T,3,I⟩ (V i)).setCell ⟨T,4,I⟩ (P Z o)).setCell ⟨T,2,I⟩ h):=(((Fr.refl (fun k=>k=T) a).setCell (p:=⟨T,3,I⟩) (O rfl) _).setCell (p:=⟨T,4,I⟩) (O rfl) _).setCell (p:=⟨T,2,I⟩) (O rfl) _;have e1:=heap_setCell_same a T 3 _ _ (V i) r;have e2:=heap_setCell_same _ T 4 _ _ (P Z o) e1;have e3:=heap_setCell_same _ T 2 _ _ h e2;obtain⟨D,⟨es,ck,hm,_⟩,_⟩:=S.mp;obtain⟨xs,H,L⟩:=hg.pg;refine⟨F,⟨by omega,x,h,V i,P Z o,?_,?_,⟨xs,?_,fun j m hj=>?_⟩,?_⟩,?_⟩
 ·simpa using e3
 ·have n8:=oA z d (by
   rintro k f (e|e|e)
   ·subst e
    exact oN z S.bx (by decide) f
   ·subst e
    exact Mh z hm f
   rw[c]at e
   cases e)
  have U:=oS (base:=T+1) (oF n8 t (fun k f=>by omega)) (show g<=T+1 by omega);rw[<-W,j8]at U;exact U
 ·exact oS (base:=wr.heap.size) (oF H t (fun k f=>by omega)) (by omega)
 ·obtain⟨vj,a1,a2⟩:=L j m hj
  refine⟨vj,a1,Sj a2 t ?_⟩;rintro e s v n ys he hr k f rfl;exact oN hr r (by rcases he with rfl|rfl<;>decide) f
 ·exact Xf.low (show g<=wr.heap.size by omega) _ _ (X.keep' t (fun K hK=>by omega))
 exact(((q.trans y).monoNew d (by
  rintro k (e|e|e)
  ·exact E (by omega)
  ·exact E (by omega)
  rw[c]at e
  cases e))).monoNew t (fun k f=>E (by omega))
theorem RR:(U.info? 9).map (fun i=>(i.zero,i.size,i.bytes))=J (J (j2 A),1,16):=by kernel_rfl
def Zv (R:List Ze)(i:Nat):Nat:=(R[i]?.map Ze.rank).getD 0
structure um (wc:z6)(T:Nat)(vr:y4)(l:List ByteArray)(vn:y4)(wx:z6):Prop where
 fr:F0 wc wx
 bx:wx.heap[T]?=J (z7 #[vr,vn,Y I 0 0,V I,P Z 0] 135)
 nm:wx.ownsRow (T+1) 9 1 vn l.length (l.map C)
theorem um.more {wc n wr s b T w l q r g cap x}(h:um wc T w l (Y q l.length r) n)(z:wc.heap.size<=T)(t:F0 n wr)(u:F0 wr s)(f:b.ownsRow (T+1) 9 1 (Y (J ⟨g,0,I⟩) (l.length+1) cap) (l.length+1) (l.map C++[j2 x]))(a:s.grownBy b (B q l.length r).ownBlock):
  um wc T w (l++[x]) (Y (J ⟨g,0,I⟩) (l.length+1) cap) (b.setCell ⟨T,1,I⟩ (Y (J ⟨g,0,I⟩) (l.length+1) cap))/\b.cell? ⟨T,1,I⟩=J (Y q l.length r)/\b.frozen? ⟨T,1,I⟩=false/\(∀X o v,X<wr.heap.size->n.heap.size<=X->wr.cell? ⟨X,o,I⟩=J v->b.cell? ⟨X,o,I⟩=J v):=by
 have i:=t.trans u
 have c:∀k,(B q l.length r).ownBlock=J k->T+1<=k/\k<n.heap.size:=fun k j=>h.nm.lt k j
 have m:=(Fr.refl _ s).grown a (fun k j=>O j);have d:=m.whole (i.whole h.bx) (fun e=>by have:=c T e;omega);refine⟨⟨?_,?_,?_⟩,Zc d 1,bF d 1,fun X o v y A D=>?_⟩
 ·exact((h.fr.trans i).grown a (fun k j=>E (by have:=c k j;omega))).setCell (p:=⟨T,1,I⟩) (E z) _
 ·have e:=heap_setCell_same b T 1 _ _ (Y (J ⟨g,0,I⟩) (l.length+1) cap) d
  simpa using e
 ·rw[lA,j0]
  exact oB f (by simp) _
 exact(m.cell (p:=⟨X,o,I⟩) (nL y u.size) (fun e=>by have:=c X e;omega)).trans ((u.cell (p:=⟨X,o,I⟩) y).trans D)
theorem za (i)(h:i<=8):k9.wrap (k9.wrap (2^i)-1)=((2^i-1:Nat):Int):=by
 have:i=0\/i=1\/i=2\/i=3\/i=4\/i=5\/i=6\/i=7\/i=8:=by omega
 rcases this with rfl|rfl|rfl|rfl|rfl|rfl|rfl|rfl|rfl<;>decide
theorem zd {zb}(w Bk ra rn rc B n c R)(hN:R.length=n)(hn:n<=8)(o0:∀k,k<n->Zx (Zv R) n k<n)(N0:∀r,r∈R->r.mcc.length<=4000/\r.cur.length<=4000)(p0:∀r,r∈R->Q0 r/\r.lo<=1000000)(hz:zb<=w.heap.size)(q0:w.cell? ⟨Bk,0,I⟩=J (Y ra rn rc))(F:w.cell? ⟨Bk,1,I⟩=J (Y B n c))(r0:∀i r,R[i]?=J r->∃g O mc ca cc pa pc,B=J ⟨g,0,I⟩/\g<w.heap.size/\
   (∀o v,[C r.name,P Z r.rank,P Z r.digits,P Z r.lo,P Z r.hi,Y O r.mcc.length mc,y9 r.am.isSome,P Z (r.am.getD (0,0)).1,P Z (r.am.getD (0,0)).2,Y ca r.cur.length cc,y9 r.decline,y9 r.cheapest,Y pa r.routes.length pc,P Z r.ahead][o]?=J v->w.cell? ⟨g,i*14+o,I⟩=J v)/\
   w.ownsRow zb 3 1 (Y O r.mcc.length mc) r.mcc.length (Zg r.mcc)/\w.ownsRow zb 3 1 (Y ca r.cur.length cc) r.cur.length (Zg r.cur)/\w.ownsRow zb 3 1 (Y pa r.routes.length pc) r.routes.length (Zg r.routes)):
  y7 U 51 #[V (J ⟨Bk,0,I⟩)] w fun e w'=>(∃T,e=z9 (V (J ⟨T,0,I⟩))/\w.heap.size<=T/\Wc zb w' T (Y ra rn rc) R (Zx (Zv R) n))/\F0 w w':=by
 have s0:z5 (∀i r,R[i]?=J r->∃g O mc ca cc pa pc,B=J ⟨g,0,I⟩/\g<w.heap.size/\
   (∀o v,[C r.name,P Z r.rank,P Z r.digits,P Z r.lo,P Z r.hi,Y O r.mcc.length mc,y9 r.am.isSome,P Z (r.am.getD (0,0)).1,P Z (r.am.getD (0,0)).2,Y ca r.cur.length cc,y9 r.decline,y9 r.cheapest,Y pa r.routes.length pc,P Z r.ahead][o]?=J v->w.cell? ⟨g,i*14+o,I⟩=J v)/\
   w.ownsRow zb 3 1 (Y O r.mcc.length mc) r.mcc.length (Zg r.mcc)/\w.ownsRow zb 3 1 (Y ca r.cur.length cc) r.cur.length (Zg r.cur)/\w.ownsRow zb 3 1 (Y pa r.routes.length pc) r.routes.length (Zg r.routes)):=r0
 have HN:=Za hN;obtain⟨rk,h0⟩:∃rk:Nat->Nat,rk=Zv R:=⟨_,rfl⟩;have O0:=Za h0;rw[<-h0]at o0
 have hr:∀i,i<n->∃g,B=J ⟨g,0,I⟩/\g<w.heap.size/\w.cell? ⟨g,i*14+1,I⟩=J (P Z (rk i)):=by
  intro i hi;have e:R[i]?=J R[i]:=gE (by omega);obtain⟨g,O,mc,ca,cc,pa,pc,d,e2,e3,_⟩:=r0 i _ e;refine⟨g,d,e2,?_⟩;rw[h0,Zv,e];exact e3 1 _ rfl
 have t0:z5 (∀W,F0 w W->y7 U 92 #[Y B n c] W fun e w'=>(∃E H,e=z9 (Y E n H)/\z5 (Di w' W.heap.size E n (Zx rk n)))/\z5 (F0 W w')):=by
  intro W hW;refine FN W B n c rk hn (fun i hi=>?_);obtain⟨g,d,e2,e3⟩:=hr i hi;exact⟨g,d,nL e2 hW.size,(hW.cell (p:=⟨g,i*14+1,I⟩) e2).trans e3⟩
 have d1:=@run_makeMap U;obtain⟨ii,v0,w0,y0,z0⟩:=info_parts RR;have HZ:=Za hz;go_enter Tryz.func51,Tryz.ntmps51;go_upto_region 1 with fail
 go_cut [3] (fun v w1=>∃G M E H,v=V (J ⟨G,0,I⟩)/\z5 (uX w B n c (Zx rk n) G M E H w1))
 case first=>
  refine wp_region_held_drew (S:=fun W=>W.cell? ⟨Bk,1,I⟩=J (Y B n c)) (by kernel_rfl) F (fun h=>?_)
  have u:z5 (∀W,F0 w W->W.cell? ⟨Bk,1,I⟩=J (Y B n c)):=fun W hW=>(hW.cell (p:=⟨Bk,1,I⟩) (bL w _ F)).trans F
  iterate 8 (refine YP 0 h ?_;try go_frame)
  refine XC [8,9] ?_;refine Zb rfl (fun x f=>?_) ?_
  ·go_simp
   refine(t0.o _ Zt.drew).mono ?_;rintro e y ⟨⟨E,H,rfl,i0⟩,a0⟩;have j:=Za ((Zt.drew).trans a0.o);refine f.out _ _ (u.o _ j.o) (fun h=>?_)
   try go_frame
   refine Vy 9 (fun x f=>?_);go_simp;refine f.out _ _ (u.o _ (j.o.alloc _)) (fun h=>?_)
   try go_frame
   refine ZY 10 h ?_
   try go_frame
   refine Vy 11 (fun x f=>?_);go_simp;refine f.out _ _ (u.o _ ((j.o.alloc _).alloc _)) (fun h=>?_)
   try go_frame
   refine ZY 12 h ?_
   try go_frame
   refine wpAnyH_done (by kernel_rfl) ?_ _;go_wp2_with fail;go_meet;refine⟨y.heap.size+1,y.heap.size,E,H,by simp,⟨(j.o.alloc _).alloc _,?_,?_,fun k hk=>?_,?_⟩⟩
   ·have e:=aN (y.alloc (.map #[] 0)) (z7 #[Y B n c,Y E n H,Y I 0 0,.map (J y.heap.size)] 178)
    rw[show(y.alloc (.map #[] 0)).heap.size=y.heap.size+1 from by simp]at e;exact e
   ·exact((Fr.refl (fun _=>False) _).alloc _).whole (aN y _)
   ·obtain⟨og,d,e2,e3,e4⟩:=i0.o (by omega)
    refine⟨og,d,by simp;omega,by omega,by omega,?_⟩;exact((((Fr.refl (fun _=>False) y).alloc _).alloc _).cell (p:=⟨og,k,I⟩) e3 (by simp)).trans (e4.1 k hk)
   have:=j.o.size
   omega
  refine Zb rfl (fun x f=>?_) Q
  try rw[if_pos (by rfl)]
  go_simp;refine f.out _ _ (u.o _ ((Zt.drew).alloc _)) (fun h=>?_)
  try go_frame
  refine Vy 8 (fun x f=>?_);go_simp;refine(t0.o _ ((Zt.drew).alloc _)).mono ?_;rintro e y ⟨⟨E,H,rfl,i0⟩,a0⟩;have j:=Za ((((Fr.refl (fun _=>False) w).drew).alloc (.map #[] 0)).trans a0.o);refine f.out _ _ (u.o _ j.o) (fun h=>?_)
  try go_frame
  refine ZY 10 h ?_
  try go_frame
  refine Vy 11 (fun x f=>?_);go_simp;refine f.out _ _ (u.o _ (j.o.alloc _)) (fun h=>?_)
  try go_frame
  refine ZY 12 h ?_
  try go_frame
  refine wpAnyH_done (by kernel_rfl) ?_ _;go_wp2_with fail;go_meet;have A0:y.heap[w.heap.size]?=J (.map #[] 0):=a0.o.whole (aN w.drew (.map #[] 0));have f1:=(iA.1 A0).1;refine⟨y.heap.size,w.heap.size,E,H,rfl,⟨j.o.alloc _,aN y _,((Fr.refl (fun _=>False) _).alloc _).whole A0,fun k hk=>?_,?_⟩⟩
  ·obtain⟨og,d,e2,e3,e4⟩:=i0.o (by omega)
   have e5:w.heap.size+1<=og:=by simpa using e2
   refine⟨og,d,by simp;omega,by omega,by omega,?_⟩;exact(((Fr.refl (fun _=>False) y).alloc _).cell (p:=⟨og,k,I⟩) e3).trans (e4.1 k hk)
  omega
 obtain⟨G,M,E,H,rfl,q⟩:=hcut;have b0:=(q.o.fr.cell (p:=⟨Bk,0,I⟩) (bL w _ q0)).trans q0;have b1:=(q.o.fr.cell (p:=⟨Bk,1,I⟩) (bL w _ F)).trans F;have k0:z5 (um wc wc.heap.size _ [] _ (wc.alloc (z7 #[Y ra rn rc,Y I 0 0,Y I 0 0,V I,P Z 0] 135))):=⟨Zt.alloc _,aN wc _,oZ _ _ _ _⟩;go_upto_region 3 with fail;generalize wc.alloc _=W1 at*;obtain⟨T,hT⟩:∃T,wc.heap.size=T:=⟨_,rfl⟩;have HT:=Za hT;rw[hT]at k0 ⊢;have g1:=(k0.o.fr.cell (p:=⟨Bk,1,I⟩) (bL wc _ b1)).trans b1;have B0:=Za b1;go_wp2_with fail
 go_loopg [30] n (fun m kv wx=>∃i vn,i<=n/\m=n-i/\kv=P Z (i:Nat)/\z5 (um wc T (Y ra rn rc) ((R.take i).map Ze.name) vn wx))
 case atStart=>exact⟨0,_,k8 _,rfl,rfl,k0⟩
 obtain⟨i,vn,hi,rfl,rfl,t⟩:=hrel;by_cases h1:i<n
 ·have P0:(i:Int)<(n:Int):=by omega
  obtain⟨r,hr⟩:∃r,R[i]?=J r:=⟨_,gE (by have:=HN.o;omega)⟩;have C0:=Za hr;obtain⟨g,O,mc,ca,cc,pa,pc,eg,R0,c0,_⟩:=s0.o i r hr;subst eg
  have b:∀o v,[C r.name,P Z r.rank,P Z r.digits,P Z r.lo,P Z r.hi,Y O r.mcc.length mc,y9 r.am.isSome,P Z (r.am.getD (0,0)).1,P Z (r.am.getD (0,0)).2,Y ca r.cur.length cc,y9 r.decline,y9 r.cheapest,Y pa r.routes.length pc,P Z r.ahead][o]?=J v->wr.cell? ⟨g,i*14+o,I⟩=J v:=fun o v ho=>((q.o.fr.trans t.o.fr).cell (p:=⟨g,i*14+o,I⟩) R0).trans (c0 o v ho)
  have S0:=b 0 _ rfl;have i1:=b 1 _ rfl;have v2:=b 2 _ rfl;have v3:=b 3 _ rfl;have v4:=b 4 _ rfl;have v5:=b 5 _ rfl;have v6:=b 6 _ rfl;have v7:=b 7 _ rfl;have v8:=b 8 _ rfl;have v9:=b 9 _ rfl;have k1:=b 10 _ rfl;have l1:=b 11 _ rfl;have m1:=b 12 _ rfl;have n1:=b 13 _ rfl;rw[j5]at S0;obtain⟨z,d0⟩:=VA wr (Lq r.name r.rank r.digits r.lo r.hi O r.mcc.length mc r.am.isSome (r.am.getD (0,0)).1 (r.am.getD (0,0)).2 ca r.cur.length cc r.decline r.cheapest pa r.routes.length pc r.ahead);unfold Lq at z d0;go_upto_region 6 with fail;generalize wr.alloc _=K at*;obtain⟨X,hX⟩:∃X,wr.heap.size=X:=⟨_,rfl⟩;have HX:=Za hX;rw[hX]at d0 ⊢;obtain⟨l,hl⟩:∃l,(R.take i).map Ze.name=l:=⟨_,rfl⟩;have HL:=Za hl
  have o1:l.length<=8:=by rw[<-hl,j8,List.length_take];omega
  rw[hl]at t;obtain⟨la,lc,e3⟩:=oL t.o.nm;subst e3;have x0:=Zc d0.o 0;have e0:=(iA.1 d0.o).1;have t1:=bC (z.o.whole t.o.bx) 1 _ rfl;have D0:=Za (oF t.o.nm z.o)
  have p1:T+1<=K.heap.size:=by have:=(iA.1 (z.o.whole t.o.bx)).1;omega
  refine wp_region_held_drew (S:=fun W=>W.cell? ⟨X,0,I⟩=J (j2 r.name)) (by kernel_rfl) x0 (fun h=>?_)
  iterate 4 (refine YP 0 h ?_;try go_frame)
  iterate 2 ((first|refine YP 0 h ?_|refine YP 1 h ?_);try go_frame)
  refine XC [4,7] ?_;refine Zb rfl (fun x f=>?_) ?_
  ·try rw[if_pos (by rfl)]
   go_simp;refine f.out _ _ h (fun _=>?_)
   try go_frame
   refine XC [7] ?_;refine Zb rfl (fun x f=>?_) Q
   try rw[if_pos (by rfl)]
   go_simp;refine f.out _ _ ((((Fr.refl (fun _=>False) K).alloc _).cell (p:=⟨X,0,I⟩) e0).trans x0) (fun h=>?_)
   try go_frame
   refine XC [8] ?_;refine Zb rfl (fun x f=>?_) Q;refine step_append_lies _ rfl (.tmp 38) (.tmp 41) 28 rfl (T+1) 9 ii _ 1 16 Tryz.underlying28 v0 w0 y0 z0 rfl (by decide) (Y la l.length lc) l.length (l.map C) rfl ?h1C ⟨K.heap.size,0,I⟩ 1 1 [j2 r.name] rfl rfl ?h2C ?h3C (by decide) ?h4C ?h5C ?h6C _ rfl ?h7C
   case h1C=>exact(D0.o.alloc _).drew
   case h2C=>exact q4 (aN K _)
   case h3C=>simp[j1]
   case h4C=>unfold maxLen;omega
   case h5C=>omega
   case h6C=>simp;omega
   intro g2 L w8 N s T0 _;obtain⟨l0,d2,df,m0⟩:=t.o.more (q7 HT.o) z.o (((Fr.refl (fun _=>False) K).alloc _).drew) N s;have n0:=Za l0;have x8:=m0 X 0 _ e0 (q7 HX.o) x0;refine f.out _ _ x8 (fun h=>?_)
   try go_frame
   iterate 2 (refine YP 0 h ?_;try go_frame)
   refine Vy 11 (fun x f=>?_);go_simp;refine f.out _ _ ?_ (fun _=>?_)
   ·rw[cO _ _ _ _ (by intro e;injection e with d e2;omega)]
    exact x8
   try go_frame
   refine wpAnyH_done (by kernel_rfl) ?_ _;go_wp2_with fail;go_roundg (n-(i+1))
   case measure=>omega
   refine⟨i+1,Y (J ⟨g2,0,I⟩) (l.length+1) L,by omega,rfl,by go_num,?_⟩
   have e:(R.take (i+1)).map Ze.name=l++[r.name]:=by rw[y8,C0.o,j0,HL.o];rfl
   rw[e];exact n0
  refine Zb rfl (fun x f=>?_) Q
  try rw[if_pos (by rfl)]
  go_simp;refine f.out _ _ ((((Fr.refl (fun _=>False) K).alloc _).cell (p:=⟨X,0,I⟩) e0).trans x0) (fun h=>?_)
  try go_frame
  refine XC [4] ?_;refine Zb rfl (fun x f=>?_) Q
  try rw[if_pos (by rfl)]
  have q1:(K.alloc (z7 #[j2 r.name] 9)).cell? ⟨T,1,I⟩=J (Y la l.length lc):=by rw[World.cell?_alloc_lt _ _ _ (bL K _ t1)];exact t1
  go_simp;refine f.out _ _ h (fun _=>?_)
  try go_frame
  refine XC [8] ?_;refine Zb rfl (fun x f=>?_) Q;refine step_append_lies _ rfl (.tmp 38) (.tmp 41) 28 rfl (T+1) 9 ii _ 1 16 Tryz.underlying28 v0 w0 y0 z0 rfl (by decide) (Y la l.length lc) l.length (l.map C) rfl ?h1D ⟨K.heap.size,0,I⟩ 1 1 [j2 r.name] rfl rfl ?h2D ?h3D (by decide) ?h4D ?h5D ?h6D _ rfl ?h7D
  case h1D=>exact(D0.o.alloc _).drew
  case h2D=>exact q4 (aN K _)
  case h3D=>simp[j1]
  case h4D=>unfold maxLen;omega
  case h5D=>omega
  case h6D=>simp;omega
  intro g2 L w8 N s T0 _;obtain⟨l0,d2,df,m0⟩:=t.o.more (q7 HT.o) z.o (((Fr.refl (fun _=>False) K).alloc _).drew) N s;have n0:=Za l0;have x8:=m0 X 0 _ e0 (q7 HX.o) x0;refine f.out _ _ x8 (fun h=>?_)
  try go_frame
  iterate 2 (refine YP 0 h ?_;try go_frame)
  refine Vy 11 (fun x f=>?_);go_simp;refine f.out _ _ ?_ (fun _=>?_)
  ·rw[cO _ _ _ _ (by intro e;injection e with d e2;omega)]
   exact x8
  try go_frame
  refine wpAnyH_done (by kernel_rfl) ?_ _;go_wp2_with fail;go_roundg (n-(i+1))
  case measure=>omega
  refine⟨i+1,Y (J ⟨g2,0,I⟩) (l.length+1) L,by omega,rfl,by go_num,?_⟩
  have e:(R.take (i+1)).map Ze.name=l++[r.name]:=by rw[y8,C0.o,j0,HL.o];rfl
  rw[e];exact n0
 have V0:i=n:=by omega
 subst V0
 have P0:¬(i:Int)<(i:Int):=by omega
 have W0:=Za ((t.o.fr.cell (p:=⟨Bk,1,I⟩) (bL wc _ B0.o)).trans B0.o);have s1:=W0.o;have v1:=za i hn
 have E0:2^i-1<256:=by
  have:2^i<=2^8:=q3 (by omega) hn;omega
 have A:z5 (QA zb wr wr G M (Y B i c) (Y E i H) R (Zx rk i) [] (Y I 0 0)/\G<wr.heap.size/\M<wr.heap.size):=by
  have e:=HN.o;subst e;exact q.o.start t.o.fr HZ.o s0.o
 have X0:z5 (y7 U 93 #[V (J ⟨G,0,I⟩),y6 #[P Z 0,P Z 0],P .u64 0,P .u64 ((2^i-1:Nat):Int)] wr (U5 zb wr wr G M (Y B i c) (Y E i H) R (Zx rk i) (ZH R 7 ⟨0,0⟩ 0 (2^i-1) []) (Y I 0 0))):=by
  have e:=HN.o;exact Ha wr G M _ _ R (Zx rk i) A.o.2.2 A.o.2.1 (by omega) (by rw[e];exact o0) N0 p0 7 ⟨0,0⟩ 0 (2^i-1) [] (Y I 0 0) wr (by simp) (by simp) (by simp) (by omega) E0 A.o.1
 go_wp2_with fail;refine X0.o.mono ?_;intro e w8 f0
 obtain⟨pp,kk,rfl⟩:∃(pp:Option Addr)(kk:Nat),e=z9 (y6 #[V pp,P Z kk]):=by
  obtain⟨⟨a,bb,d,ht⟩,_⟩:=f0;obtain⟨pp,kk,rfl,rfl⟩:=ht.form;exact⟨pp,kk,d⟩
 have Y0:=Za f0
 have g0:T≠G:=by
  rintro rfl;have d:=A.o.1.bx;rw[t.o.bx]at d;injection d with d;injection d with _ d _;exact absurd d (by decide)
 have G0:T≠M:=by
  rintro rfl;obtain⟨D,⟨es,ck,d,_⟩,_⟩:=A.o.1.mp;rw[t.o.bx]at d
  cases d
 have bT:=f0.2.2.whole t.o.bx (by rintro(e|e|e)<;>first|exact g0 e|exact G0 e|simp[y5]at e);obtain⟨H0,I0,_⟩:=f0.2.1;obtain⟨x1,Z0,_⟩:=I0.pg;obtain⟨J0,K0,e8⟩:=oL Z0;subst e8;have c2:=Zc I0.bx 2;have z2:=Zc bT 2;have z3:=Zc bT 3;have z4:=Zc bT 4;have y1:=bF bT 2;have z1:=bF bT 3;have A1:=bF bT 4;have B1:=Za bT
 have C1:((w8.setCell ⟨T,3,I⟩ (V pp)).setCell ⟨T,4,I⟩ (P Z kk)).cell? ⟨G,2,I⟩=J (Y J0 (ZH R 7 ⟨0,0⟩ 0 (2^i-1) []).2.length K0):=by
  rw[cO _ _ _ _ (by intro e;injection e with d;exact g0 d),cO _ _ _ _ (by intro e;injection e with d;exact g0 d)];exact c2
 go_wp2_with fail;go_ret;have L0:=HN.o;subst L0;have hm:=t.o;rw[List.take_length]at hm;obtain⟨⟨a,bb,d,ht⟩,⟨H0,M0,_⟩,a1⟩:=Y0.o;injection d with d;injection d with d
 obtain⟨ea,eb⟩:Value.pointer pp=a/\Value.int Z kk=bb:=by simpa using d
 subst ea eb
 have c1:H0=Y J0 (ZH R 7 ⟨0,0⟩ 0 (2^R.length-1) []).2.length K0:=by
  have:=Zc M0.bx 2;rw[c2]at this;injection this with this;exact this.symm
 subst c1;obtain⟨r1,r2,r3⟩:=A9 HZ.o q.o.fr HT.o q.o.lo.1 q.o.lo.2 rfl hm.fr hm.bx hm.nm A.o.1 rfl g0 G0 ht M0 a1;rw[O0.o]at r2;exact⟨⟨T,rfl,r1,r2⟩,r3⟩
structure WF where
 pan:ByteArray
 mcc:Int
 am:Int
 cur:Int
def Uo (l:List Nat)(n:Int):Bool:=l.any (fun x=>decide ((x:Int)=n))
def RS (p:WF)(s:Zl):Bool:=
 if s.sort=0 then Uo s.nums p.mcc else if s.sort=1 then decide (((s.nums.getD 0 0:Nat):Int)<=p.am)&&decide (p.am<=((s.nums.getD 1 0:Nat):Int))else Uo s.nums p.cur
def Mk (r:Ze)(p:WF):Bool:=match r.am with
 |none=>true
 |some a=>decide ((a.1:Int)<=p.am)&&decide (p.am<=(a.2:Int))
def Uc (r:Ze)(p:WF):Bool:=(decide (r.mcc=[])||Uo r.mcc p.mcc)&&(Mk r p&&(decide (r.cur=[])||Uo r.cur p.cur))
theorem CS (r p):(Z6 r).all (RS p)=Uc r p:=by
 unfold Z6 Uc Mk;rw[j9,j9]
 have a:(if r.mcc=[]then[]else[(⟨0,r.mcc,0,0⟩:Zl)]).all (RS p)=(decide (r.mcc=[])||Uo r.mcc p.mcc):=by
  split
  ·rename_i h;simp[h]
  rename_i h;simp[h,RS]
 have b:(if r.cur=[]then[]else[(⟨2,r.cur,0,0⟩:Zl)]).all (RS p)=(decide (r.cur=[])||Uo r.cur p.cur):=by
  split
  ·rename_i h;simp[h]
  rename_i h;simp[h,RS]
 rw[a,b]
 cases r.am with
 |none=>simp
 |some c=>simp[RS]
def XQ (b:Zl->Bool)(l:List Zl):Nat->Nat->Option Zl
 |0,_=>I
 |n+1,a=>match l[a]? with
  |none=>I
  |some s=>if s.sort<3 then XQ b l n (if b s then a+1 else a+s.skip)else J s
theorem Ml (b:Zl->Bool)(pre l:List Zl):∀(n a:Nat),XQ b (pre++l) n (pre.length+a)=XQ b l n a
 |0,_=>rfl
 |n+1,a=>by
  unfold XQ;rw[aR (by omega),show pre.length+a-pre.length=a from by omega]
  cases l[a]? with
  |none=>rfl
  |some s=>
   dsimp only
   split
   ·rw[show(if b s=true then pre.length+a+1 else pre.length+a+s.skip)=pre.length+(if b s=true then a+1 else a+s.skip)from by split<;>omega]
    exact Ml b pre l n _
   rfl
theorem PP (m:Nat):∀(l:List Zl)(a j:Nat)(s:Zl),l[j]?=J s->(ZO m a l)[j]?=J {s with skip:=m-(a+j)+1}
 |[],_,_,_,h=>by simp at h
 |x::r,a,0,s,h=>by
  simp at h;subst h;simp[ZO]
 |x::r,a,j+1,s,h=>by
  rw[q8]at h;simp only[ZO,q8];rw[PP m r (a+1) j s h,show a+1+j=a+(j+1)from by omega]
theorem Hb (p s k):RS p {s with skip:=k}=RS p s:=rfl
theorem VJ (m:Nat):∀(a:Nat)(l:List Zl),(ZO m a l).length=l.length
 |_,[]=>rfl
 |a,_::r=>by show(ZO m (a+1) r).length+1=r.length+1;rw[VJ m (a+1) r]
theorem Ou (p:WF)(b:List Zl)(d:∀s,s∈b->s.sort<3)(c:Zl)(g:¬c.sort<3)(a:List Zl)(n:Nat)(R:Option Zl)(m:XQ (RS p) a n 0=R)(o:0<n):
  ∀(k j:Nat),k+j=b.length->XQ (RS p) (ZO b.length 0 b++c::a) (n+k) j=if(b.drop j).all (RS p)then J c else XQ (RS p) (ZO b.length 0 b++c::a) (n+k) j
 |0,j,h=>by
  rw[dL (by omega)];simp only[List.all_nil,if_true];obtain⟨i,rfl⟩:∃i,n=i+1:=⟨n-1,by omega⟩;rw[j5,XQ,aR (by rw[VJ];omega),VJ,show j-b.length=0 from by omega];simp[g]
 |k+1,j,h=>by
  have l:=Ou p b d c g a n R m o k (j+1) (by omega);obtain⟨s,f⟩:∃s,b[j]?=J s:=⟨_,gE (by omega)⟩
  have q:b.drop j=s::b.drop (j+1):=by
   obtain⟨r,t⟩:=iG.1 f;rw[dC r,t]
  rw[q,k5]
  cases u:RS p s with
  |false=>simp
  |true=>
   rw[q6]
   split
   ·rename_i e
    rw[if_pos e]at l
    show XQ (RS p) _ (n+k+1) j=_
    rw[XQ,y3 (by rw[VJ];omega),PP _ b 0 j s f]
    dsimp only
    rw[if_pos (d s (mG f)),Hb,u,if_pos rfl];exact l
   rfl
theorem Kt (p:WF)(b:List Zl)(f:∀s,s∈b->s.sort<3)(c:Zl)(a:List Zl)(n:Nat)(R:Option Zl)(l:XQ (RS p) a n 0=R):
  ∀(k j:Nat),k+j=b.length->(b.drop j).all (RS p)=false->∃d,XQ (RS p) (ZO b.length 0 b++c::a) d j=R
 |0,j,h,hf=>by
  rw[dL (by omega)]at hf;simp at hf
 |k+1,j,h,hf=>by
  obtain⟨s,g⟩:∃s,b[j]?=J s:=⟨_,gE (by omega)⟩
  have m:b.drop j=s::b.drop (j+1):=by
   obtain⟨o,q⟩:=iG.1 g;rw[dC o,q]
  rw[m,k5]at hf
  have one:∀d,XQ (RS p) (ZO b.length 0 b++c::a) (d+1) j=XQ (RS p) (ZO b.length 0 b++c::a) d (if RS p s then j+1 else j+(b.length-(0+j)+1)):=by
   intro d;rw[XQ,y3 (by rw[VJ];omega),PP _ b 0 j s g]
   dsimp only
   rw[if_pos (f s (mG g)),Hb]
  cases i:RS p s with
  |true=>
   rw[i,q6]at hf;obtain⟨d,e⟩:=Kt p b f c a n R l k (j+1) (by omega) hf;exact⟨d+1,by rw[one,i];exact e⟩
  |false=>
   refine⟨n+1,?_⟩;rw[one,i,if_neg (by simp),show j+(b.length-(0+j)+1)=(ZO b.length 0 b++[c]).length+0 from by rw[List.length_append,VJ];simp;omega,show ZO b.length 0 b++c::a=(ZO b.length 0 b++[c])++a from by simp,Ml];exact l
theorem Ov (r):∀s,s∈Z6 r->s.sort<3:=by
 intro s a;unfold Z6 at a;rw[q9,q9]at a;rcases a with h|h|h
 ·split at h
  ·cases h
  simp at h;subst h;simp
 ·cases b:r.am with
  |none=>rw[b]at h;cases h
  |some c=>rw[b]at h;simp at h;subst h;simp
 split at h
 ·cases h
 simp at h;subst h;simp
theorem Q7 (i r):¬(UK i r).sort<3:=by
 unfold UK
 split
 ·simp
 split<;>simp
def Qm (R:List Ze)(met:Nat)(p:WF):List Nat->Option Nat
 |[]=>I
 |i::L=>if met.testBit i&&(match R[i]? with|none=>false|some r=>Uc r p)then J i else Qm R met p L
def Qn (R:List Ze):Option Nat->Zl
 |none=>⟨6,[],0,0⟩
 |some i=>match R[i]? with
  |none=>⟨6,[],0,0⟩
  |some r=>UK i r
theorem Mm (R:List Ze)(met:Nat)(p:WF):∀(L:List Nat),∃n,XQ (RS p) (ZJ R met L) n 0=J (Qn R (Qm R met p L))
 |[]=>⟨1,by simp[XQ,ZJ,Qn,Qm]⟩
 |i::L=>by
  obtain⟨n,b⟩:=Mm R met p L;simp only[ZJ,Qm]
  cases k:met.testBit i with
  |false=>simpa using⟨n,b⟩
  |true=>
   simp only[if_true,q6]
   cases f:R[i]? with
   |none=>simpa using⟨n,b⟩
   |some r=>
    dsimp only
    have c:=CS r p
    split
    ·rename_i g
     rw[g]at c;simp at c;rw[<-c];exact⟨1,by simp[XQ,Q7,Qn,f]⟩
    rename_i g
    have h:0<n:=by
     cases n with
     |zero=>simp[XQ]at b
     |succ n=>omega
    by_cases a:Uc r p=true
    ·have e:=Ou p (Z6 r) (Ov r) (UK i r) (Q7 i r) (ZJ R met L) n _ b h (Z6 r).length 0 (by omega)
     rw[k4,c,a,if_pos rfl]at e;rw[if_pos a];exact⟨_,by rw[Si,e];simp[Qn,f]⟩
    have d:Uc r p=false:=by simpa using a
    obtain⟨j,e⟩:=Kt p (Z6 r) (Ov r) (UK i r) (ZJ R met L) n _ b (Z6 r).length 0 (by omega) (by rw[k4,c,d]);rw[if_neg a];exact⟨j,by rw[Si,e]⟩
def YG (rk:Nat->Nat)(meets:Nat->Bool):Nat->Option Nat
 |0=>I
 |n+1=>if meets n&&(match YG rk meets n with|none=>true|some b=>decide (rk b<rk n))then J n else YG rk meets n
theorem Uu (rk:Nat->Nat)(meets:Nat->Bool):∀n,match YG rk meets n with
  |none=>∀j,j<n->meets j=false
  |some b=>b<n/\meets b=true/\∀j,j<n->meets j=true->j≠b->Sz rk b j
 |0=>by intro j g;omega
 |n+1=>by
  have d:=Uu rk meets n;unfold YG
  cases k:YG rk meets n with
  |none=>
   rw[k]at d
   dsimp only at d ⊢
   rw[Bool.and_true]
   cases h:meets n with
   |true=>
    simp only[if_true];refine⟨by omega,h,fun j g a c=>?_⟩;have:=d j (by omega);rw[this]at a
    cases a
   |false=>
    simp only[q5,if_false];intro j g;by_cases e:j=n
    ·subst e;exact h
    exact d j (by omega)
  |some b=>
   rw[k]at d
   dsimp only at d ⊢
   obtain⟨m,l,i⟩:=d
   cases h:meets n with
   |true=>
    rw[q6];by_cases f:rk b<rk n
    ·simp only[f,decide_true,if_true]
     refine⟨by omega,h,fun j g a c=>?_⟩;by_cases e:j=b
     ·subst e;exact O f
     have:=i j (by omega) a e
     unfold Sz at*;omega
    simp only[f,decide_false,q5,if_false]
    refine⟨by omega,l,fun j g a c=>?_⟩;by_cases e:j=n
    ·subst e
     unfold Sz;omega
    exact i j (by omega) a c
   |false=>
    simp only[Bool.false_and,q5,if_false];refine⟨by omega,l,fun j g a c=>?_⟩;by_cases e:j=n
    ·subst e
     rw[h]at a
     cases a
    exact i j (by omega) a c
theorem Dk {rk:Nat->Nat}{meets:Nat->Bool}:∀{L:List Nat},L.Pairwise (Sz rk)->match L.find? meets with
  |none=>∀j,j∈L->meets j=false
  |some b=>b∈L/\meets b=true/\∀j,j∈L->meets j=true->j≠b->Sz rk b j
 |[],_=>by intro j a;cases a
 |x::L,h=>by
  have c:=Dk (meets:=meets) (j6.1 h).2;rw[k0]
  cases f:meets x with
  |true=>
   dsimp only
   refine⟨by simp,f,fun j a _ d=>?_⟩;rcases j4.1 a with e|a
   ·exact absurd e d
   exact(j6.1 h).1 j a
  |false=>
   dsimp only
   cases i:L.find? meets with
   |none=>
    rw[i]at c
    dsimp only at c ⊢
    intro j a;rcases j4.1 a with e|a
    ·rw[e];exact f
    exact c j a
   |some b=>
    rw[i]at c
    dsimp only at c ⊢
    refine⟨by simp[c.1],c.2.1,fun j a g d=>?_⟩;rcases j4.1 a with e|a
    ·subst e;rw[f]at g;cases g
    exact c.2.2 j a g d
theorem CT (rk meets n):(Xe rk n).find? meets=YG rk meets n:=by
 have d:=Dk (meets:=meets) (Os rk n);have c:=Uu rk meets n
 cases g:(Xe rk n).find? meets with
 |none=>
  rw[g]at d
  cases f:YG rk meets n with
  |none=>rfl
  |some b=>
   rw[f]at c;have:=d b (Ul.2 c.1);rw[c.2.1]at this
   cases this
 |some a=>
  rw[g]at d
  dsimp only at d
  have h:=Ul.1 d.1
  cases f:YG rk meets n with
  |none=>
   rw[f]at c;have:=c a h;rw[d.2.1]at this
   cases this
  |some b=>
   rw[f]at c
   dsimp only at c
   by_cases e:a=b
   ·rw[e]
   have i:=d.2.2 b (Ul.2 c.1) c.2.1 (fun j=>e j.symm)
   have k:=c.2.2 a h d.2.1 e;unfold Sz at i k;omega
theorem Mn (R:List Ze)(met:Nat)(p:WF):∀L,Qm R met p L=L.find? (fun i=>met.testBit i&&(match R[i]? with|none=>false|some r=>Uc r p))
 |[]=>rfl
 |i::L=>by
  rw[Qm,k0,Mn R met p L]
  cases(met.testBit i&&(match R[i]? with|none=>false|some r=>Uc r p))<;>simp
theorem CU (rk n):Wb n (Zx rk n)=Xe rk n:=by
 unfold Wb;apply List.ext_getElem?;intro k;rw[List.getElem?_map];have b:=VZ rk n;by_cases a:k<n
 ·rw[List.getElem?_range a,gE (by omega)]
  simp only[Option.map_some,Zx,if_pos a];rw[U4 (by omega)]
 rw[j3 (by simp;omega),j3 (by omega)]
 rfl
theorem ze (rk n k)(h:k<n):Zx rk n k<n:=by
 have a:=VZ rk n;unfold Zx;rw[if_pos h,U4 (by omega)];exact Ul.1 (List.getElem_mem _)
def YY (R:List Ze)(p:WF)(c i:Nat):Bool:=match R[i]? with
 |none=>false
 |some r=>decide (r.lo<=c/10^(6-r.digits))&&(decide (c/10^(6-r.digits)<=r.hi)&&Uc r p)
theorem FSq (R met p c)(d:∀i r,R[i]?=J r->(met.testBit i=true↔RQ r.digits r.lo r.hi c)):
  Qm R met p (Wb R.length (Zx (Zv R) R.length))=YG (Zv R) (YY R p c) R.length:=by
 rw[Mn,CU,<-CT]
 congr 1
 funext i
 unfold YY
 cases f:R[i]? with
 |none=>simp
 |some r=>
  have h:=d i r f;unfold RQ at h
  dsimp only
  cases b:met.testBit i with
  |true=>
   have:=h.1 b;simp[this.1,this.2]
  |false=>
   have g:¬(r.lo<=c/10^(6-r.digits)/\c/10^(6-r.digits)<=r.hi):=fun e=>by have:=h.2 e;rw[b]at this;cases this
   by_cases a:r.lo<=c/10^(6-r.digits)
   ·have j:¬c/10^(6-r.digits)<=r.hi:=fun e=>g ⟨a,e⟩
    simp[a,j]
   simp[a]
def YL (c:Bool)(a:Nat->Int)(d:Nat->Bool):List Nat->Option Nat->Option Nat
 |[],b=>b
 |x::r,b=>YL c a d r (if d x then b else match b with
  |none=>J x
  |some y=>if c&&decide (a x<a y)then J x else J y)
theorem Mo (a:Nat->Int)(b:Nat->Bool):∀(l:List Nat)(y:Nat),YL false a b l (J y)=J y
 |[],_=>rfl
 |x::r,y=>by
  unfold YL
  have:(if b x=true then J y else if(false&&decide (a x<a y))=true then J x else J y)=J y:=by split<;>simp
  dsimp only
  rw[this];exact Mo a b r y
def XR (rts:List Zf)(a:Int)(x:Nat):Int:=match rts[x]? with
 |none=>0
 |some t=>(t.base:Int)+(t.rate:Int)*a
def Mp (rts:List Zf)(x:Nat):ByteArray:=match rts[x]? with
 |none=>A
 |some t=>t.name
def zg (rts:List Zf)(r:Ze)(a:Nat->Bool)(b:Int):Nat×ByteArray×ByteArray:=
 if r.decline then(3,r.name,A)
 else match YL r.cheapest (XR rts b) a r.routes I with
  |none=>(4,r.name,A)
  |some x=>(0,r.name,Mp rts x)
def XT (s:ByteArray):Bool:=decide (6<=s.size)&&(decide (s.size<=19)&&s.data.toList.all (fun c=>decide (48<=c.toNat)&&decide (c.toNat<=57)))
def Y6 (p:WF):Bool:=XT p.pan&&(decide (0<=p.mcc)&&decide (p.mcc<=9999))&&((decide (0<=p.am)&&decide (p.am<=1000000000))&&(decide (0<=p.cur)&&decide (p.cur<=999)))
def Zy (s:ByteArray):Nat:=Yv (s.data.toList.take 6)
def TV (rts:List Zf)(R:List Ze)(p:WF)(a:Nat->Bool):Nat×ByteArray×ByteArray:=
 if Y6 p then(match YG (Zv R) (YY R p (Zy p.pan)) R.length with
  |none=>(2,A,A)
  |some i=>match R[i]? with
   |none=>(2,A,A)
   |some r=>zg rts r a p.am)
 else(1,A,A)
theorem Qo {l:List UInt8}(a:∀c,c∈l->48<=c.toNat/\c.toNat<=57):∀(m k:Nat),k+m<=l.length->Yv (l.take (k+m))/10^m=Yv (l.take k)
 |0,k,_=>by simp
 |m+1,k,h=>by
  have d:=Qo a m k (by omega);obtain⟨c,b⟩:∃c,l[k+m]?=J c:=⟨_,gE (by omega)⟩;have e:=a c (mG b);rw[show k+(m+1)=(k+m)+1 from by omega,y8,b,Option.toList_some,UX,k6,Nat.mul_comm (10^m) 10,<-Nat.div_div_eq_div_mul,show(Yv (l.take (k+m))*10+(c.toNat-48))/10=Yv (l.take (k+m))from by omega];exact d
theorem FT {l:List UInt8}(a:∀c,c∈l->48<=c.toNat/\c.toNat<=57)(f:6<=l.length)(k)(g:k<6)(c)(b:l[k]?=J c):IY (Yv (l.take 6)) k=c.toNat-48:=by
 unfold IY;have e:=Qo a (5-k) (k+1) (by omega);rw[show k+1+(5-k)=6 from by omega]at e;have d:=a c (mG b);rw[e,y8,b,Option.toList_some,UX];omega
