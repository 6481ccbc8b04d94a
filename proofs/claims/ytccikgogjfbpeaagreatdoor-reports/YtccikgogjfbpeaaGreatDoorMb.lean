import Derived.Test.YtccikgogjfbpeaaGreatDoorMa
open Go.Value renaming slice->I,int->Z,pointer->D,agg->T,bool->C
open Option renaming none->J,some->H
open Go.RowKit renaming Hid->V
open Go.Obj renaming cells->Y
open Go.IntKind renaming i64->U
open Go.AllReadyH renaming nil->K
open Go renaming Value->O,World->M,Calls->F
open Go.Proofs.Tryz renaming prog->E
open Nat renaming le_trans->G,zero_add->z4
open Or renaming inr->N,inl->z5
open Go.Ending renaming returned->R
open Go.World renaming ownsRow->X
namespace Go.Proofs.YtccikgogjfbpeaaGreatDoor
set_option maxRecDepth 30000
set_option maxHeartbeats 8000000
open Go.RowKit
def ID (n:Nat):Code->Option (List Oper)
 | .region i c _=>if i=n then H c.toList else J
 | .seq a b=>match ID n a with
  |some l=>H l
  |none=>ID n b
 |_=>J
def VG (f:Func):List Oper:=(f.body.bind (ID 1)).getD []
def YH (w0 w:M)(v:O)(l:List YL):Prop:=w.ownsRow w0.heap.size 118 2 v l.length (SN l)
theorem YH.fr {w0 w w':M}{v:O}{l:List YL}(h:YH w0 w v l)(a:F0 w w'):YH w0 w' v l:=oF h a (by simp)
theorem YH.one {w0 w:M}(c:YL)(h:w0.heap.size<=w.heap.size):YH w0 (w.alloc (Y #[Z U (c.1:Nat),Z U (c.2:Nat)] 118)) (I (H ⟨w.heap.size,0,J⟩) 1 1) [c]:=oS (Hp w c.1 c.2) h
theorem YH.set {w0 w:M}{v:O}{l:List YL}{a k:Nat}{j:Array O}{u:O}(h:YH w0 w v l)(m:w.heap[a]?=H (Y j 215)):YH w0 (w.setCell ⟨a,k,J⟩ u) v l:=by
 obtain⟨n,b⟩:=h;refine⟨n,?_⟩;rcases b with b|⟨g,cap,c,e,d,f,r⟩
 ·exact z5 b
 ·refine N ⟨g,cap,c,e,d,?_,r⟩
  have i:g≠a:=by
   rintro rfl;rw[m]at f;simp at f
  exact((Fr.refl (fun k=>k=a) w).setCell (p:=⟨a,k,J⟩) (z5 rfl) u).whole f i
abbrev cV (c:YL):O:=T #[Z U (c.1:Nat),Z U (c.2:Nat)]
abbrev mV:O:=T #[Z U 0,Z U 1000000000]
structure VH (w0:M)(S:M->Prop)(v0 vm vc:O)(c:YL)(l9 l14:List YL):Prop where
 s:∀W,F0 w0 W->S W
 f5:∀W,F0 w0 W->F E 173 #[v0] W fun e w'=>e=R (cV c)/\F0 W w'
 f9:∀W,F0 w0 W->F E 174 #[vm,Z U 9999] W fun e w'=>(∃v,e=R v/\YH w0 w' v l9)/\F0 W w'
 f14:∀W,F0 w0 W->F E 174 #[vc,Z U 999] W fun e w'=>(∃v,e=R v/\YH w0 w' v l14)/\F0 W w'
abbrev R6 (Q:Exit->Act->M->Prop)(w0:M)(v0 i j p r k l:O)(c:YL)(l9 l14:List YL):Prop:=(∀c a d v w,Q (.panic c) (Act.put a d v) w->Q (.panic c) a w)/\∀h f g b e w,w0.heap.size<=h->w.heap[h]?=H (Y #[f,g,b,e] 215)->YH w0 w f [c]->YH w0 w g l9->YH w0 w b [(0,1000000000)]->YH w0 w e l14->F0 w0 w->Q .normal ⟨#[v0,p,r,(D (H ⟨h,0,J⟩)),v0,T #[Z U (c.1:Nat),Z U (c.2:Nat)],f,k,i,g,T #[Z U 0,Z U 1000000000],b,l,j,e,(T #[f,g,b,e]),undef,undef,undef,undef,undef,undef,undef],[]⟩ w
abbrev VL (v0 p r e f g h i j k l m a b c d:O):Act:=⟨#[v0,p,r,i,j,k,l,g,e,m,a,b,h,f,c,d,undef,undef,undef,undef,undef,undef,undef],[]⟩
section
set_option maxRecDepth 30000
set_option maxHeartbeats 2000000
variable {Q:Exit->Act->M->Prop} {w0 w:M} {S:M->Prop} {v0 vm vc p r p5 p9:O} {c:YL} {l9 l14:List YL}
theorem AO (M:V (VH w0 S v0 vm vc c l9 l14))(P:V (R6 Q w0 v0 vm vc p r p5 p9 c l9 l14))(R:V (F0 w0 w))(t:O)(y:V (YH w0 w t [c]))(u:O)(z:V (YH w0 w u l9))(e:O)(g:V (YH w0 w e [(0,1000000000)]))(f:O)(h:V (YH w0 w f l14))(d:Nat)(b:V (w0.heap.size<=d/\w.heap[d]?=H (Y #[I J 0 0,I J 0 0,I J 0 0,I J 0 0] 215)))(L:Array Bool)(U:L=#[true,true,true,true,true,true,true,true,true,true,true,true,true,false])(a:Act)(W:a=VL v0 p r vm vc p5 p9 (D (H ⟨d,0,J⟩)) v0 (cV c) t u mV e f (T #[t,u,e,f])):
  wpAnyH E .any (VG Tryz.f114).toArray Q S 1 L a w:=by
 subst U W;unfold VL;obtain⟨A,B,X⟩:=oL y.o;obtain⟨C,F,Z⟩:=oL z.o;obtain⟨i,j,v⟩:=oL g.o;obtain⟨k,l,x⟩:=oL h.o;subst X Z v x;have g0:=bC b.o.2 0 _ rfl;have g1:=bC b.o.2 1 _ rfl;have g2:=bC b.o.2 2 _ rfl;have g3:=bC b.o.2 3 _ rfl;have z0:=bF b.o.2 0;have z1:=bF b.o.2 1;have z2:=bF b.o.2 2;have z3:=bF b.o.2 3;refine wpAnyH_ready (rs:=[13]) (by kernel_rfl) (by simp) ?_;refine Zb rfl (fun K2 hK=>?_) K
 try rw[if_pos (by rfl)]
 go_simp;have m:=heap_setCell_same w d 0 _ _ (I A [c].length B) b.o.2;have n:=heap_setCell_same _ d 1 _ _ (I C l9.length F) m;have q:=heap_setCell_same _ d 2 _ _ (I i [((0,1000000000):YL)].length j) n;have e4:=heap_setCell_same _ d 3 _ _ (I k l14.length l) q;have G:=(((R.o.setCell (p:=⟨d,0,J⟩) (N b.o.1) (I A [c].length B)).setCell (p:=⟨d,1,J⟩) (N b.o.1) (I C l9.length F)).setCell (p:=⟨d,2,J⟩) (N b.o.1) (I i [((0,1000000000):YL)].length j)).setCell (p:=⟨d,3,J⟩) (N b.o.1) (I k l14.length l);refine hK.out _ _ (M.o.s _ G) (fun _=>?_);refine wpAnyH_done (by kernel_rfl) ?_ _;refine P.o.2 d _ _ _ _ _ b.o.1 e4 ?_ ?_ ?_ ?_ G
 ·exact(((y.o.set b.o.2).set m).set n).set q
 ·exact(((z.o.set b.o.2).set m).set n).set q
 ·exact(((g.o.set b.o.2).set m).set n).set q
 ·exact(((h.o.set b.o.2).set m).set n).set q
theorem VI (k:V (VH w0 S v0 vm vc c l9 l14))(l:V (R6 Q w0 v0 vm vc p r p5 p9 c l9 l14))(m:V (F0 w0 w))(n:O)(q:V (YH w0 w n [c]))(t:O)(u:V (YH w0 w t l9))(b:O)(d:V (YH w0 w b [(0,1000000000)]))(e:O)(f:V (YH w0 w e l14))(g:Nat)(x:V (w0.heap.size<=g/\w.heap[g]?=H (Y #[I J 0 0,I J 0 0,I J 0 0,I J 0 0] 215)))(L:Array Bool)(z:L=#[true,true,true,true,true,true,true,true,true,true,true,false,true,false])(a:Act)(A:a=VL v0 p r vm vc p5 p9 (D (H ⟨g,0,J⟩)) v0 (cV c) n t mV b e undef):
  wpAnyH E .any (VG Tryz.f114).toArray Q S 2 L a w:=by
 subst z A;unfold VL;obtain⟨P,R,B⟩:=oL q.o;obtain⟨T,U,C⟩:=oL u.o;obtain⟨F,G,i⟩:=oL d.o;obtain⟨K,M,j⟩:=oL f.o;subst B C i j;have N:=k.o.s _ m.o;refine Sh 11 (v:=?v) rfl (by kernel_rfl) (by kernel_rfl) (by kernel_rfl) (fun c a w h=>l.o.1 c a _ _ w h) rfl ?y N ?r
 case y=>rintro w W;go_simp;with_reducible rfl
 try go_frame
 exact AO k l m _ q _ u _ d _ f g x _ rfl _ rfl
theorem VJ (g:V (VH w0 S v0 vm vc c l9 l14))(m:V (R6 Q w0 v0 vm vc p r p5 p9 c l9 l14))(h:V (F0 w0 w))(i:O)(n:V (YH w0 w i [c]))(j:O)(q:V (YH w0 w j l9))(b:O)(k:V (YH w0 w b [(0,1000000000)]))(f:Nat)(l:V (w0.heap.size<=f/\w.heap[f]?=H (Y #[I J 0 0,I J 0 0,I J 0 0,I J 0 0] 215)))(L:Array Bool)(t:L=#[true,true,true,true,true,true,true,true,true,true,false,false,true,false])(a:Act)(u:a=VL v0 p r vm vc p5 p9 (D (H ⟨f,0,J⟩)) v0 (cV c) i j mV b undef undef):
  wpAnyH E .any (VG Tryz.f114).toArray Q S 3 L a w:=by
 subst t u;unfold VL;refine wpAnyH_ready (rs:=[10]) (by kernel_rfl) (by simp) ?_;refine Zb rfl (fun z x=>?p10) K
 case p10=>
  try rw[if_pos (by rfl)]
  go_simp;refine(g.o.f14 _ h.o).mono ?_;rintro e A ⟨⟨v,rfl,y⟩,d⟩;refine x.out _ _ (g.o.s _ (h.o.trans d)) (fun _=>?_);exact VI g m (Za (h.o.trans d)) i (Za (n.o.fr d)) j (Za (q.o.fr d)) b (Za (k.o.fr d)) v (Za y) f (Za ⟨l.o.1,d.whole l.o.2 (by simp)⟩) _ rfl _ rfl
theorem Ui (k:V (VH w0 S v0 vm vc c l9 l14))(m:V (R6 Q w0 v0 vm vc p r p5 p9 c l9 l14))(g:V (F0 w0 w))(h:O)(n:V (YH w0 w h l9))(b:O)(i:V (YH w0 w b [(0,1000000000)]))(d:O)(j:V (YH w0 w d l14))(f:Nat)(l:V (w0.heap.size<=f/\w.heap[f]?=H (Y #[I J 0 0,I J 0 0,I J 0 0,I J 0 0] 215)))(L:Array Bool)(q:L=#[true,true,false,true,true,true,true,true,true,true,true,false,true,false])(a:Act)(t:a=VL v0 p r vm vc p5 p9 (D (H ⟨f,0,J⟩)) v0 (cV c) undef h mV b d undef):
  wpAnyH E .any (VG Tryz.f114).toArray Q S 3 L a w:=by
 subst q t;unfold VL;refine wpAnyH_ready (rs:=[2]) (by kernel_rfl) (by simp) ?_;refine Zb rfl (fun v u=>?p2) K
 case p2=>
  try rw[if_pos (by rfl)]
  go_simp;have e:F0 w (w.alloc (Y #[Z U (c.1:Nat),Z U (c.2:Nat)] 118)):=(Fr.refl _ _).alloc _;refine u.out _ _ (k.o.s _ (g.o.trans e)) (fun _=>?_);exact VI k m (Za (g.o.trans e)) _ (Za (YH.one c g.o.size)) h (Za (n.o.fr e)) b (Za (i.o.fr e)) d (Za (j.o.fr e)) f (Za ⟨l.o.1,e.whole l.o.2 (by simp)⟩) _ rfl _ rfl
theorem UH (j:V (VH w0 S v0 vm vc c l9 l14))(m:V (R6 Q w0 v0 vm vc p r p5 p9 c l9 l14))(i:V (F0 w0 w))(n:O)(q:V (YH w0 w n [c]))(t:O)(u:V (YH w0 w t l9))(d:O)(e:V (YH w0 w d [(0,1000000000)]))(f:O)(g:V (YH w0 w f l14))(L:Array Bool)(x:L=#[true,true,true,true,true,true,true,true,true,true,true,false,false,false])(a:Act)(z:a=VL v0 p r vm vc p5 p9 undef v0 (cV c) n t mV d f undef):
  wpAnyH E .any (VG Tryz.f114).toArray Q S 3 L a w:=by
 subst x z;unfold VL;obtain⟨N,P,A⟩:=oL q.o;obtain⟨R,T,B⟩:=oL u.o;obtain⟨C,D,k⟩:=oL e.o;obtain⟨F,G,l⟩:=oL g.o;subst A B k l;have H:=j.o.s _ i.o;refine Sh 11 (v:=?v) rfl (by kernel_rfl) (by kernel_rfl) (by kernel_rfl) (fun c a w h=>m.o.1 c a _ _ w h) rfl ?y H ?r
 case y=>rintro w U;go_simp;with_reducible rfl
 try go_frame
 refine wpAnyH_ready (rs:=[12]) (by kernel_rfl) (by simp) ?_;refine Zb rfl (fun W M=>?_) K
 try rw[if_pos (by rfl)]
 go_simp;have b:F0 w (w.alloc (Y #[I J 0 0,I J 0 0,I J 0 0,I J 0 0] 215)):=(Fr.refl _ _).alloc _;refine M.out _ _ (j.o.s _ (i.o.trans b)) (fun _=>?_);exact AO j m (Za (i.o.trans b)) _ (Za (q.o.fr b)) _ (Za (u.o.fr b)) _ (Za (e.o.fr b)) _ (Za (g.o.fr b)) _ (Za ⟨i.o.size,aN w _⟩) _ rfl _ rfl
theorem Uj (j:V (VH w0 S v0 vm vc c l9 l14))(l:V (R6 Q w0 v0 vm vc p r p5 p9 c l9 l14))(f:V (F0 w0 w))(g:O)(m:V (YH w0 w g [c]))(h:O)(n:V (YH w0 w h l9))(b:O)(i:V (YH w0 w b l14))(e:Nat)(k:V (w0.heap.size<=e/\w.heap[e]?=H (Y #[I J 0 0,I J 0 0,I J 0 0,I J 0 0] 215)))(L:Array Bool)(q:L=#[true,true,true,true,true,true,true,false,true,true,true,false,true,false])(a:Act)(t:a=VL v0 p r vm vc p5 p9 (D (H ⟨e,0,J⟩)) v0 (cV c) g h mV undef b undef):
  wpAnyH E .any (VG Tryz.f114).toArray Q S 3 L a w:=by
 subst q t;unfold VL;refine wpAnyH_ready (rs:=[7]) (by kernel_rfl) (by simp) ?_;refine Zb rfl (fun v u=>?p7) K
 case p7=>
  try rw[if_pos (by rfl)]
  go_simp;have d:F0 w (w.alloc (Y #[Z U (((0,1000000000):YL).1:Nat),Z U (((0,1000000000):YL).2:Nat)] 118)):=(Fr.refl _ _).alloc _;refine u.out _ _ (j.o.s _ (f.o.trans d)) (fun _=>?_);exact VI j l (Za (f.o.trans d)) g (Za (m.o.fr d)) h (Za (n.o.fr d)) _ (Za (YH.one ((0,1000000000):YL) f.o.size)) b (Za (i.o.fr d)) e (Za ⟨k.o.1,d.whole k.o.2 (by simp)⟩) _ rfl _ rfl
theorem Tx (g:V (VH w0 S v0 vm vc c l9 l14))(l:V (R6 Q w0 v0 vm vc p r p5 p9 c l9 l14))(h:V (F0 w0 w))(i:O)(m:V (YH w0 w i [c]))(b:O)(j:V (YH w0 w b [(0,1000000000)]))(f:Nat)(k:V (w0.heap.size<=f/\w.heap[f]?=H (Y #[I J 0 0,I J 0 0,I J 0 0,I J 0 0] 215)))(L:Array Bool)(n:L=#[true,true,true,true,true,false,true,true,true,true,false,false,true,false])(a:Act)(q:a=VL v0 p r vm vc p5 p9 (D (H ⟨f,0,J⟩)) v0 (cV c) i undef mV b undef undef):
  wpAnyH E .any (VG Tryz.f114).toArray Q S 4 L a w:=by
 subst n q;unfold VL;refine wpAnyH_ready (rs:=[5]) (by kernel_rfl) (by simp) ?_;refine Zb rfl (fun x t=>?p5) K
 case p5=>
  try rw[if_pos (by rfl)]
  go_simp;refine(g.o.f9 _ h.o).mono ?_;rintro e y ⟨⟨v,rfl,u⟩,d⟩;refine t.out _ _ (g.o.s _ (h.o.trans d)) (fun _=>?_);exact VJ g l (Za (h.o.trans d)) i (Za (m.o.fr d)) v (Za u) b (Za (j.o.fr d)) f (Za ⟨k.o.1,d.whole k.o.2 (by simp)⟩) _ rfl _ rfl
theorem Ty (g:V (VH w0 S v0 vm vc c l9 l14))(m:V (R6 Q w0 v0 vm vc p r p5 p9 c l9 l14))(f:V (F0 w0 w))(j:O)(n:V (YH w0 w j l9))(d:O)(h:V (YH w0 w d [(0,1000000000)]))(i:Nat)(k:V (w0.heap.size<=i/\w.heap[i]?=H (Y #[I J 0 0,I J 0 0,I J 0 0,I J 0 0] 215)))(L:Array Bool)(q:L=#[true,true,false,true,true,true,true,true,true,true,false,false,true,false])(a:Act)(t:a=VL v0 p r vm vc p5 p9 (D (H ⟨i,0,J⟩)) v0 (cV c) undef j mV d undef undef):
  wpAnyH E .any (VG Tryz.f114).toArray Q S 4 L a w:=by
 subst q t;unfold VL;refine wpAnyH_ready (rs:=[2,10]) (by kernel_rfl) (by simp) ?_;refine Zb rfl (fun u l=>?p2) (Zb rfl (fun u l=>?p10) K)
 case p2=>
  try rw[if_pos (by rfl)]
  go_simp;have b:F0 w (w.alloc (Y #[Z U (c.1:Nat),Z U (c.2:Nat)] 118)):=(Fr.refl _ _).alloc _;refine l.out _ _ (g.o.s _ (f.o.trans b)) (fun _=>?_);exact VJ g m (Za (f.o.trans b)) _ (Za (YH.one c f.o.size)) j (Za (n.o.fr b)) d (Za (h.o.fr b)) i (Za ⟨k.o.1,b.whole k.o.2 (by simp)⟩) _ rfl _ rfl
 case p10=>
  try rw[if_pos (by rfl)]
  go_simp;refine(g.o.f14 _ f.o).mono ?_;rintro e y ⟨⟨v,rfl,x⟩,b⟩;refine l.out _ _ (g.o.s _ (f.o.trans b)) (fun _=>?_);exact Ui g m (Za (f.o.trans b)) j (Za (n.o.fr b)) d (Za (h.o.fr b)) v (Za x) i (Za ⟨k.o.1,b.whole k.o.2 (by simp)⟩) _ rfl _ rfl
theorem Sb (g:V (VH w0 S v0 vm vc c l9 l14))(l:V (R6 Q w0 v0 vm vc p r p5 p9 c l9 l14))(f:V (F0 w0 w))(i:O)(m:V (YH w0 w i [c]))(j:O)(n:V (YH w0 w j l9))(d:O)(h:V (YH w0 w d [(0,1000000000)]))(L:Array Bool)(q:L=#[true,true,true,true,true,true,true,true,true,true,false,false,false,false])(a:Act)(t:a=VL v0 p r vm vc p5 p9 undef v0 (cV c) i j mV d undef undef):
  wpAnyH E .any (VG Tryz.f114).toArray Q S 4 L a w:=by
 subst q t;unfold VL;refine wpAnyH_ready (rs:=[10,12]) (by kernel_rfl) (by simp) ?_;refine Zb rfl (fun u k=>?p10) (Zb rfl (fun u k=>?p12) K)
 case p10=>
  try rw[if_pos (by rfl)]
  go_simp;refine(g.o.f14 _ f.o).mono ?_;rintro e y ⟨⟨v,rfl,x⟩,b⟩;refine k.out _ _ (g.o.s _ (f.o.trans b)) (fun _=>?_);exact UH g l (Za (f.o.trans b)) i (Za (m.o.fr b)) j (Za (n.o.fr b)) d (Za (h.o.fr b)) v (Za x) _ rfl _ rfl
 case p12=>
  try rw[if_pos (by rfl)]
  go_simp;have b:F0 w (w.alloc (Y #[I J 0 0,I J 0 0,I J 0 0,I J 0 0] 215)):=(Fr.refl _ _).alloc _;refine k.out _ _ (g.o.s _ (f.o.trans b)) (fun _=>?_);exact VJ g l (Za (f.o.trans b)) i (Za (m.o.fr b)) j (Za (n.o.fr b)) d (Za (h.o.fr b)) _ (Za ⟨f.o.size,aN w _⟩) _ rfl _ rfl
theorem Tz (f:V (VH w0 S v0 vm vc c l9 l14))(l:V (R6 Q w0 v0 vm vc p r p5 p9 c l9 l14))(d:V (F0 w0 w))(h:O)(m:V (YH w0 w h [c]))(i:O)(n:V (YH w0 w i l9))(g:Nat)(j:V (w0.heap.size<=g/\w.heap[g]?=H (Y #[I J 0 0,I J 0 0,I J 0 0,I J 0 0] 215)))(L:Array Bool)(q:L=#[true,true,true,true,true,true,true,false,true,true,false,false,true,false])(a:Act)(t:a=VL v0 p r vm vc p5 p9 (D (H ⟨g,0,J⟩)) v0 (cV c) h i mV undef undef undef):
  wpAnyH E .any (VG Tryz.f114).toArray Q S 4 L a w:=by
 subst q t;unfold VL;refine wpAnyH_ready (rs:=[7,10]) (by kernel_rfl) (by simp) ?_;refine Zb rfl (fun u k=>?p7) (Zb rfl (fun u k=>?p10) K)
 case p7=>
  try rw[if_pos (by rfl)]
  go_simp;have b:F0 w (w.alloc (Y #[Z U (((0,1000000000):YL).1:Nat),Z U (((0,1000000000):YL).2:Nat)] 118)):=(Fr.refl _ _).alloc _;refine k.out _ _ (f.o.s _ (d.o.trans b)) (fun _=>?_);exact VJ f l (Za (d.o.trans b)) h (Za (m.o.fr b)) i (Za (n.o.fr b)) _ (Za (YH.one ((0,1000000000):YL) d.o.size)) g (Za ⟨j.o.1,b.whole j.o.2 (by simp)⟩) _ rfl _ rfl
 case p10=>
  try rw[if_pos (by rfl)]
  go_simp;refine(f.o.f14 _ d.o).mono ?_;rintro e y ⟨⟨v,rfl,x⟩,b⟩;refine k.out _ _ (f.o.s _ (d.o.trans b)) (fun _=>?_);exact Uj f l (Za (d.o.trans b)) h (Za (m.o.fr b)) i (Za (n.o.fr b)) v (Za x) g (Za ⟨j.o.1,b.whole j.o.2 (by simp)⟩) _ rfl _ rfl
theorem R7 (i:V (VH w0 S v0 vm vc c l9 l14))(l:V (R6 Q w0 v0 vm vc p r p5 p9 c l9 l14))(f:V (F0 w0 w))(j:O)(m:V (YH w0 w j l9))(d:O)(g:V (YH w0 w d [(0,1000000000)]))(e:O)(h:V (YH w0 w e l14))(L:Array Bool)(n:L=#[true,true,false,true,true,true,true,true,true,true,true,false,false,false])(a:Act)(q:a=VL v0 p r vm vc p5 p9 undef v0 (cV c) undef j mV d e undef):
  wpAnyH E .any (VG Tryz.f114).toArray Q S 4 L a w:=by
 subst n q;unfold VL;refine wpAnyH_ready (rs:=[2,12]) (by kernel_rfl) (by simp) ?_;refine Zb rfl (fun t k=>?p2) (Zb rfl (fun t k=>?p12) K)
 case p2=>
  try rw[if_pos (by rfl)]
  go_simp;have b:F0 w (w.alloc (Y #[Z U (c.1:Nat),Z U (c.2:Nat)] 118)):=(Fr.refl _ _).alloc _;refine k.out _ _ (i.o.s _ (f.o.trans b)) (fun _=>?_);exact UH i l (Za (f.o.trans b)) _ (Za (YH.one c f.o.size)) j (Za (m.o.fr b)) d (Za (g.o.fr b)) e (Za (h.o.fr b)) _ rfl _ rfl
 case p12=>
  try rw[if_pos (by rfl)]
  go_simp;have b:F0 w (w.alloc (Y #[I J 0 0,I J 0 0,I J 0 0,I J 0 0] 215)):=(Fr.refl _ _).alloc _;refine k.out _ _ (i.o.s _ (f.o.trans b)) (fun _=>?_);exact Ui i l (Za (f.o.trans b)) j (Za (m.o.fr b)) d (Za (g.o.fr b)) e (Za (h.o.fr b)) _ (Za ⟨f.o.size,aN w _⟩) _ rfl _ rfl
theorem SO (h:V (VH w0 S v0 vm vc c l9 l14))(l:V (R6 Q w0 v0 vm vc p r p5 p9 c l9 l14))(e:V (F0 w0 w))(i:O)(m:V (YH w0 w i l9))(d:O)(f:V (YH w0 w d l14))(g:Nat)(j:V (w0.heap.size<=g/\w.heap[g]?=H (Y #[I J 0 0,I J 0 0,I J 0 0,I J 0 0] 215)))(L:Array Bool)(n:L=#[true,true,false,true,true,true,true,false,true,true,true,false,true,false])(a:Act)(q:a=VL v0 p r vm vc p5 p9 (D (H ⟨g,0,J⟩)) v0 (cV c) undef i mV undef d undef):
  wpAnyH E .any (VG Tryz.f114).toArray Q S 4 L a w:=by
 subst n q;unfold VL;refine wpAnyH_ready (rs:=[2,7]) (by kernel_rfl) (by simp) ?_;refine Zb rfl (fun t k=>?p2) (Zb rfl (fun t k=>?p7) K)
 case p2=>
  try rw[if_pos (by rfl)]
  go_simp;have b:F0 w (w.alloc (Y #[Z U (c.1:Nat),Z U (c.2:Nat)] 118)):=(Fr.refl _ _).alloc _;refine k.out _ _ (h.o.s _ (e.o.trans b)) (fun _=>?_);exact Uj h l (Za (e.o.trans b)) _ (Za (YH.one c e.o.size)) i (Za (m.o.fr b)) d (Za (f.o.fr b)) g (Za ⟨j.o.1,b.whole j.o.2 (by simp)⟩) _ rfl _ rfl
 case p7=>
  try rw[if_pos (by rfl)]
  go_simp;have b:F0 w (w.alloc (Y #[Z U (((0,1000000000):YL).1:Nat),Z U (((0,1000000000):YL).2:Nat)] 118)):=(Fr.refl _ _).alloc _;refine k.out _ _ (h.o.s _ (e.o.trans b)) (fun _=>?_);exact Ui h l (Za (e.o.trans b)) i (Za (m.o.fr b)) _ (Za (YH.one ((0,1000000000):YL) e.o.size)) d (Za (f.o.fr b)) g (Za ⟨j.o.1,b.whole j.o.2 (by simp)⟩) _ rfl _ rfl
theorem R8 (g:V (VH w0 S v0 vm vc c l9 l14))(k:V (R6 Q w0 v0 vm vc p r p5 p9 c l9 l14))(e:V (F0 w0 w))(h:O)(l:V (YH w0 w h [c]))(i:O)(m:V (YH w0 w i l9))(d:O)(f:V (YH w0 w d l14))(L:Array Bool)(n:L=#[true,true,true,true,true,true,true,false,true,true,true,false,false,false])(a:Act)(q:a=VL v0 p r vm vc p5 p9 undef v0 (cV c) h i mV undef d undef):
  wpAnyH E .any (VG Tryz.f114).toArray Q S 4 L a w:=by
 subst n q;unfold VL;refine wpAnyH_ready (rs:=[7,12]) (by kernel_rfl) (by simp) ?_;refine Zb rfl (fun t j=>?p7) (Zb rfl (fun t j=>?p12) K)
 case p7=>
  try rw[if_pos (by rfl)]
  go_simp;have b:F0 w (w.alloc (Y #[Z U (((0,1000000000):YL).1:Nat),Z U (((0,1000000000):YL).2:Nat)] 118)):=(Fr.refl _ _).alloc _;refine j.out _ _ (g.o.s _ (e.o.trans b)) (fun _=>?_);exact UH g k (Za (e.o.trans b)) h (Za (l.o.fr b)) i (Za (m.o.fr b)) _ (Za (YH.one ((0,1000000000):YL) e.o.size)) d (Za (f.o.fr b)) _ rfl _ rfl
 case p12=>
  try rw[if_pos (by rfl)]
  go_simp;have b:F0 w (w.alloc (Y #[I J 0 0,I J 0 0,I J 0 0,I J 0 0] 215)):=(Fr.refl _ _).alloc _;refine j.out _ _ (g.o.s _ (e.o.trans b)) (fun _=>?_);exact Uj g k (Za (e.o.trans b)) h (Za (l.o.fr b)) i (Za (m.o.fr b)) d (Za (f.o.fr b)) _ (Za ⟨e.o.size,aN w _⟩) _ rfl _ rfl
theorem Rn (g:V (VH w0 S v0 vm vc c l9 l14))(l:V (R6 Q w0 v0 vm vc p r p5 p9 c l9 l14))(f:V (F0 w0 w))(b:O)(h:V (YH w0 w b [(0,1000000000)]))(i:Nat)(j:V (w0.heap.size<=i/\w.heap[i]?=H (Y #[I J 0 0,I J 0 0,I J 0 0,I J 0 0] 215)))(L:Array Bool)(m:L=#[true,true,false,true,true,false,true,true,true,true,false,false,true,false])(a:Act)(n:a=VL v0 p r vm vc p5 p9 (D (H ⟨i,0,J⟩)) v0 (cV c) undef undef mV b undef undef):
  wpAnyH E .any (VG Tryz.f114).toArray Q S 5 L a w:=by
 subst m n;unfold VL;refine wpAnyH_ready (rs:=[2,5]) (by kernel_rfl) (by simp) ?_;refine Zb rfl (fun q k=>?p2) (Zb rfl (fun q k=>?p5) K)
 case p2=>
  try rw[if_pos (by rfl)]
  go_simp;have d:F0 w (w.alloc (Y #[Z U (c.1:Nat),Z U (c.2:Nat)] 118)):=(Fr.refl _ _).alloc _;refine k.out _ _ (g.o.s _ (f.o.trans d)) (fun _=>?_);exact Tx g l (Za (f.o.trans d)) _ (Za (YH.one c f.o.size)) b (Za (h.o.fr d)) i (Za ⟨j.o.1,d.whole j.o.2 (by simp)⟩) _ rfl _ rfl
 case p5=>
  try rw[if_pos (by rfl)]
  go_simp;refine(g.o.f9 _ f.o).mono ?_;rintro e u ⟨⟨v,rfl,t⟩,d⟩;refine k.out _ _ (g.o.s _ (f.o.trans d)) (fun _=>?_);exact Ty g l (Za (f.o.trans d)) v (Za t) b (Za (h.o.fr d)) i (Za ⟨j.o.1,d.whole j.o.2 (by simp)⟩) _ rfl _ rfl
theorem Mq (g:V (VH w0 S v0 vm vc c l9 l14))(k:V (R6 Q w0 v0 vm vc p r p5 p9 c l9 l14))(f:V (F0 w0 w))(i:O)(l:V (YH w0 w i [c]))(b:O)(h:V (YH w0 w b [(0,1000000000)]))(L:Array Bool)(m:L=#[true,true,true,true,true,false,true,true,true,true,false,false,false,false])(a:Act)(n:a=VL v0 p r vm vc p5 p9 undef v0 (cV c) i undef mV b undef undef):
  wpAnyH E .any (VG Tryz.f114).toArray Q S 5 L a w:=by
 subst m n;unfold VL;refine wpAnyH_ready (rs:=[5,12]) (by kernel_rfl) (by simp) ?_;refine Zb rfl (fun q j=>?p5) (Zb rfl (fun q j=>?p12) K)
 case p5=>
  try rw[if_pos (by rfl)]
  go_simp;refine(g.o.f9 _ f.o).mono ?_;rintro e u ⟨⟨v,rfl,t⟩,d⟩;refine j.out _ _ (g.o.s _ (f.o.trans d)) (fun _=>?_);exact Sb g k (Za (f.o.trans d)) i (Za (l.o.fr d)) v (Za t) b (Za (h.o.fr d)) _ rfl _ rfl
 case p12=>
  try rw[if_pos (by rfl)]
  go_simp;have d:F0 w (w.alloc (Y #[I J 0 0,I J 0 0,I J 0 0,I J 0 0] 215)):=(Fr.refl _ _).alloc _;refine j.out _ _ (g.o.s _ (f.o.trans d)) (fun _=>?_);exact Tx g k (Za (f.o.trans d)) i (Za (l.o.fr d)) b (Za (h.o.fr d)) _ (Za ⟨f.o.size,aN w _⟩) _ rfl _ rfl
theorem O0 (f:V (VH w0 S v0 vm vc c l9 l14))(k:V (R6 Q w0 v0 vm vc p r p5 p9 c l9 l14))(d:V (F0 w0 w))(h:O)(l:V (YH w0 w h [c]))(g:Nat)(i:V (w0.heap.size<=g/\w.heap[g]?=H (Y #[I J 0 0,I J 0 0,I J 0 0,I J 0 0] 215)))(L:Array Bool)(m:L=#[true,true,true,true,true,false,true,false,true,true,false,false,true,false])(a:Act)(n:a=VL v0 p r vm vc p5 p9 (D (H ⟨g,0,J⟩)) v0 (cV c) h undef mV undef undef undef):
  wpAnyH E .any (VG Tryz.f114).toArray Q S 5 L a w:=by
 subst m n;unfold VL;refine wpAnyH_ready (rs:=[5,7]) (by kernel_rfl) (by simp) ?_;refine Zb rfl (fun q j=>?p5) (Zb rfl (fun q j=>?p7) K)
 case p5=>
  try rw[if_pos (by rfl)]
  go_simp;refine(f.o.f9 _ d.o).mono ?_;rintro e u ⟨⟨v,rfl,t⟩,b⟩;refine j.out _ _ (f.o.s _ (d.o.trans b)) (fun _=>?_);exact Tz f k (Za (d.o.trans b)) h (Za (l.o.fr b)) v (Za t) g (Za ⟨i.o.1,b.whole i.o.2 (by simp)⟩) _ rfl _ rfl
 case p7=>
  try rw[if_pos (by rfl)]
  go_simp;have b:F0 w (w.alloc (Y #[Z U (((0,1000000000):YL).1:Nat),Z U (((0,1000000000):YL).2:Nat)] 118)):=(Fr.refl _ _).alloc _;refine j.out _ _ (f.o.s _ (d.o.trans b)) (fun _=>?_);exact Tx f k (Za (d.o.trans b)) h (Za (l.o.fr b)) _ (Za (YH.one ((0,1000000000):YL) d.o.size)) g (Za ⟨i.o.1,b.whole i.o.2 (by simp)⟩) _ rfl _ rfl
theorem Mr (g:V (VH w0 S v0 vm vc c l9 l14))(k:V (R6 Q w0 v0 vm vc p r p5 p9 c l9 l14))(f:V (F0 w0 w))(i:O)(l:V (YH w0 w i l9))(d:O)(h:V (YH w0 w d [(0,1000000000)]))(L:Array Bool)(n:L=#[true,true,false,true,true,true,true,true,true,true,false,false,false,false])(a:Act)(q:a=VL v0 p r vm vc p5 p9 undef v0 (cV c) undef i mV d undef undef):
  wpAnyH E .any (VG Tryz.f114).toArray Q S 5 L a w:=by
 subst n q;unfold VL;refine wpAnyH_ready (rs:=[2,10,12]) (by kernel_rfl) (by simp) ?_;refine Zb rfl (fun m j=>?p2) (Zb rfl (fun m j=>?p10) (Zb rfl (fun m j=>?p12) K))
 case p2=>
  try rw[if_pos (by rfl)]
  go_simp;have b:F0 w (w.alloc (Y #[Z U (c.1:Nat),Z U (c.2:Nat)] 118)):=(Fr.refl _ _).alloc _;refine j.out _ _ (g.o.s _ (f.o.trans b)) (fun _=>?_);exact Sb g k (Za (f.o.trans b)) _ (Za (YH.one c f.o.size)) i (Za (l.o.fr b)) d (Za (h.o.fr b)) _ rfl _ rfl
 case p10=>
  try rw[if_pos (by rfl)]
  go_simp;refine(g.o.f14 _ f.o).mono ?_;rintro e u ⟨⟨v,rfl,t⟩,b⟩;refine j.out _ _ (g.o.s _ (f.o.trans b)) (fun _=>?_);exact R7 g k (Za (f.o.trans b)) i (Za (l.o.fr b)) d (Za (h.o.fr b)) v (Za t) _ rfl _ rfl
 case p12=>
  try rw[if_pos (by rfl)]
  go_simp;have b:F0 w (w.alloc (Y #[I J 0 0,I J 0 0,I J 0 0,I J 0 0] 215)):=(Fr.refl _ _).alloc _;refine j.out _ _ (g.o.s _ (f.o.trans b)) (fun _=>?_);exact Ty g k (Za (f.o.trans b)) i (Za (l.o.fr b)) d (Za (h.o.fr b)) _ (Za ⟨f.o.size,aN w _⟩) _ rfl _ rfl
theorem O1 (f:V (VH w0 S v0 vm vc c l9 l14))(k:V (R6 Q w0 v0 vm vc p r p5 p9 c l9 l14))(d:V (F0 w0 w))(i:O)(l:V (YH w0 w i l9))(g:Nat)(h:V (w0.heap.size<=g/\w.heap[g]?=H (Y #[I J 0 0,I J 0 0,I J 0 0,I J 0 0] 215)))(L:Array Bool)(n:L=#[true,true,false,true,true,true,true,false,true,true,false,false,true,false])(a:Act)(q:a=VL v0 p r vm vc p5 p9 (D (H ⟨g,0,J⟩)) v0 (cV c) undef i mV undef undef undef):
  wpAnyH E .any (VG Tryz.f114).toArray Q S 5 L a w:=by
 subst n q;unfold VL;refine wpAnyH_ready (rs:=[2,7,10]) (by kernel_rfl) (by simp) ?_;refine Zb rfl (fun m j=>?p2) (Zb rfl (fun m j=>?p7) (Zb rfl (fun m j=>?p10) K))
 case p2=>
  try rw[if_pos (by rfl)]
  go_simp;have b:F0 w (w.alloc (Y #[Z U (c.1:Nat),Z U (c.2:Nat)] 118)):=(Fr.refl _ _).alloc _;refine j.out _ _ (f.o.s _ (d.o.trans b)) (fun _=>?_);exact Tz f k (Za (d.o.trans b)) _ (Za (YH.one c d.o.size)) i (Za (l.o.fr b)) g (Za ⟨h.o.1,b.whole h.o.2 (by simp)⟩) _ rfl _ rfl
 case p7=>
  try rw[if_pos (by rfl)]
  go_simp;have b:F0 w (w.alloc (Y #[Z U (((0,1000000000):YL).1:Nat),Z U (((0,1000000000):YL).2:Nat)] 118)):=(Fr.refl _ _).alloc _;refine j.out _ _ (f.o.s _ (d.o.trans b)) (fun _=>?_);exact Ty f k (Za (d.o.trans b)) i (Za (l.o.fr b)) _ (Za (YH.one ((0,1000000000):YL) d.o.size)) g (Za ⟨h.o.1,b.whole h.o.2 (by simp)⟩) _ rfl _ rfl
 case p10=>
  try rw[if_pos (by rfl)]
  go_simp;refine(f.o.f14 _ d.o).mono ?_;rintro e u ⟨⟨v,rfl,t⟩,b⟩;refine j.out _ _ (f.o.s _ (d.o.trans b)) (fun _=>?_);exact SO f k (Za (d.o.trans b)) i (Za (l.o.fr b)) v (Za t) g (Za ⟨h.o.1,b.whole h.o.2 (by simp)⟩) _ rfl _ rfl
theorem Ms (f:V (VH w0 S v0 vm vc c l9 l14))(j:V (R6 Q w0 v0 vm vc p r p5 p9 c l9 l14))(d:V (F0 w0 w))(g:O)(k:V (YH w0 w g [c]))(h:O)(l:V (YH w0 w h l9))(L:Array Bool)(n:L=#[true,true,true,true,true,true,true,false,true,true,false,false,false,false])(a:Act)(q:a=VL v0 p r vm vc p5 p9 undef v0 (cV c) g h mV undef undef undef):
  wpAnyH E .any (VG Tryz.f114).toArray Q S 5 L a w:=by
 subst n q;unfold VL;refine wpAnyH_ready (rs:=[7,10,12]) (by kernel_rfl) (by simp) ?_;refine Zb rfl (fun m i=>?p7) (Zb rfl (fun m i=>?p10) (Zb rfl (fun m i=>?p12) K))
 case p7=>
  try rw[if_pos (by rfl)]
  go_simp;have b:F0 w (w.alloc (Y #[Z U (((0,1000000000):YL).1:Nat),Z U (((0,1000000000):YL).2:Nat)] 118)):=(Fr.refl _ _).alloc _;refine i.out _ _ (f.o.s _ (d.o.trans b)) (fun _=>?_);exact Sb f j (Za (d.o.trans b)) g (Za (k.o.fr b)) h (Za (l.o.fr b)) _ (Za (YH.one ((0,1000000000):YL) d.o.size)) _ rfl _ rfl
 case p10=>
  try rw[if_pos (by rfl)]
  go_simp;refine(f.o.f14 _ d.o).mono ?_;rintro e u ⟨⟨v,rfl,t⟩,b⟩;refine i.out _ _ (f.o.s _ (d.o.trans b)) (fun _=>?_);exact R8 f j (Za (d.o.trans b)) g (Za (k.o.fr b)) h (Za (l.o.fr b)) v (Za t) _ rfl _ rfl
 case p12=>
  try rw[if_pos (by rfl)]
  go_simp;have b:F0 w (w.alloc (Y #[I J 0 0,I J 0 0,I J 0 0,I J 0 0] 215)):=(Fr.refl _ _).alloc _;refine i.out _ _ (f.o.s _ (d.o.trans b)) (fun _=>?_);exact Tz f j (Za (d.o.trans b)) g (Za (k.o.fr b)) h (Za (l.o.fr b)) _ (Za ⟨d.o.size,aN w _⟩) _ rfl _ rfl
theorem IE (g:V (VH w0 S v0 vm vc c l9 l14))(j:V (R6 Q w0 v0 vm vc p r p5 p9 c l9 l14))(e:V (F0 w0 w))(h:O)(k:V (YH w0 w h l9))(d:O)(f:V (YH w0 w d l14))(L:Array Bool)(m:L=#[true,true,false,true,true,true,true,false,true,true,true,false,false,false])(a:Act)(n:a=VL v0 p r vm vc p5 p9 undef v0 (cV c) undef h mV undef d undef):
  wpAnyH E .any (VG Tryz.f114).toArray Q S 5 L a w:=by
 subst m n;unfold VL;refine wpAnyH_ready (rs:=[2,7,12]) (by kernel_rfl) (by simp) ?_;refine Zb rfl (fun l i=>?p2) (Zb rfl (fun l i=>?p7) (Zb rfl (fun l i=>?p12) K))
 case p2=>
  try rw[if_pos (by rfl)]
  go_simp;have b:F0 w (w.alloc (Y #[Z U (c.1:Nat),Z U (c.2:Nat)] 118)):=(Fr.refl _ _).alloc _;refine i.out _ _ (g.o.s _ (e.o.trans b)) (fun _=>?_);exact R8 g j (Za (e.o.trans b)) _ (Za (YH.one c e.o.size)) h (Za (k.o.fr b)) d (Za (f.o.fr b)) _ rfl _ rfl
 case p7=>
  try rw[if_pos (by rfl)]
  go_simp;have b:F0 w (w.alloc (Y #[Z U (((0,1000000000):YL).1:Nat),Z U (((0,1000000000):YL).2:Nat)] 118)):=(Fr.refl _ _).alloc _;refine i.out _ _ (g.o.s _ (e.o.trans b)) (fun _=>?_);exact R7 g j (Za (e.o.trans b)) h (Za (k.o.fr b)) _ (Za (YH.one ((0,1000000000):YL) e.o.size)) d (Za (f.o.fr b)) _ rfl _ rfl
 case p12=>
  try rw[if_pos (by rfl)]
  go_simp;have b:F0 w (w.alloc (Y #[I J 0 0,I J 0 0,I J 0 0,I J 0 0] 215)):=(Fr.refl _ _).alloc _;refine i.out _ _ (g.o.s _ (e.o.trans b)) (fun _=>?_);exact SO g j (Za (e.o.trans b)) h (Za (k.o.fr b)) d (Za (f.o.fr b)) _ (Za ⟨e.o.size,aN w _⟩) _ rfl _ rfl
theorem KN (g:V (VH w0 S v0 vm vc c l9 l14))(k:V (R6 Q w0 v0 vm vc p r p5 p9 c l9 l14))(h:V (F0 w0 w))(b:O)(i:V (YH w0 w b [(0,1000000000)]))(d:Nat)(j:V (w0.heap.size<=d/\w.heap[d]?=H (Y #[I J 0 0,I J 0 0,I J 0 0,I J 0 0] 215)))(L:Array Bool)(l:L=#[true,false,false,true,true,false,true,true,true,true,false,false,true,false])(a:Act)(m:a=VL v0 p r vm vc p5 p9 (D (H ⟨d,0,J⟩)) v0 undef undef undef mV b undef undef):
  wpAnyH E .any (VG Tryz.f114).toArray Q S 6 L a w:=by
 subst l m;unfold VL;refine wpAnyH_ready (rs:=[1]) (by kernel_rfl) (by simp) ?_;refine Zb rfl (fun q n=>?p1) K
 case p1=>
  try rw[if_pos (by rfl)]
  go_simp;refine(g.o.f5 _ h.o).mono ?_;rintro e t ⟨rfl,f⟩;refine n.out _ _ (g.o.s _ (h.o.trans f)) (fun _=>?_);exact Rn g k (Za (h.o.trans f)) b (Za (i.o.fr f)) d (Za ⟨j.o.1,f.whole j.o.2 (by simp)⟩) _ rfl _ rfl
theorem Hs (g:V (VH w0 S v0 vm vc c l9 l14))(j:V (R6 Q w0 v0 vm vc p r p5 p9 c l9 l14))(f:V (F0 w0 w))(b:O)(h:V (YH w0 w b [(0,1000000000)]))(L:Array Bool)(l:L=#[true,true,false,true,true,false,true,true,true,true,false,false,false,false])(a:Act)(m:a=VL v0 p r vm vc p5 p9 undef v0 (cV c) undef undef mV b undef undef):
  wpAnyH E .any (VG Tryz.f114).toArray Q S 6 L a w:=by
 subst l m;unfold VL;refine wpAnyH_ready (rs:=[2,5,12]) (by kernel_rfl) (by simp) ?_;refine Zb rfl (fun k i=>?p2) (Zb rfl (fun k i=>?p5) (Zb rfl (fun k i=>?p12) K))
 case p2=>
  try rw[if_pos (by rfl)]
  go_simp;have d:F0 w (w.alloc (Y #[Z U (c.1:Nat),Z U (c.2:Nat)] 118)):=(Fr.refl _ _).alloc _;refine i.out _ _ (g.o.s _ (f.o.trans d)) (fun _=>?_);exact Mq g j (Za (f.o.trans d)) _ (Za (YH.one c f.o.size)) b (Za (h.o.fr d)) _ rfl _ rfl
 case p5=>
  try rw[if_pos (by rfl)]
  go_simp;refine(g.o.f9 _ f.o).mono ?_;rintro e q ⟨⟨v,rfl,n⟩,d⟩;refine i.out _ _ (g.o.s _ (f.o.trans d)) (fun _=>?_);exact Mr g j (Za (f.o.trans d)) v (Za n) b (Za (h.o.fr d)) _ rfl _ rfl
 case p12=>
  try rw[if_pos (by rfl)]
  go_simp;have d:F0 w (w.alloc (Y #[I J 0 0,I J 0 0,I J 0 0,I J 0 0] 215)):=(Fr.refl _ _).alloc _;refine i.out _ _ (g.o.s _ (f.o.trans d)) (fun _=>?_);exact Rn g j (Za (f.o.trans d)) b (Za (h.o.fr d)) _ (Za ⟨f.o.size,aN w _⟩) _ rfl _ rfl
theorem KO (f:V (VH w0 S v0 vm vc c l9 l14))(j:V (R6 Q w0 v0 vm vc p r p5 p9 c l9 l14))(d:V (F0 w0 w))(g:Nat)(h:V (w0.heap.size<=g/\w.heap[g]?=H (Y #[I J 0 0,I J 0 0,I J 0 0,I J 0 0] 215)))(L:Array Bool)(l:L=#[true,true,false,true,true,false,true,false,true,true,false,false,true,false])(a:Act)(m:a=VL v0 p r vm vc p5 p9 (D (H ⟨g,0,J⟩)) v0 (cV c) undef undef mV undef undef undef):
  wpAnyH E .any (VG Tryz.f114).toArray Q S 6 L a w:=by
 subst l m;unfold VL;refine wpAnyH_ready (rs:=[2,5,7]) (by kernel_rfl) (by simp) ?_;refine Zb rfl (fun k i=>?p2) (Zb rfl (fun k i=>?p5) (Zb rfl (fun k i=>?p7) K))
 case p2=>
  try rw[if_pos (by rfl)]
  go_simp;have b:F0 w (w.alloc (Y #[Z U (c.1:Nat),Z U (c.2:Nat)] 118)):=(Fr.refl _ _).alloc _;refine i.out _ _ (f.o.s _ (d.o.trans b)) (fun _=>?_);exact O0 f j (Za (d.o.trans b)) _ (Za (YH.one c d.o.size)) g (Za ⟨h.o.1,b.whole h.o.2 (by simp)⟩) _ rfl _ rfl
 case p5=>
  try rw[if_pos (by rfl)]
  go_simp;refine(f.o.f9 _ d.o).mono ?_;rintro e q ⟨⟨v,rfl,n⟩,b⟩;refine i.out _ _ (f.o.s _ (d.o.trans b)) (fun _=>?_);exact O1 f j (Za (d.o.trans b)) v (Za n) g (Za ⟨h.o.1,b.whole h.o.2 (by simp)⟩) _ rfl _ rfl
 case p7=>
  try rw[if_pos (by rfl)]
  go_simp;have b:F0 w (w.alloc (Y #[Z U (((0,1000000000):YL).1:Nat),Z U (((0,1000000000):YL).2:Nat)] 118)):=(Fr.refl _ _).alloc _;refine i.out _ _ (f.o.s _ (d.o.trans b)) (fun _=>?_);exact Rn f j (Za (d.o.trans b)) _ (Za (YH.one ((0,1000000000):YL) d.o.size)) g (Za ⟨h.o.1,b.whole h.o.2 (by simp)⟩) _ rfl _ rfl
theorem Cq (f:V (VH w0 S v0 vm vc c l9 l14))(i:V (R6 Q w0 v0 vm vc p r p5 p9 c l9 l14))(d:V (F0 w0 w))(g:O)(j:V (YH w0 w g [c]))(L:Array Bool)(l:L=#[true,true,true,true,true,false,true,false,true,true,false,false,false,false])(a:Act)(m:a=VL v0 p r vm vc p5 p9 undef v0 (cV c) g undef mV undef undef undef):
  wpAnyH E .any (VG Tryz.f114).toArray Q S 6 L a w:=by
 subst l m;unfold VL;refine wpAnyH_ready (rs:=[5,7,12]) (by kernel_rfl) (by simp) ?_;refine Zb rfl (fun k h=>?p5) (Zb rfl (fun k h=>?p7) (Zb rfl (fun k h=>?p12) K))
 case p5=>
  try rw[if_pos (by rfl)]
  go_simp;refine(f.o.f9 _ d.o).mono ?_;rintro e q ⟨⟨v,rfl,n⟩,b⟩;refine h.out _ _ (f.o.s _ (d.o.trans b)) (fun _=>?_);exact Ms f i (Za (d.o.trans b)) g (Za (j.o.fr b)) v (Za n) _ rfl _ rfl
 case p7=>
  try rw[if_pos (by rfl)]
  go_simp;have b:F0 w (w.alloc (Y #[Z U (((0,1000000000):YL).1:Nat),Z U (((0,1000000000):YL).2:Nat)] 118)):=(Fr.refl _ _).alloc _;refine h.out _ _ (f.o.s _ (d.o.trans b)) (fun _=>?_);exact Mq f i (Za (d.o.trans b)) g (Za (j.o.fr b)) _ (Za (YH.one ((0,1000000000):YL) d.o.size)) _ rfl _ rfl
 case p12=>
  try rw[if_pos (by rfl)]
  go_simp;have b:F0 w (w.alloc (Y #[I J 0 0,I J 0 0,I J 0 0,I J 0 0] 215)):=(Fr.refl _ _).alloc _;refine h.out _ _ (f.o.s _ (d.o.trans b)) (fun _=>?_);exact O0 f i (Za (d.o.trans b)) g (Za (j.o.fr b)) _ (Za ⟨d.o.size,aN w _⟩) _ rfl _ rfl
theorem Cr (f:V (VH w0 S v0 vm vc c l9 l14))(i:V (R6 Q w0 v0 vm vc p r p5 p9 c l9 l14))(d:V (F0 w0 w))(h:O)(j:V (YH w0 w h l9))(L:Array Bool)(l:L=#[true,true,false,true,true,true,true,false,true,true,false,false,false,false])(a:Act)(m:a=VL v0 p r vm vc p5 p9 undef v0 (cV c) undef h mV undef undef undef):
  wpAnyH E .any (VG Tryz.f114).toArray Q S 6 L a w:=by
 subst l m;unfold VL;refine wpAnyH_ready (rs:=[2,7,10,12]) (by kernel_rfl) (by simp) ?_;refine Zb rfl (fun k g=>?p2) (Zb rfl (fun k g=>?p7) (Zb rfl (fun k g=>?p10) (Zb rfl (fun k g=>?p12) K)))
 case p2=>
  try rw[if_pos (by rfl)]
  go_simp;have b:F0 w (w.alloc (Y #[Z U (c.1:Nat),Z U (c.2:Nat)] 118)):=(Fr.refl _ _).alloc _;refine g.out _ _ (f.o.s _ (d.o.trans b)) (fun _=>?_);exact Ms f i (Za (d.o.trans b)) _ (Za (YH.one c d.o.size)) h (Za (j.o.fr b)) _ rfl _ rfl
 case p7=>
  try rw[if_pos (by rfl)]
  go_simp;have b:F0 w (w.alloc (Y #[Z U (((0,1000000000):YL).1:Nat),Z U (((0,1000000000):YL).2:Nat)] 118)):=(Fr.refl _ _).alloc _;refine g.out _ _ (f.o.s _ (d.o.trans b)) (fun _=>?_);exact Mr f i (Za (d.o.trans b)) h (Za (j.o.fr b)) _ (Za (YH.one ((0,1000000000):YL) d.o.size)) _ rfl _ rfl
 case p10=>
  try rw[if_pos (by rfl)]
  go_simp;refine(f.o.f14 _ d.o).mono ?_;rintro e q ⟨⟨v,rfl,n⟩,b⟩;refine g.out _ _ (f.o.s _ (d.o.trans b)) (fun _=>?_);exact IE f i (Za (d.o.trans b)) h (Za (j.o.fr b)) v (Za n) _ rfl _ rfl
 case p12=>
  try rw[if_pos (by rfl)]
  go_simp;have b:F0 w (w.alloc (Y #[I J 0 0,I J 0 0,I J 0 0,I J 0 0] 215)):=(Fr.refl _ _).alloc _;refine g.out _ _ (f.o.s _ (d.o.trans b)) (fun _=>?_);exact O1 f i (Za (d.o.trans b)) h (Za (j.o.fr b)) _ (Za ⟨d.o.size,aN w _⟩) _ rfl _ rfl
theorem BV (g:V (VH w0 S v0 vm vc c l9 l14))(j:V (R6 Q w0 v0 vm vc p r p5 p9 c l9 l14))(f:V (F0 w0 w))(b:O)(h:V (YH w0 w b [(0,1000000000)]))(L:Array Bool)(k:L=#[true,false,false,true,true,false,true,true,true,true,false,false,false,false])(a:Act)(l:a=VL v0 p r vm vc p5 p9 undef v0 undef undef undef mV b undef undef):
  wpAnyH E .any (VG Tryz.f114).toArray Q S 7 L a w:=by
 subst k l;unfold VL;refine wpAnyH_ready (rs:=[1,12]) (by kernel_rfl) (by simp) ?_;refine Zb rfl (fun m i=>?p1) (Zb rfl (fun m i=>?p12) K)
 case p1=>
  try rw[if_pos (by rfl)]
  go_simp;refine(g.o.f5 _ f.o).mono ?_;rintro e n ⟨rfl,d⟩;refine i.out _ _ (g.o.s _ (f.o.trans d)) (fun _=>?_);exact Hs g j (Za (f.o.trans d)) b (Za (h.o.fr d)) _ rfl _ rfl
 case p12=>
  try rw[if_pos (by rfl)]
  go_simp;have d:F0 w (w.alloc (Y #[I J 0 0,I J 0 0,I J 0 0,I J 0 0] 215)):=(Fr.refl _ _).alloc _;refine i.out _ _ (g.o.s _ (f.o.trans d)) (fun _=>?_);exact KN g j (Za (f.o.trans d)) b (Za (h.o.fr d)) _ (Za ⟨f.o.size,aN w _⟩) _ rfl _ rfl
theorem Bv (f:V (VH w0 S v0 vm vc c l9 l14))(j:V (R6 Q w0 v0 vm vc p r p5 p9 c l9 l14))(d:V (F0 w0 w))(g:Nat)(h:V (w0.heap.size<=g/\w.heap[g]?=H (Y #[I J 0 0,I J 0 0,I J 0 0,I J 0 0] 215)))(L:Array Bool)(k:L=#[true,false,false,true,true,false,true,false,true,true,false,false,true,false])(a:Act)(l:a=VL v0 p r vm vc p5 p9 (D (H ⟨g,0,J⟩)) v0 undef undef undef mV undef undef undef):
  wpAnyH E .any (VG Tryz.f114).toArray Q S 7 L a w:=by
 subst k l;unfold VL;refine wpAnyH_ready (rs:=[1,7]) (by kernel_rfl) (by simp) ?_;refine Zb rfl (fun m i=>?p1) (Zb rfl (fun m i=>?p7) K)
 case p1=>
  try rw[if_pos (by rfl)]
  go_simp;refine(f.o.f5 _ d.o).mono ?_;rintro e n ⟨rfl,b⟩;refine i.out _ _ (f.o.s _ (d.o.trans b)) (fun _=>?_);exact KO f j (Za (d.o.trans b)) g (Za ⟨h.o.1,b.whole h.o.2 (by simp)⟩) _ rfl _ rfl
 case p7=>
  try rw[if_pos (by rfl)]
  go_simp;have b:F0 w (w.alloc (Y #[Z U (((0,1000000000):YL).1:Nat),Z U (((0,1000000000):YL).2:Nat)] 118)):=(Fr.refl _ _).alloc _;refine i.out _ _ (f.o.s _ (d.o.trans b)) (fun _=>?_);exact KN f j (Za (d.o.trans b)) _ (Za (YH.one ((0,1000000000):YL) d.o.size)) g (Za ⟨h.o.1,b.whole h.o.2 (by simp)⟩) _ rfl _ rfl
theorem BW (f:V (VH w0 S v0 vm vc c l9 l14))(h:V (R6 Q w0 v0 vm vc p r p5 p9 c l9 l14))(b:V (F0 w0 w))(L:Array Bool)(j:L=#[true,true,false,true,true,false,true,false,true,true,false,false,false,false])(a:Act)(k:a=VL v0 p r vm vc p5 p9 undef v0 (cV c) undef undef mV undef undef undef):
  wpAnyH E .any (VG Tryz.f114).toArray Q S 7 L a w:=by
 subst j k;unfold VL;refine wpAnyH_ready (rs:=[2,5,7,12]) (by kernel_rfl) (by simp) ?_;refine Zb rfl (fun i g=>?p2) (Zb rfl (fun i g=>?p5) (Zb rfl (fun i g=>?p7) (Zb rfl (fun i g=>?p12) K)))
 case p2=>
  try rw[if_pos (by rfl)]
  go_simp;have d:F0 w (w.alloc (Y #[Z U (c.1:Nat),Z U (c.2:Nat)] 118)):=(Fr.refl _ _).alloc _;refine g.out _ _ (f.o.s _ (b.o.trans d)) (fun _=>?_);exact Cq f h (Za (b.o.trans d)) _ (Za (YH.one c b.o.size)) _ rfl _ rfl
 case p5=>
  try rw[if_pos (by rfl)]
  go_simp;refine(f.o.f9 _ b.o).mono ?_;rintro e m ⟨⟨v,rfl,l⟩,d⟩;refine g.out _ _ (f.o.s _ (b.o.trans d)) (fun _=>?_);exact Cr f h (Za (b.o.trans d)) v (Za l) _ rfl _ rfl
 case p7=>
  try rw[if_pos (by rfl)]
  go_simp;have d:F0 w (w.alloc (Y #[Z U (((0,1000000000):YL).1:Nat),Z U (((0,1000000000):YL).2:Nat)] 118)):=(Fr.refl _ _).alloc _;refine g.out _ _ (f.o.s _ (b.o.trans d)) (fun _=>?_);exact Hs f h (Za (b.o.trans d)) _ (Za (YH.one ((0,1000000000):YL) b.o.size)) _ rfl _ rfl
 case p12=>
  try rw[if_pos (by rfl)]
  go_simp;have d:F0 w (w.alloc (Y #[I J 0 0,I J 0 0,I J 0 0,I J 0 0] 215)):=(Fr.refl _ _).alloc _;refine g.out _ _ (f.o.s _ (b.o.trans d)) (fun _=>?_);exact KO f h (Za (b.o.trans d)) _ (Za ⟨b.o.size,aN w _⟩) _ rfl _ rfl
theorem AW (f:V (VH w0 S v0 vm vc c l9 l14))(h:V (R6 Q w0 v0 vm vc p r p5 p9 c l9 l14))(b:V (F0 w0 w))(L:Array Bool)(j:L=#[true,false,false,true,true,false,true,false,true,true,false,false,false,false])(a:Act)(k:a=VL v0 p r vm vc p5 p9 undef v0 undef undef undef mV undef undef undef):
  wpAnyH E .any (VG Tryz.f114).toArray Q S 8 L a w:=by
 subst j k;unfold VL;refine wpAnyH_ready (rs:=[1,7,12]) (by kernel_rfl) (by simp) ?_;refine Zb rfl (fun i g=>?p1) (Zb rfl (fun i g=>?p7) (Zb rfl (fun i g=>?p12) K))
 case p1=>
  try rw[if_pos (by rfl)]
  go_simp;refine(f.o.f5 _ b.o).mono ?_;rintro e l ⟨rfl,d⟩;refine g.out _ _ (f.o.s _ (b.o.trans d)) (fun _=>?_);exact BW f h (Za (b.o.trans d)) _ rfl _ rfl
 case p7=>
  try rw[if_pos (by rfl)]
  go_simp;have d:F0 w (w.alloc (Y #[Z U (((0,1000000000):YL).1:Nat),Z U (((0,1000000000):YL).2:Nat)] 118)):=(Fr.refl _ _).alloc _;refine g.out _ _ (f.o.s _ (b.o.trans d)) (fun _=>?_);exact BV f h (Za (b.o.trans d)) _ (Za (YH.one ((0,1000000000):YL) b.o.size)) _ rfl _ rfl
 case p12=>
  try rw[if_pos (by rfl)]
  go_simp;have d:F0 w (w.alloc (Y #[I J 0 0,I J 0 0,I J 0 0,I J 0 0] 215)):=(Fr.refl _ _).alloc _;refine g.out _ _ (f.o.s _ (b.o.trans d)) (fun _=>?_);exact Bv f h (Za (b.o.trans d)) _ (Za ⟨b.o.size,aN w _⟩) _ rfl _ rfl
end
theorem YH.at {w0 w:M}{a:Option Addr}{n c:Nat}{l:List YL}(h:YH w0 w (I a n c) l):Sx w a l:=by
 intro k s b;have q:=(iG.1 b).1;obtain⟨g,cap,e,t,_⟩:=X.form h (by omega);injection e with d f i;subst d f i;have j:=X.cellAt h (2*k) (by omega);have c1:=X.cellAt h (2*k+1) (by omega)
 have r:∀(l:List YL)(k:Nat)(s:YL),l[k]?=H s->(SN l)[2*k]?=H (Z U (s.1:Nat))/\(SN l)[2*k+1]?=H (Z U (s.2:Nat)):=by
  intro l
  induction l with
  |nil=>intro k s h;simp at h
  |cons x r m=>
   intro k s h
   cases k with
   |zero=>
    simp at h;subst h;exact⟨rfl,rfl⟩
   |succ k=>
    simp at h;have e:=m k s h;rw[show 2*(k+1)=2*k+2 from by omega];exact e
 obtain⟨o,p⟩:=r l k s b;refine⟨g,0,rfl,?_,?_⟩
 ·rw[z4,j,o]
 ·rw[z4,c1,p]
theorem YH.new {w0 w:M}{a:Option Addr}{n c:Nat}{l:List YL}(h:YH w0 w (I a n c) l):∀g o,a=H ⟨g,o,J⟩->w0.heap.size<=g/\g<w.heap.size:=by
 rintro g o rfl;rcases h.2 with⟨e,_⟩|⟨i,cap,b,e,d,f,_⟩
 ·cases e
 ·cases e
  exact⟨d,(iA.1 f).1⟩
def UV (m n:Nat)(b c d e:Rl):Prop:=∀x,x=b\/x=c\/x=d\/x=e->∀g o,x.a=H ⟨g,o,J⟩->m<=g/\g<n
theorem Sx.frS {w w':M}{S:Nat->Prop}{a:Option Addr}{l:List YL}(h:Sx w a l)(c:Fr S w w')(d:∀g o,a=H ⟨g,o,J⟩->g<w.heap.size->¬S g):Sx w' a l:=by
 intro k s i;obtain⟨g,o,e,f,j⟩:=h k s i;have b:=bL w _ f;exact⟨g,o,e,(c.cell (p:=⟨g,o+2*k,J⟩) b (d g o e b)).trans f,(c.cell (p:=⟨g,o+2*k+1,J⟩) b (d g o e b)).trans j⟩
theorem QD.frS {w w':M}{S:Nat->Prop}{A:WH}{b c d e:Rl}(h:QD w A b c d e)(f:Fr S w w')(i:∀x,x=b\/x=c\/x=d\/x=e->∀g o,x.a=H ⟨g,o,J⟩->g<w.heap.size->¬S g):QD w' A b c d e:=
 ⟨h.p0.frS f (i b (.inl rfl)),h.p1.frS f (i c (.inr (.inl rfl))),h.p2.frS f (i d (.inr (.inr (.inl rfl)))),h.p3.frS f (i e (.inr (.inr (.inr rfl)))),h.few⟩
def SP (b lo c:Nat)(d:List Nat)(a:Bool)(e f:Nat)(g:List Nat):WH:=⟨[Wu b lo c],Yi d 9999,[if a then(e,f)else(0,1000000000)],Yi g 999⟩
theorem TA {l:List Nat}{m:Nat}(h:l.length<=10):(Yi l m).length<=10:=by unfold Yi;split<;>simp[h]
theorem Mt {w0 W:M}(a:Option Addr)(c:Nat)(l:List Nat)(b:Nat)(h:Zw w0 a l)(j:l.length<=4000)(f:F0 w0 W):
  F E 174 #[I a l.length c,Z U (b:Nat)] W fun e w'=>(∃v,e=R v/\YH w0 w' v (Yi l b))/\F0 W w':=by
 have m:Zw W a l:=fun k x n=>by
  obtain⟨g,e,i⟩:=h k x n;exact⟨g,e,(f.cell (p:=⟨g,k,J⟩) (bL w0 _ i) (by simp)).trans i⟩
 refine(Iy W a c l b m j).mono ?_;rintro e w' ⟨⟨v,rfl,o⟩,d⟩;exact⟨⟨v,rfl,oS o f.size⟩,d⟩
theorem O2 (w:M)(nm:ByteArray)(rk K lo s:Nat)(L:Option Addr)(X:Nat)(i:List Nat)(f:Bool)(q r:Nat)(O:Option Addr)(cc:Nat)(j:List Nat)(dc ch:Bool)(pa:Option Addr)(pn pc:Nat)(ah:Nat)(hd:K<=6)(N0:lo<=s)(O0:s<1000000)(hm:Zw w L i)(P0:i.length<=10)(hc:Zw w O j)(Q0:j.length<=10):
  F E 114 #[Kh nm rk K lo s L i.length X f q r O j.length cc dc ch pa pn pc ah] w fun e w'=>(∃x0 x1 x2 x3 A,A=SP K lo s i f q r j/\e=R (T #[Xg x0 A.s0,Xg x1 A.s1,Xg x2 A.s2,Xg x3 A.s3])/\QD w' A x0 x1 x2 x3/\UV w.heap.size w'.heap.size x0 x1 x2 x3)/\F0 w w':=by
 have v0:V ((w.alloc (Sw nm rk K lo s L i.length X f q r O j.length cc dc ch pa pn pc ah)).heap[w.heap.size]?=H (Sw nm rk K lo s L i.length X f q r O j.length cc dc ch pa pn pc ah)):=aN w _;have A0:V (F0 w (w.alloc (Sw nm rk K lo s L i.length X f q r O j.length cc dc ch pa pn pc ah))):=(Fr.refl _ _).alloc _
 have j0:V (((w.alloc (Sw nm rk K lo s L i.length X f q r O j.length cc dc ch pa pn pc ah)).alloc (Y #[I J 0 0,I J 0 0,I J 0 0,I J 0 0] 215)).heap[w.heap.size+1]?=H (Y #[I J 0 0,I J 0 0,I J 0 0,I J 0 0] 215)):=by
  have e:=aN (w.alloc (Sw nm rk K lo s L i.length X f q r O j.length cc dc ch pa pn pc ah)) (Y #[I J 0 0,I J 0 0,I J 0 0,I J 0 0] 215);rw[show(w.alloc (Sw nm rk K lo s L i.length X f q r O j.length cc dc ch pa pn pc ah)).heap.size=w.heap.size+1 from by simp]at e;exact e
 have l0:V (F0 (w.alloc (Sw nm rk K lo s L i.length X f q r O j.length cc dc ch pa pn pc ah)) ((w.alloc (Sw nm rk K lo s L i.length X f q r O j.length cc dc ch pa pn pc ah)).alloc (Y #[I J 0 0,I J 0 0,I J 0 0,I J 0 0] 215))):=(Fr.refl _ _).alloc _
 have B0:V (∀W,F E 173 #[Kh nm rk K lo s L i.length X f q r O j.length cc dc ch pa pn pc ah] W fun e w'=>e=R (T #[Z U ((Wu K lo s).1:Nat),Z U ((Wu K lo s).2:Nat)])/\F0 W w'):=fun W=>FC W nm rk K lo s L i.length X f q r O j.length cc dc ch pa pn pc ah hd N0 O0
 have HM:=Za hm;have HC:=Za hc;have C0:V (i.length<=10):=P0;have D0:V (j.length<=10):=Q0;unfold Sw at v0 A0 j0 l0;unfold Kh at B0 ⊢;clear hd N0 O0 hm P0 hc Q0;go_enter Tryz.func114,Tryz.ntmps114;go_upto_region 1 with fail;generalize w.alloc (Y #[.string nm,Z U rk,Z U K,Z U lo,Z U s,I L i.length X,C f,Z U q,Z U r,I O j.length cc,C dc,C ch,I pa pn pc,Z U ah] 120)=w0 at*;generalize w0.alloc (Y #[I J 0 0,I J 0 0,I J 0 0,I J 0 0] 215)=w1 at*;have a0:=Za (l0.o.whole v0.o (by simp));have l:=Za (A0.o.trans l0.o);obtain⟨P,hP⟩:∃P,w.heap.size=P:=⟨_,rfl⟩;have HP:=Za hP;rw[hP]at a0 j0;rw[hP];clear hP v0 A0 l0;obtain⟨n1,m0⟩:∃n,i.length=n:=⟨_,rfl⟩;obtain⟨n2,n0⟩:∃n,j.length=n:=⟨_,rfl⟩;have W0:=Za m0;have X0:=Za n0;rw[m0,n0]at a0 B0;rw[m0,n0];clear m0 n0;refine wp_region_held_drew (S:=fun W=>W.heap[P]?=H (Y #[.string nm,Z U rk,Z U K,Z U lo,Z U s,I L n1 X,C f,Z U q,Z U r,I O n2 cc,C dc,C ch,I pa pn pc,Z U ah] 120)) (by kernel_rfl) a0.o (fun hH=>?_);refine Uq 0 (v:=?v0z) ?y0z hH ?r0z
 case y0z=>
  rintro w m;obtain⟨c0,c1,c2,c3,c4,c5,c6,c7,c8,c9,b0,d0,f0,g0⟩:=ZX m;clear m;go_simp
  with_reducible rfl
 try go_frame
 refine Uq 3 (v:=?v3z) ?y3z hH ?r3z
 case y3z=>
  rintro w m;obtain⟨c0,c1,c2,c3,c4,c5,c6,c7,c8,c9,b0,d0,f0,g0⟩:=ZX m;clear m;go_simp
  with_reducible rfl
 try go_frame
 refine Uq 4 (v:=?v4z) ?y4z hH ?r4z
 case y4z=>
  rintro w m;obtain⟨c0,c1,c2,c3,c4,c5,c6,c7,c8,c9,b0,d0,f0,g0⟩:=ZX m;clear m;go_simp
  with_reducible rfl
 try go_frame
 refine Uq 6 (v:=?v6z) ?y6z hH ?r6z
 case y6z=>
  rintro w m;obtain⟨c0,c1,c2,c3,c4,c5,c6,c7,c8,c9,b0,d0,f0,g0⟩:=ZX m;clear m;go_simp
  with_reducible rfl
 try go_frame
 refine Uq 8 (v:=?v8z) ?y8z hH ?r8z
 case y8z=>
  rintro w m;obtain⟨c0,c1,c2,c3,c4,c5,c6,c7,c8,c9,b0,d0,f0,g0⟩:=ZX m;clear m;go_simp
  with_reducible rfl
 try go_frame
 refine Uq 9 (v:=?v9z) ?y9z hH ?r9z
 case y9z=>
  rintro w m;obtain⟨c0,c1,c2,c3,c4,c5,c6,c7,c8,c9,b0,d0,f0,g0⟩:=ZX m;clear m;go_simp
  with_reducible rfl
 try go_frame
 refine AW (w0:=w1) (c:=Wu K lo s) (l9:=Yi i 9999) (l14:=Yi j 999) ?hC ?hQ (Za (Fr.refl _ _).drew) _ rfl _ rfl
 case hC=>
  refine⟨fun W hf=>hf.whole a0.o (by simp),fun W _=>B0.o W,fun W hf=>?_,fun W hf=>?_⟩
  ·rw[<-W0.o]
   exact Mt L X i 9999 (HM.o.fr l.o (by simp)) (by have:=C0.o;omega) hf
  ·rw[<-X0.o]
   exact Mt O cc j 999 (HC.o.fr l.o (by simp)) (by have:=D0.o;omega) hf
 case hQ=>
  refine⟨fun _ _ d _ _ h=>by cases d<;>exact h,?_⟩;intro b3 v6 v9 b1 d1 w5 f1 R0 h6 h9 E0 G0 o0;obtain⟨y0,k0,e0⟩:=oL h6;obtain⟨y1,k1,e1⟩:=oL h9;obtain⟨y2,k2,e2⟩:=oL E0;obtain⟨y3,k3,e3⟩:=oL G0;subst e0 e1 e2 e3;have g1:P+1<w1.heap.size:=(iA.1 j0.o).1;have H0:=Za (o0.whole a0.o (by simp));have a:=Za (o0.whole j0.o (by simp));have S0:=Za (l.o.trans o0);have H6:=Za h6;have H9:=Za h9;have I0:=Za E0;have p0:=Za G0;have HH:=Za R0
  have Y0:b3≠P+1:=by omega
  have h1:P<=b3:=by omega
  have f6:w5.cell? ⟨P,6,J⟩=H (C f):=bC H0.o 6 _ rfl;have f7:w5.cell? ⟨P,7,J⟩=H (Z U q):=bC H0.o 7 _ rfl;have f8:w5.cell? ⟨P,8,J⟩=H (Z U r):=bC H0.o 8 _ rfl;clear h6 h9 E0 G0 R0 hH
  cases f with
  |false=>
   have r0:=bC a.o 0 _ rfl;have r1:=bC a.o 1 _ rfl;have r2:=bC a.o 2 _ rfl;have r3:=bC a.o 3 _ rfl;have z0:=bF a.o 0;have z1:=bF a.o 1;have z2:=bF a.o 2;have z3:=bF a.o 3;have q0:=bC HH.o 0 _ rfl;have q1:=bC HH.o 1 _ rfl;have q2:=bC HH.o 2 _ rfl;have q3:=bC HH.o 3 _ rfl;go_wp2_with fail;have t:=heap_setCell_same w5 (P+1) 0 _ _ (I y0 1 k0) a.o;have y:=heap_setCell_same _ (P+1) 1 _ _ (I y1 (Yi i 9999).length k1) t;have z:=heap_setCell_same _ (P+1) 2 _ _ (I y2 1 k2) y;have t4:=heap_setCell_same _ (P+1) 3 _ _ (I y3 (Yi j 999).length k3) z
   have D:w.heap.size<=P+1:=by have:=HP.o;omega
   have J0:=(((S0.o.setCell (p:=⟨P+1,0,J⟩) (N D) (I y0 1 k0)).setCell (p:=⟨P+1,1,J⟩) (N D) (I y1 (Yi i 9999).length k1)).setCell (p:=⟨P+1,2,J⟩) (N D) (I y2 1 k2)).setCell (p:=⟨P+1,3,J⟩) (N D) (I y3 (Yi j 999).length k3);have m:=bC t4 0 _ rfl;have s1:=bC t4 1 _ rfl;have s2:=bC t4 2 _ rfl;have s3:=bC t4 3 _ rfl;refine bodyPost_ret (v:=T #[I y0 1 k0,I y1 (Yi i 9999).length k1,I y2 1 k2,I y3 (Yi j 999).length k3]) (by simp[results,Tryz.results114,go_sem,m,s1,s2,s3]) rfl ⟨⟨⟨y0,k0⟩,⟨y1,k1⟩,⟨y2,k2⟩,⟨y3,k3⟩,_,rfl,rfl,?_,?_⟩,J0⟩
   ·refine⟨?_,?_,?_,?_,fun k=>?_⟩
    ·exact((((H6.o.set a.o).set t).set y).set z).at
    ·exact((((H9.o.set a.o).set t).set y).set z).at
    ·exact((((I0.o.set a.o).set t).set y).set z).at
    ·exact((((p0.o.set a.o).set t).set y).set z).at
    ·unfold SP WH.at
     split
     ·simp
     ·exact TA C0.o
     ·simp
     ·exact TA D0.o
   ·rintro x (rfl|rfl|rfl|rfl) g o e
    ·exact⟨G l.o.size (H6.o.new g o e).1,(YH.new ((((H6.o.set a.o).set t).set y).set z) g o e).2⟩
    ·exact⟨G l.o.size (H9.o.new g o e).1,(YH.new ((((H9.o.set a.o).set t).set y).set z) g o e).2⟩
    ·exact⟨G l.o.size (I0.o.new g o e).1,(YH.new ((((I0.o.set a.o).set t).set y).set z) g o e).2⟩
    ·exact⟨G l.o.size (p0.o.new g o e).1,(YH.new ((((p0.o.set a.o).set t).set y).set z) g o e).2⟩
  |true=>
   have K0:F0 w5 (w5.alloc (Y #[Z U (q:Nat),Z U (r:Nat)] 118)):=(Fr.refl _ _).alloc _;have HA:=Za K0;have T0:V (YH w1 (w5.alloc (Y #[Z U (q:Nat),Z U (r:Nat)] 118)) (I (H ⟨w5.heap.size,0,J⟩) 1 1) [(q,r)]):=YH.one (q,r) o0.size;have Q:=Za (K0.whole HH.o (by simp));have p2:=bC Q.o 2 _ rfl;have pz:=bF Q.o 2;clear K0;go_upto_region 4 with fail;generalize w5.alloc (Y #[Z U (q:Nat),Z U (r:Nat)] 118)=w6 at*;obtain⟨B,hB⟩:∃B,w5.heap.size=B:=⟨_,rfl⟩;rw[hB]at T0;rw[hB];clear hB p2 pz f6 f7 f8;have Z0:=Za (HA.o.whole a.o (by simp));have e7:=heap_setCell_same w6 b3 2 _ _ (I (H ⟨B,0,J⟩) 1 1) Q.o;have V0:Fr (fun k=>k=b3) w6 (w6.setCell ⟨b3,2,J⟩ (I (H ⟨B,0,J⟩) 1 1)):=(Fr.refl (fun k=>k=b3) w6).setCell (p:=⟨b3,2,J⟩) (z5 rfl) _;have b:=Za (V0.whole Z0.o (fun e=>Y0 e.symm));have a1:V (F0 w (w6.setCell ⟨b3,2,J⟩ (I (H ⟨B,0,J⟩) 1 1))):=(S0.o.trans HA.o).setCell (p:=⟨b3,2,J⟩) (N (by have:=HP.o;show _<=b3;omega)) _;have L0:=Za ((H6.o.fr HA.o).set (k:=2) (u:=I (H ⟨B,0,J⟩) 1 1) Q.o);have M0:=Za ((H9.o.fr HA.o).set (k:=2) (u:=I (H ⟨B,0,J⟩) 1 1) Q.o);have h0:=Za ((p0.o.fr HA.o).set (k:=2) (u:=I (H ⟨B,0,J⟩) 1 1) Q.o);have i0:=Za (T0.o.set (k:=2) (u:=I (H ⟨B,0,J⟩) 1 1) Q.o);have t0:=Za e7;clear e7 V0;generalize w6.setCell ⟨b3,2,J⟩ (I (H ⟨B,0,J⟩) 1 1)=w7 at*;have r0:=bC b.o 0 _ rfl;have r1:=bC b.o 1 _ rfl;have r2:=bC b.o 2 _ rfl;have r3:=bC b.o 3 _ rfl;have z0:=bF b.o 0;have z1:=bF b.o 1;have z2:=bF b.o 2;have z3:=bF b.o 3;have q0:=bC t0.o 0 _ rfl;have q1:=bC t0.o 1 _ rfl;have q2:=bC t0.o 2 _ rfl;have q3:=bC t0.o 3 _ rfl;go_wp2_with fail;have t:=heap_setCell_same w7 (P+1) 0 _ _ (I y0 1 k0) b.o
   have y:=heap_setCell_same _ (P+1) 1 _ _ (I y1 (Yi i 9999).length k1) t;have z:=heap_setCell_same _ (P+1) 2 _ _ (I (H ⟨B,0,J⟩) 1 1) y;have t4:=heap_setCell_same _ (P+1) 3 _ _ (I y3 (Yi j 999).length k3) z
   have D:w.heap.size<=P+1:=by have:=HP.o;omega
   have J0:=(((a1.o.setCell (p:=⟨P+1,0,J⟩) (N D) (I y0 1 k0)).setCell (p:=⟨P+1,1,J⟩) (N D) (I y1 (Yi i 9999).length k1)).setCell (p:=⟨P+1,2,J⟩) (N D) (I (H ⟨B,0,J⟩) 1 1)).setCell (p:=⟨P+1,3,J⟩) (N D) (I y3 (Yi j 999).length k3);have m:=bC t4 0 _ rfl;have s1:=bC t4 1 _ rfl;have s2:=bC t4 2 _ rfl;have s3:=bC t4 3 _ rfl;refine bodyPost_ret (v:=T #[I y0 1 k0,I y1 (Yi i 9999).length k1,I (H ⟨B,0,J⟩) 1 1,I y3 (Yi j 999).length k3]) (by simp[results,Tryz.results114,go_sem,m,s1,s2,s3]) rfl ⟨⟨⟨y0,k0⟩,⟨y1,k1⟩,⟨H ⟨B,0,J⟩,1⟩,⟨y3,k3⟩,_,rfl,rfl,?_,?_⟩,J0⟩
   ·refine⟨?_,?_,?_,?_,fun k=>?_⟩
    ·exact((((L0.o.set b.o).set t).set y).set z).at
    ·exact((((M0.o.set b.o).set t).set y).set z).at
    ·exact((((i0.o.set b.o).set t).set y).set z).at
    ·exact((((h0.o.set b.o).set t).set y).set z).at
    ·unfold SP WH.at
     split
     ·simp
     ·exact TA C0.o
     ·simp
     ·exact TA D0.o
   ·rintro x (rfl|rfl|rfl|rfl) g o e
    ·exact⟨G l.o.size (L0.o.new g o e).1,(YH.new ((((L0.o.set b.o).set t).set y).set z) g o e).2⟩
    ·exact⟨G l.o.size (M0.o.new g o e).1,(YH.new ((((M0.o.set b.o).set t).set y).set z) g o e).2⟩
    ·exact⟨G l.o.size (i0.o.new g o e).1,(YH.new ((((i0.o.set b.o).set t).set y).set z) g o e).2⟩
    ·exact⟨G l.o.size (h0.o.new g o e).1,(YH.new ((((h0.o.set b.o).set t).set y).set z) g o e).2⟩
