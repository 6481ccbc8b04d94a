import Derived.Test.YtccikgogjfbpeaaGreatDoorAe
open Option renaming some->I,none->J
open Go.Value renaming int->Y,string->O,pointer->E,slice->G,bool->M,bool->A
open Go.IntKind renaming i64->Z,u8->C,i64->y3
open Go.Proofs.Tryz renaming prog->U
open Go.Ending renaming returned->K,returned->L
open Go renaming Calls->H,World->z2
open Go.RowKit renaming Hid->D
open _root_.ByteArray renaming empty->R
open Nat renaming xor_assoc->z0,pow_le_pow_right->z3,zero_le->z4,mod_two_eq_zero_or_one->z6,testBit_two_pow_mul->z7,testBit_lt_two_pow->z8,eq_of_testBit_eq->y1,mod_eq_of_lt->y4,testBit_xor->y5,min_eq_left->y6,mul_assoc->y9,zero_add->x0,xor_comm->x1,pow_add->x2,le_refl->x4
open List renaming length_take->z1,getD->y2,any_cons->y7,all_cons->y8,range->x5
open Bool renaming true_and->z5,false_and->z9
open Or renaming inl->y0
open Go.Proofs.Tryz
namespace Go.Proofs.YtccikgogjfbpeaaGreatDoor
set_option linter.defProp false
set_option maxRecDepth 30000
set_option maxHeartbeats 8000000
open Go.RowKit
def Ot (n:Int):Nat->List Nat->Int
 |_,[]=> -1
 |i,x::r=>if(n==(x:Int))=true then(i:Int)else Ot n (i+1) r
def Cy (n:Int):∀(l:List Nat)(i:Nat),decide (0<=Ot n i l)=Us l n
 |[],_=>rfl
 |x::r,i=>by
  unfold Ot Us;rw[y7];by_cases h:n=(x:Int)
  ·have a:=h.symm;simp[h]
  have a:¬(x:Int)=n:=fun e=>h e.symm
  have e:(n==(x:Int))=false:=by simpa using h
  rw[e,if_neg y,Cy n r (i+1)];simp[a,Us]
def UG (s:ByteArray):Nat->List ByteArray->Int
 |_,[]=> -1
 |i,x::r=>if(s.toList==x.toList)=true then(i:Int)else UG s (i+1) r
def Ny (l:List ByteArray)(s:ByteArray):Bool:=l.any (fun x=>s.toList==x.toList)
def Cz (s:ByteArray):∀(l:List ByteArray)(i:Nat),decide (0<=UG s i l)=Ny l s
 |[],_=>rfl
 |x::r,i=>by
  unfold UG Ny;rw[y7]
  cases h:(s.toList==x.toList)with
  |true=>simp
  |false=>
   rw[if_neg y,Cz s r (i+1)];simp[Ny]
def Zv (w:z2)(a:Option Addr)(l:List Nat):Prop:=∀k x,l[k]?=I x->∃g,a=I ⟨g,0,J⟩/\w.cell? ⟨g,k,J⟩=I (Y Z (x:Nat))
def Zv.of {w b c a l}(h:w.ownsRow b 3 1 (G a l.length c) l.length (Zg l)):Zv w a l:=by
 intro k x d;have j:=(iG.1 d).1;obtain⟨g,m,e,_,_⟩:=h.form z;injection e with i n o;subst i;refine⟨g,rfl,?_⟩;have f:=h.cells (g:=g) rfl k (Y Z (x:Nat)) (by unfold Zg;rw[List.getElem?_map,d];rfl);rw[Yf,x0]at f;exact f
def ZX (w:z2)(a:Option Addr)(l:List ByteArray):Prop:=∀k s,l[k]?=I s->∃g o,a=I ⟨g,o,J⟩/\w.cell? ⟨g,o+k,J⟩=I (O s)
def ZX.fr {w w' S a l}(h:ZX w a l)(d:Fr S w w')(e:∀g o,a=I ⟨g,o,J⟩->¬S g:=by simp):ZX w' a l:=by
 intro k s f;obtain⟨g,o,b,c⟩:=h k s f;exact⟨g,o,b,(d.cell (p:=⟨g,o+k,J⟩) (bL w _ c) (e g o b)).trans c⟩
def EP (w a c l)(n:Int)(h:Zv w a l)(t:l.length<=4000):
  H U 241 #[G a l.length c,Y Z n] w fun e u=>e=K (Y Z (Ot n 0 l))/\u=w:=by
 have v:=o h;obtain⟨m,j⟩:=ad l.length;have p:=o j;rw[j]at t ⊢;go_enter func241,ntmps241;go_wp2
 go_loop [5,8] (fun _ i=>∃k:Nat,k<=m/\i=Y Z k/\D (Ot n 0 l=Ot n k (l.drop k))) (fun _ i=>m-(intOf i).toNat)
 case atStart=>exact⟨0,z4 _,rfl,rfl⟩
 obtain⟨k,B,rfl,d⟩:=hrel;by_cases y:k<m
 ·have f:=af k m;obtain⟨x,q⟩:∃x,l[k]?=I x:=⟨_,gE (aj p.o)⟩;obtain⟨g,rfl,C⟩:=v.o k x q
  have r:D (l.drop k=x::l.drop (k+1)):=by
   obtain⟨z,A⟩:=iG.1 q
   show _=_
   rw[dC z,A]
  cases s:(n==(x:Int))with
  |true=>
   have b:D (Ot n 0 l=(k:Int)):=by show _=_;rw[d.o,r.o];simp only[Ot];rw[if_pos s]
   go_wp2;go_ret;exact⟨ZQ b.o.symm,rfl⟩
  |false=>
   have b:D (Ot n 0 l=Ot n (k+1) (l.drop (k+1))):=by show _=_;rw[d.o,r.o];simp only[Ot];rw[if_neg (by simp[s])]
   go_wp2;exact⟨⟨k+1,az,aE,b⟩,by simp[intOf];omega⟩
 have f:=ai k m
 have b:D (Ot n 0 l= -1):=by show _=_;rw[d.o,dL (aj p.o)];rfl
 go_wp2;go_ret;exact⟨ZQ b.o.symm,rfl⟩
def Kv (w a c l)(n:Int)(h:Zv w a l)(f:l.length<=4000):
  H U 207 #[G a l.length c,Y Z n] w fun e g=>e=K (M (Us l n))/\g=w:=by
 have i:=o (EP w a c l n h f);have j:=o (Cy n l 0);generalize Ot n 0 l=x at*;go_enter func207,ntmps207;go_wp2_with fail;refine i.o.mono ?_;rintro e k ⟨rfl,d⟩;replace d:=d.symm;subst d;go_wp2;go_ret;exact⟨congrArg (fun b=>L (A b)) j.o,rfl⟩
def M4 (w a c l s)(h:ZX w a l)(j:l.length<=maxLen):
  H U 66 #[G a l.length c,O s] w fun e u=>e=K (Y Z (UG s 0 l))/\u=w:=by
 have v:=Za h;unfold maxLen at j;obtain⟨m,n⟩:=ad l.length;have p:=Za n;rw[n]at j ⊢;have y:(m:Int)<=9223372036854775807:=az;go_enter func66,ntmps66;go_wp2
 go_loop [5,8] (fun _ i=>∃k:Nat,k<=m/\i=Y Z k/\D (UG s 0 l=UG s k (l.drop k))) (fun _ i=>m-(intOf i).toNat)
 case atStart=>exact⟨0,z4 _,rfl,rfl⟩
 obtain⟨k,C,rfl,d⟩:=hrel;by_cases z:k<m
 ·have f:=af k m;obtain⟨x,q⟩:∃x,l[k]?=I x:=⟨_,gE (aj p.o)⟩;obtain⟨g,o,rfl,E⟩:=v.o k x q
  have r:D (l.drop k=x::l.drop (k+1)):=by
   obtain⟨A,B⟩:=iG.1 q
   show _=_
   rw[dC A,B]
  cases t:(s.toList==x.toList)with
  |true=>
   have b:D (UG s 0 l=(k:Int)):=by show _=_;rw[d.o,r.o];simp only[UG];rw[if_pos t]
   go_wp2;go_ret;exact⟨ZQ b.o.symm,rfl⟩
  |false=>
   have b:D (UG s 0 l=UG s (k+1) (l.drop (k+1))):=by show _=_;rw[d.o,r.o];simp only[UG];rw[if_neg (by simp[t])]
   go_wp2;exact⟨⟨k+1,az,aE,b⟩,by simp[intOf];omega⟩
 have f:=ai k m
 have b:D (UG s 0 l= -1):=by show _=_;rw[d.o,dL (aj p.o)];rfl
 go_wp2;go_ret;exact⟨ZQ b.o.symm,rfl⟩
def Kw (w a c l s)(h:ZX w a l)(f:l.length<=maxLen):
  H U 38 #[G a l.length c,O s] w fun e g=>e=K (M (Ny l s))/\g=w:=by
 have i:=o (M4 w a c l s h f);have j:=o (Cz s l 0);generalize UG s 0 l=x at*;go_enter func38,ntmps38;go_wp2_with fail;refine i.o.mono ?_;rintro e k ⟨rfl,d⟩;replace d:=d.symm;subst d;go_wp2;go_ret;exact⟨congrArg (fun b=>L (A b)) j.o,rfl⟩
def Af (w)(n m:Int):
  H U 111 #[Y Z n,Y Z m] w fun e a=>e=K (M (decide (0<=n)&&decide (n<=m)))/\a=w:=by
 by_cases c:0<=n
 ·by_cases d:n<=m
  all_goals
   go_enter func111,ntmps111;go_wp2;go_ret;exact⟨congrArg (fun b=>L (A b)) (by simp[c,d]),rfl⟩
 go_enter func111,ntmps111;go_wp2;go_ret;exact⟨congrArg (fun b=>L (A b)) aF,rfl⟩
def YE (s:ByteArray)(k:Nat):Bool:=(s.data.toList.drop k).all (fun c=>decide (48<=c.toNat)&&decide (c.toNat<=57))
def PK (s k)(h:k<s.size):YE s k=(iD (Zy s k)&&YE s (k+1)):=by
 unfold YE
 have a:k<s.data.toList.length:=by simpa using h
 rw[dC a,y8]
 congr 1
 unfold iD Zy;rw[gD,gE a];simp only[Option.getD_some];rw[<-Bool.decide_and]
 congr 1
 apply propext;omega
def Na (s k)(h:s.size<=k):YE s k=true:=by
 unfold YE;rw[dL (by simpa using h)];rfl
def TS (s w)(x:s.size<=3000):
  H U 164 #[O s] w fun e h=>e=K (M (YE s 0))/\F0 w h:=by
 have l:=fun w=>Lib.run_convert_string_bytes (P:=U) w 9 50 5 s underlying9 underlying50 underlying5
 go_enter func164,ntmps164;go_wp2_with fail;have p:D (F0 w (Lib.bytesWorld w 5 s)):=XM _ _ _
 have a:∀j,j<s.size->(Lib.bytesWorld w 5 s).cell? ⟨w.heap.size,j,J⟩=I (Y C (Zy s j)):=fun j r=>by
  have:=Lib.bytesWorld_cell w 5 s j r
  simpa[Zy]using this
 have t:=o a;clear a l;generalize Lib.bytesWorld w 5 s=W at*;generalize grownCap _ _ _ _=u at*
 go_loop [4,8] (fun _ i=>∃k:Nat,k<=s.size/\i=Y Z k/\D (YE s 0=YE s k)) (fun _ i=>s.size-(intOf i).toNat)
 case atStart=>exact⟨0,z4 _,rfl,rfl⟩
 obtain⟨k,y,rfl,m⟩:=hrel;by_cases d:k<s.size
 ·have z:=t.o k d;have n:=af k s.size;have f:=o (PK s k d)
  have g:D (∀W,H U 188 #[Y C (Zy s k)] W fun e h=>e=K (M (iD (Zy s k)))/\h=W):=fun W=>Tw _ W
  generalize Zy s k=b at*
  cases q:iD b with
  |true=>
   rw[q]at g f;go_wp2_with fail;refine(g.o _).mono ?_;rintro e v ⟨rfl,c⟩;replace c:=c.symm;subst c;go_wp2;exact⟨⟨k+1,az,aE,by show _=_;rw[m.o,f.o,z5]⟩,by simp[intOf];omega⟩
  |false=>
   rw[q]at g f;go_wp2_with fail;refine(g.o _).mono ?_;rintro e v ⟨rfl,c⟩;replace c:=c.symm;subst c;go_wp2;go_ret;exact⟨congrArg (fun b=>L (A b)) (by rw[m.o,f.o,z9]),p.o⟩
 have n:=ai k s.size;go_wp2;go_ret;exact⟨congrArg (fun b=>L (A b)) (by rw[m.o,Na s k az]),p.o⟩
def Ag (s w)(h:s.size<=maxLen):
  H U 110 #[O s] w fun e i=>e=K (M (X0 s))/\F0 w i:=by
 have c:X0 s=(decide (6<=s.size)&&(decide (s.size<=19)&&YE s 0)):=rfl;unfold maxLen at h;have l:(s.size:Int)<=9223372036854775807:=z;by_cases d:6<=s.size
 ·have j:(6:Int)<=(s.size:Int):=z;by_cases a:s.size<=19
  ·have f:(s.size:Int)<=19:=z
   have m:D (∀W,H U 164 #[O s] W fun e i=>e=K (M (YE s 0))/\F0 W i):=fun W=>TS s W z
   have g:D (X0 s=YE s 0):=by show _=_;rw[c];simp[d,a]
   clear h c d a;go_enter func110,ntmps110;go_wp2_with fail;refine(m.o _).mono ?_;rintro e p ⟨rfl,k⟩;have n:=o k;clear k;go_wp2;go_ret;exact⟨congrArg (fun b=>L (A b)) g.o.symm,n.o⟩
  have f:¬(s.size:Int)<=19:=z
  have g:D (X0 s=false):=by show _=_;rw[c];simp[a]
  clear h c d a;go_enter func110,ntmps110;go_wp2;go_ret;exact⟨congrArg (fun b=>L (A b)) g.o.symm,Fr.refl _ _⟩
 have j:¬(6:Int)<=(s.size:Int):=z
 have g:D (X0 s=false):=by show _=_;rw[c];simp[d]
 clear h c d;go_enter func110,ntmps110;go_wp2;go_ret;exact⟨congrArg (fun b=>L (A b)) g.o.symm,Zo⟩
def UK (b:Nat)(p:XQ)(a:Nat->Bool)(k:Nat)(done:Bool)(o:Nat×ByteArray×ByteArray):Obj:=
 .cells #[E (I ⟨b,0,J⟩),O p.pan,Y Z p.mcc,Y Z p.am,Y Z p.cur,M (a 0),M (a 1),M (a 2),M (a 3),M (a 4),M (a 5),Y Z (k:Nat),M done,Y Z (o.1:Nat),O o.2.1,O o.2.2] 127
def CA {w:z2}{Q b k p c d o}(h:w.heap[Q]?=I (UK b p c k d o))(a):(w.setCell ⟨Q,11,J⟩ (Y Z (a:Nat))).heap[Q]?=I (UK b p c a d o):=by
 have e:=heap_setCell_same w Q 11 _ _ (Y Z (a:Nat)) h
 simpa[UK]using e
def si {w:z2}{Q a k p b d o}(h:w.heap[Q]?=I (UK a p b k d o)):(w.setCell ⟨Q,12,J⟩ (M true)).heap[Q]?=I (UK a p b k true o):=by
 have e:=heap_setCell_same w Q 12 _ _ (M true) h
 simpa[UK]using e
def sj {w:z2}{Q b k p c d o}(h:w.heap[Q]?=I (UK b p c k d o))(a):(((w.setCell ⟨Q,13,J⟩ (Y Z (a.1:Nat))).setCell ⟨Q,14,J⟩ (O a.2.1)).setCell ⟨Q,15,J⟩ (O a.2.2)).heap[Q]?=I (UK b p c k d a):=by
 have e:=heap_setCell_same _ Q 15 _ _ (O a.2.2) (heap_setCell_same _ Q 14 _ _ (O a.2.1) (heap_setCell_same w Q 13 _ _ (Y Z (a.1:Nat)) h))
 simpa[UK]using e
def Ki (b:Nat)(a:Option Addr)(n c d e:Nat):Value:=.agg #[Y C (b:Nat),G a n c,Y Z (d:Nat),Y Z (e:Nat)]
def Gx (w Q l k p m o v a n c x d b)(h:w.heap[Q]?=I (UK l p m k false o))(A:k<=100000)(B:d<=100000):
  H U 206 #[E (I ⟨Q,0,J⟩),Ki v a n c x d,M b] w fun e y=>e=K (.tuple #[])/\y.heap[Q]?=I (UK l p m (if b then k+1 else k+d) false o)/\Fr (fun j=>j=Q) w y:=by
 obtain⟨q,z⟩:=WM w (.cells #[Y C (v:Nat),G a n c,Y Z (x:Nat),Y Z (d:Nat)] 208);have D:=(iA.1 h).1;have f:=q.o.whole h;have g:Q≠w.heap.size:=az;unfold Ki
 cases b with
 |true=>
  go_enter func206,ntmps206;go_upto_region 2 with fail;generalize w.alloc _=W at*;have r:=Za f;have s:=Zc f 11;have t:=bF f 11;have u:=Zc z.o 3;obtain⟨X,i⟩:=ad w.heap.size;rw[i]at u g;rw[i];go_wp2
  go_end0
  refine⟨rfl,?_,(q.o.mono).trans ((Fr.refl (fun j=>j=Q) W).setCell (p:=⟨Q,11,J⟩) (y0 rfl) _)⟩;have e:=CA r.o (k+1)
  simpa using e
 |false=>
  go_enter func206,ntmps206;go_upto_region 3 with fail;generalize w.alloc _=W at*;have r:=Za f;have s:=Zc f 11;have t:=bF f 11;have u:=Zc z.o 3;obtain⟨X,i⟩:=ad w.heap.size;rw[i]at u g;rw[i]
  go_region
  go_wp2
  go_end0
  refine⟨rfl,?_,((q.o.mono).trans ((Fr.refl (fun j=>j=Q) W).setCell (p:=⟨Q,11,J⟩) (y0 rfl) _)).drew⟩;have e:=CA r.o (k+d);exact(by simpa using e:(W.setCell ⟨Q,11,J⟩ (Y Z ((k:Int)+(d:Int)))).heap[Q]?=I (UK l p m (k+d) false o))
def Zv.fr {w w' S a l}(h:Zv w a l)(d:Fr S w w')(e:∀g,a=I ⟨g,0,J⟩->¬S g:=by simp):Zv w' a l:=by
 intro k x f;obtain⟨g,b,c⟩:=h k x f;exact⟨g,b,(d.cell (p:=⟨g,k,J⟩) (bL w _ c) (e g b)).trans c⟩
def yT (F x w Q s k p t o m a l c n g)(h:w.heap[Q]?=I (UK s p t k false o))(hk:k<=100000)(hs:g<=100000)(hi:Zv w a l)(hl:l.length<=4000)(hF:F=165/\x=p.mcc\/F=167/\x=p.cur):
  H U F #[E (I ⟨Q,0,J⟩),Ki m a l.length c n g] w fun e f=>e=K (.tuple #[])/\f.heap[Q]?=I (UK s p t (if Us l x then k+1 else k+g) false o)/\Fr (fun j=>j=Q) w f:=by
 obtain⟨W,eW,B,S⟩:=pP w (.cells #[Y C (m:Nat),G a l.length c,Y Z (n:Nat),Y Z (g:Nat)] 208);have hQ:=(iA.1 h).1;have L:=B.o.whole h;have u:Q≠w.heap.size:=az;have HI:=Za (hi.fr B.o);unfold Ki;obtain⟨r,v⟩:=ad (if Us l x=true then k+1 else k+g);have N:=Za v;rw[v];obtain⟨X,y⟩:∃X,D (w.heap.size=X):=⟨_,rfl⟩;rw[y.o]at S u
 have q:D (∀d,Fr (fun j=>j=Q) W d->(∃r,d.heap[Q]?=I (UK s p t r false o))->d.cell? ⟨X,0,J⟩=I (Y C (m:Nat))/\d.cell? ⟨X,1,J⟩=I (G a l.length c)/\d.cell? ⟨X,2,J⟩=I (Y Z (n:Nat))/\d.cell? ⟨X,3,J⟩=I (Y Z (g:Nat))/\d.cell? ⟨Q,2,J⟩=I (Y Z p.mcc)/\d.cell? ⟨Q,4,J⟩=I (Y Z p.cur)):=by
  intro d i ⟨r,V⟩;have A:=i.whole S.o (fun e=>u e.symm);exact⟨Zc A 0,Zc A 1,Zc A 2,Zc A 3,Zc V 2,Zc V 4⟩
 have HC:D (∀d,D (F0 W d)->H U 207 #[G a l.length c,Y Z x] d fun e f=>e=K (M (Us l x))/\D (F0 W f)/\f.cell? ⟨X,0,J⟩=I (Y C (m:Nat))/\f.cell? ⟨X,1,J⟩=I (G a l.length c)/\f.cell? ⟨X,2,J⟩=I (Y Z (n:Nat))/\f.cell? ⟨X,3,J⟩=I (Y Z (g:Nat))/\f.cell? ⟨Q,2,J⟩=I (Y Z p.mcc)/\f.cell? ⟨Q,4,J⟩=I (Y Z p.cur)):=by
  intro d i;refine(Kv d a c l x (HI.o.fr i.o) hl).mono ?_;rintro e f ⟨O,rfl⟩;exact⟨O,i,q.o _ (i.o.mono) ⟨k,i.o.whole L⟩⟩
 have HG:D (∀d,D (F0 W d)->H U 206 #[E (I ⟨Q,0,J⟩),.agg #[Y C (m:Nat),G a l.length c,Y Z (n:Nat),Y Z (g:Nat)],M (Us l x)] d fun e f=>e=K (.tuple #[])/\D (f.heap[Q]?=I (UK s p t r false o)/\Fr (fun j=>j=Q) W f)/\f.cell? ⟨X,0,J⟩=I (Y C (m:Nat))/\f.cell? ⟨X,1,J⟩=I (G a l.length c)/\f.cell? ⟨X,2,J⟩=I (Y Z (n:Nat))/\f.cell? ⟨X,3,J⟩=I (Y Z (g:Nat))/\f.cell? ⟨Q,2,J⟩=I (Y Z p.mcc)/\f.cell? ⟨Q,4,J⟩=I (Y Z p.cur)):=by
  intro d i;refine(Gx d Q s k p t o m a l.length c n g (Us l x) (i.o.whole L) hk hs).mono ?_;rintro e f ⟨O,P,h3⟩;rw[N.o]at P;have h4:=(i.o.mono (T:=fun j=>j=Q)).trans h3;exact⟨O,⟨P,h4⟩,q.o _ h4 ⟨_,P⟩⟩
 have hS:=q.o W Zo ⟨k,L⟩;have a0:D (F0 W W.drew):=Zo.drew;generalize Us l x=b at*;rcases hF with⟨rfl,rfl⟩|⟨rfl,rfl⟩
 case' inl=>go_enter func165,ntmps165
 case' inr=>go_enter func167,ntmps167
 all_goals
  go_upto_region 1 with fail;rw[eW.o,y.o]
  go_region_held3 (fun d=>d.cell? ⟨X,0,J⟩=I (Y C (m:Nat))/\d.cell? ⟨X,1,J⟩=I (G a l.length c)/\d.cell? ⟨X,2,J⟩=I (Y Z (n:Nat))/\d.cell? ⟨X,3,J⟩=I (Y Z (g:Nat))/\d.cell? ⟨Q,2,J⟩=I (Y Z p.mcc)/\d.cell? ⟨Q,4,J⟩=I (Y Z p.cur)) (first|assumption|go_keep) (first
   |(go_at_call 207;refine(HC.o _ aG).mono ?_;rintro e w7 ⟨rfl,b0,R⟩)
   |(go_at_call 206;refine(HG.o _ aG).mono ?_;rintro e w7 ⟨rfl,z,R⟩))
  go_wp2
  go_end0
  exact⟨rfl,z.o.1,(B.o.mono).trans z.o.2⟩
def Vf {P l Q e S}(i){f d b a w}(g:zP l i=I f)(j:Region.noSelect l.toArray=true)(k:Region.free e l.toArray b i=true)(m:(Region.ready e l.toArray b).contains i=true)(n:∀c a w,Q (.panic c) (a.put f.dst undef) w->Q (.panic c) a w)(o:Region.wanted f (yielded l.toArray a.tmps)=false)(p:S w)(h:wpAnyH P e l.toArray Q S d (b.setIfInBounds i true) (a.put f.dst undef) w):wpAnyH P e l.toArray Q S (d+1) b a w:=
 wpAnyH_take ((J4 l i).trans g) j k m n (Or.inr ⟨o,rfl⟩) p h
def Kx (w Q t k p x o q a f n c r l)(h:w.heap[Q]?=I (UK t p x k false o))(hk:k<=100000)(hs:l<=100000)(hi:Zv w a [f,n]):
  H U 166 #[E (I ⟨Q,0,J⟩),Ki q a 2 c r l] w fun e d=>e=K (.tuple #[])/\d.heap[Q]?=I (UK t p x (if decide ((f:Int)<=p.am)&&decide (p.am<=(n:Int))then k+1 else k+l) false o)/\Fr (fun j=>j=Q) w d:=by
 obtain⟨P,HX⟩:=WM w (.cells #[Y C (q:Nat),G a 2 c,Y Z (r:Nat),Y Z (l:Nat)] 208);have hQ:=(iA.1 h).1;have H1:=P.o.whole h;have y:Q≠w.heap.size:=az;have z:=hi.fr P.o;obtain⟨g,rfl,m⟩:=z 0 f rfl;obtain⟨g',A,a0⟩:=z 1 n rfl;injection A with A;injection A with A _ _;subst A;unfold Ki;obtain⟨u,B⟩:=ad (if(decide ((f:Int)<=p.am)&&decide (p.am<=(n:Int)))=true then k+1 else k+l);have b0:=Za B;rw[B];go_enter func166,ntmps166;go_upto_region 1 with fail;generalize w.alloc _=W at*;obtain⟨X,hX⟩:=ad w.heap.size;rw[hX]at HX y;rw[hX];have F:=bL W _ m
 have L:g≠Q:=by
  intro e;subst e;rw[show W.cell? ⟨g,0,J⟩=I (E (I ⟨t,0,J⟩))from Zc H1 0]at m
  cases m
 have N:D (∀b,Fr (fun j=>j=Q) W b->(∃u,b.heap[Q]?=I (UK t p x u false o))->b.cell? ⟨X,0,J⟩=I (Y C (q:Nat))/\b.cell? ⟨X,1,J⟩=I (G (I ⟨g,0,J⟩) 2 c)/\b.cell? ⟨X,2,J⟩=I (Y Z (r:Nat))/\b.cell? ⟨X,3,J⟩=I (Y Z (l:Nat))/\b.cell? ⟨Q,3,J⟩=I (Y Z p.am)/\b.cell? ⟨g,0,J⟩=I (Y Z (f:Nat))/\b.cell? ⟨g,1,J⟩=I (Y Z (n:Nat))):=by
  intro b v ⟨u,hq⟩;have R:=v.whole HX.o (fun e=>y e.symm);exact⟨Zc R 0,Zc R 1,Zc R 2,Zc R 3,Zc hq 3,(v.cell (p:=⟨g,0,J⟩) F L).trans m,(v.cell (p:=⟨g,1,J⟩) F L).trans a0⟩
 have V:D (∀b,D (F0 W b)->H U 206 #[E (I ⟨Q,0,J⟩),.agg #[Y C (q:Nat),G (I ⟨g,0,J⟩) 2 c,Y Z (r:Nat),Y Z (l:Nat)],M (decide ((f:Int)<=p.am)&&decide (p.am<=(n:Int)))] b fun e d=>e=K (.tuple #[])/\D (d.heap[Q]?=I (UK t p x u false o)/\Fr (fun j=>j=Q) W d)/\d.cell? ⟨X,0,J⟩=I (Y C (q:Nat))/\d.cell? ⟨X,1,J⟩=I (G (I ⟨g,0,J⟩) 2 c)/\d.cell? ⟨X,2,J⟩=I (Y Z (r:Nat))/\d.cell? ⟨X,3,J⟩=I (Y Z (l:Nat))/\d.cell? ⟨Q,3,J⟩=I (Y Z p.am)/\d.cell? ⟨g,0,J⟩=I (Y Z (f:Nat))/\d.cell? ⟨g,1,J⟩=I (Y Z (n:Nat))):=by
  intro b v;refine(Gx b Q t k p x o q (I ⟨g,0,J⟩) 2 c r l _ (v.o.whole H1) hk hs).mono ?_;rintro e d ⟨he,h2,h3⟩;rw[b0.o]at h2;have h4:=(v.o.mono (T:=fun j=>j=Q)).trans h3;exact⟨he,⟨h2,h4⟩,N.o _ h4 ⟨_,h2⟩⟩
 have hS:=N.o W Zo ⟨k,H1⟩;have O:D (F0 W W.drew):=Zo.drew;refine wp_region_held_drew (S:=fun b=>b.cell? ⟨X,0,J⟩=I (Y C (q:Nat))/\b.cell? ⟨X,1,J⟩=I (G (I ⟨g,0,J⟩) 2 c)/\b.cell? ⟨X,2,J⟩=I (Y Z (r:Nat))/\b.cell? ⟨X,3,J⟩=I (Y Z (l:Nat))/\b.cell? ⟨Q,3,J⟩=I (Y Z p.am)/\b.cell? ⟨g,0,J⟩=I (Y Z (f:Nat))/\b.cell? ⟨g,1,J⟩=I (Y Z (n:Nat))) aC hS (fun hH=>?_)
 iterate 11 (refine Yy 0 hH ?_;try go_frame)
 by_cases h0:(f:Int)<=p.am
 ·rw[show decide ((f:Int)<=p.am)=true from decide_eq_true h0,z5]at V
  iterate 13 (refine Yy 0 hH ?_;try go_frame)
  refine WI 24 (fun K2 hK=>?_);go_simp;refine(V.o _ O).mono ?_;rintro e w7 ⟨rfl,i,s⟩;refine hK.out _ _ s (fun _=>?_)
  try go_frame
  refine wpAnyH_done aC ?_ _;go_wp2
  go_end0
  exact⟨rfl,i.o.1,(P.o.mono).trans i.o.2⟩
 rw[show decide ((f:Int)<=p.am)=false from decide_eq_false h0,z9]at V
 iterate 13 ((first|refine Yy 0 hH ?_|refine tN 0 hH ?_);try go_frame)
 refine WI 24 (fun K2 hK=>?_);go_simp;refine(V.o _ O).mono ?_;rintro e w7 ⟨rfl,i,s⟩;refine hK.out _ _ s (fun _=>?_)
 try go_frame
 refine wpAnyH_done aC ?_ _;go_wp2
 go_end0
 exact⟨rfl,i.o.1,(P.o.mono).trans i.o.2⟩
def PL (w Q r k p s o g b c)(h:w.heap[Q]?=I (UK r p s k false o))(t:b.size<=3000)(u:c.size<=3000):
  H U 208 #[E (I ⟨Q,0,J⟩),Y Z (g:Nat),O b,O c] w fun e d=>e=K (.tuple #[])/\d.heap[Q]?=I (UK r p s k true (g,b,c))/\Fr (fun j=>j=Q) w d:=by
 have v:=Zc h 12;have x:=bF h 12
 have i:D (∀W,H U 96 #[O b] W fun e d=>e=K (O b)/\F0 W d):=fun W=>Vd b W t
 have l:D (∀W,H U 96 #[O c] W fun e d=>e=K (O c)/\F0 W d):=fun W=>Vd c W u
 have y:=Za (si h);have z:D (Fr (fun j=>j=Q) w (w.setCell ⟨Q,12,J⟩ (M true))):=(Fr.refl (fun j=>j=Q) w).setCell (p:=⟨Q,12,J⟩) (y0 rfl) _;go_enter func208,ntmps208;go_wp2_with fail;generalize w.setCell ⟨Q,12,J⟩ (M true)=W at*;refine(i.o _).mono ?_;rintro e P ⟨rfl,m⟩;have n:=Za m;go_wp2_with fail;refine(l.o _).mono ?_;rintro e A ⟨rfl,q⟩;have f:=Za (n.o.trans q);have a:=Za (f.o.whole y.o);have B:=Zc a.o 13;have C:=Zc a.o 14;have F:=Zc a.o 15;have G:=bF a.o;go_wp2
 go_end0
 refine⟨rfl,sj a.o (g,b,c),?_⟩;exact(z.o.trans (f.o.mono)).trans ((((Fr.refl (fun j=>j=Q) A).setCell (p:=⟨Q,13,J⟩) (y0 rfl) _).setCell (p:=⟨Q,14,J⟩) (y0 rfl) _).setCell (p:=⟨Q,15,J⟩) (y0 rfl) _)
def M5 (w Q b k p d o f a n c g i)(h:w.heap[Q]?=I (UK b p d k false o)):
  H U 171 #[E (I ⟨Q,0,J⟩),Ki f a n c g i] w fun e l=>e=K (.tuple #[])/\l.heap[Q]?=I (UK b p d k true (2,R,R))/\Fr (fun j=>j=Q) w l:=by
 have m:=(WM w (.cells #[Y C (f:Nat),G a n c,Y Z (g:Nat),Y Z (i:Nat)] 208)).1;have q:=Za (PL _ Q b k p d o 2 R R (m.o.whole h) aB aB);unfold Ki;go_enter func171,ntmps171;go_wp2_with fail;refine q.o.mono ?_;rintro e v ⟨rfl,r,s⟩;have t:=Za r;have u:=Za ((m.o.mono).trans s);go_wp2
 go_end0
 exact⟨rfl,t.o,u.o⟩
structure Nz (w:z2)(TT Q:Nat)(ru:Nat)(nm:ByteArray)(g m nc:Nat):Prop where
 c1:w.cell? ⟨TT,1,J⟩=I (G (I ⟨g,0,J⟩) m nc)
 lt:ru<m
 ce:w.cell? ⟨g,ru,J⟩=I (O nm)
 sz:nm.size<=3000
 nt:TT≠Q
 ng:g≠Q
def Nz.fr {w w' a Q b c g m d}(h:Nz w a Q b c g m d)(e:Fr (fun j=>j=Q) w w'):Nz w' a Q b c g m d:=
 ⟨(e.cell (p:=⟨a,1,J⟩) (bL w _ h.c1) h.nt).trans h.c1,h.lt,(e.cell (p:=⟨g,b,J⟩) (bL w _ h.ce) h.ng).trans h.ce,h.sz,h.nt,h.ng⟩
def It (w:z2)(Q f k:Nat)(p:XQ)(s:Nat->Bool)(o:Nat×ByteArray×ByteArray)(A:Nat)(a:Option Addr)(n c i B:Nat)(q:ByteArray)(g m x:Nat)(h:w.heap[Q]?=I (UK f p s k false o))(F:Nz w f Q i q g m x):
  H U 168 #[E (I ⟨Q,0,J⟩),Ki A a n c i B] w fun e l=>e=K (.tuple #[])/\l.heap[Q]?=I (UK f p s k true (3,q,R))/\Fr (fun j=>j=Q) w l:=by
 obtain⟨y,L⟩:=WM w (.cells #[Y C (A:Nat),G a n c,Y Z (i:Nat),Y Z (B:Nat)] 208);have hQ:=(iA.1 h).1;have M:=y.o.whole h;have t:Q≠w.heap.size:=az;have z:=Za (F.fr (y.o.mono));have a0:(i:Int)<(m:Int):=aj F.lt;unfold Ki;go_enter func168,ntmps168;go_upto_region 1 with fail;generalize w.alloc _=W at*;obtain⟨X,N⟩:=ad w.heap.size;rw[N]at L t;rw[N]
 have u:D (∀b,Fr (fun j=>j=Q) W b->(∃d P,b.heap[Q]?=I (UK f p s k d P))->b.cell? ⟨X,2,J⟩=I (Y Z (i:Nat))/\b.cell? ⟨Q,0,J⟩=I (E (I ⟨f,0,J⟩))/\b.cell? ⟨f,1,J⟩=I (G (I ⟨g,0,J⟩) m x)/\b.cell? ⟨g,i,J⟩=I (O q)):=by
  intro b r ⟨d,P,hq⟩;have hx:=r.whole L.o (fun e=>t e.symm);exact⟨Zc hx 2,Zc hq 0,(z.o.fr r).c1,(z.o.fr r).ce⟩
 have HG:D (∀b,D (F0 W b)->H U 208 #[E (I ⟨Q,0,J⟩),Y Z 3,O q,O ⟨#[]⟩] b fun e l=>e=K (.tuple #[])/\D (l.heap[Q]?=I (UK f p s k true (3,q,R))/\Fr (fun j=>j=Q) W l)/\l.cell? ⟨X,2,J⟩=I (Y Z (i:Nat))/\l.cell? ⟨Q,0,J⟩=I (E (I ⟨f,0,J⟩))/\l.cell? ⟨f,1,J⟩=I (G (I ⟨g,0,J⟩) m x)/\l.cell? ⟨g,i,J⟩=I (O q)):=by
  intro b r;refine(PL b Q f k p s o 3 q R (r.o.whole M) z.o.sz aB).mono ?_;rintro e l ⟨he,S,h3⟩;have V:=(r.o.mono (T:=fun j=>j=Q)).trans h3;exact⟨he,⟨S,V⟩,u.o _ V ⟨_,_,S⟩⟩
 have hS:=u.o W Zo ⟨_,_,M⟩;have b0:D (F0 W W.drew):=Zo.drew
 go_region_held3 (fun b=>b.cell? ⟨X,2,J⟩=I (Y Z (i:Nat))/\b.cell? ⟨Q,0,J⟩=I (E (I ⟨f,0,J⟩))/\b.cell? ⟨f,1,J⟩=I (G (I ⟨g,0,J⟩) m x)/\b.cell? ⟨g,i,J⟩=I (O q)) (first|assumption|go_keep) (first
  |(go_at_call 208;refine(HG.o _ aG).mono ?_;rintro e w7 ⟨rfl,v,c0⟩))
 go_wp2
 go_end0
 exact⟨rfl,v.o.1,(y.o.mono).trans v.o.2⟩
def Nb (w:z2)(Q f k:Nat)(p:XQ)(s:Nat->Bool)(o:Nat×ByteArray×ByteArray)(A:Nat)(a:Option Addr)(n c i B:Nat)(q:ByteArray)(g m x:Nat)(h:w.heap[Q]?=I (UK f p s k false o))(F:Nz w f Q i q g m x):
  H U 210 #[E (I ⟨Q,0,J⟩),Ki A a n c i B] w fun e l=>e=K (.tuple #[])/\l.heap[Q]?=I (UK f p s k true (4,q,R))/\Fr (fun j=>j=Q) w l:=by
 obtain⟨y,L⟩:=WM w (.cells #[Y C (A:Nat),G a n c,Y Z (i:Nat),Y Z (B:Nat)] 208);have hQ:=(iA.1 h).1;have M:=y.o.whole h;have t:Q≠w.heap.size:=az;have z:=Za (F.fr (y.o.mono));have a0:(i:Int)<(m:Int):=aj F.lt;unfold Ki;go_enter func210,ntmps210;go_upto_region 1 with fail;generalize w.alloc _=W at*;obtain⟨X,N⟩:=ad w.heap.size;rw[N]at L t;rw[N]
 have u:D (∀b,Fr (fun j=>j=Q) W b->(∃d P,b.heap[Q]?=I (UK f p s k d P))->b.cell? ⟨X,2,J⟩=I (Y Z (i:Nat))/\b.cell? ⟨Q,0,J⟩=I (E (I ⟨f,0,J⟩))/\b.cell? ⟨f,1,J⟩=I (G (I ⟨g,0,J⟩) m x)/\b.cell? ⟨g,i,J⟩=I (O q)):=by
  intro b r ⟨d,P,hq⟩;have hx:=r.whole L.o (fun e=>t e.symm);exact⟨Zc hx 2,Zc hq 0,(z.o.fr r).c1,(z.o.fr r).ce⟩
 have HG:D (∀b,D (F0 W b)->H U 208 #[E (I ⟨Q,0,J⟩),Y Z 4,O q,O ⟨#[]⟩] b fun e l=>e=K (.tuple #[])/\D (l.heap[Q]?=I (UK f p s k true (4,q,R))/\Fr (fun j=>j=Q) W l)/\l.cell? ⟨X,2,J⟩=I (Y Z (i:Nat))/\l.cell? ⟨Q,0,J⟩=I (E (I ⟨f,0,J⟩))/\l.cell? ⟨f,1,J⟩=I (G (I ⟨g,0,J⟩) m x)/\l.cell? ⟨g,i,J⟩=I (O q)):=by
  intro b r;refine(PL b Q f k p s o 4 q R (r.o.whole M) z.o.sz aB).mono ?_;rintro e l ⟨he,S,h3⟩;have V:=(r.o.mono (T:=fun j=>j=Q)).trans h3;exact⟨he,⟨S,V⟩,u.o _ V ⟨_,_,S⟩⟩
 have hS:=u.o W Zo ⟨_,_,M⟩;have b0:D (F0 W W.drew):=Zo.drew
 go_region_held3 (fun b=>b.cell? ⟨X,2,J⟩=I (Y Z (i:Nat))/\b.cell? ⟨Q,0,J⟩=I (E (I ⟨f,0,J⟩))/\b.cell? ⟨f,1,J⟩=I (G (I ⟨g,0,J⟩) m x)/\b.cell? ⟨g,i,J⟩=I (O q)) (first|assumption|go_keep) (first
  |(go_at_call 208;refine(HG.o _ aG).mono ?_;rintro e w7 ⟨rfl,v,c0⟩))
 go_wp2
 go_end0
 exact⟨rfl,v.o.1,(y.o.mono).trans v.o.2⟩
def Pf:List UInt8->Nat
 |[]=>0
 |c::r=>c.toNat+256*Pf r
def t1 (r:Nat):Nat:=(r/2)^^^(if r % 2=1 then 3988292384 else 0)
def tn:Nat->Nat->Nat
 |0,r=>r
 |n+1,r=>tn n (t1 r)
def sn (a b):t1 (a^^^b)=t1 a^^^t1 b:=by
 unfold t1;have h:=Nat.xor_mod_two_pow (a:=a) (b:=b) (n:=1);simp only[Nat.pow_one]at h;rw[Nat.xor_div_two,h]
 have e:∀p q x y:Nat,(p^^^x)^^^(q^^^y)=(p^^^q)^^^(x^^^y):=fun p q x y=>by
  rw[z0,<-z0 x,x1 x q,z0 q,<-z0]
 rw[e]
 congr 1
 rcases z6 a with c|c<;>rcases z6 b with d|d<;>rw[c,d]<;>decide
def EQ:∀(n a b:Nat),tn n (a^^^b)=tn n a^^^tn n b
 |0,_,_=>rfl
 |n+1,a,b=>by
  show tn n (t1 (a^^^b))=_
  rw[sn,EQ n];rfl
def ER:∀(m n r:Nat),tn (m+n) r=tn n (tn m r)
 |0,n,r=>by rw[x0];rfl
 |m+1,n,r=>by
  rw[show m+1+n=(m+n)+1 from z];exact ER m n (t1 r)
def sq (q):t1 (2*q)=q:=by
 unfold t1;rw[Nat.mul_div_cancel_left q aB,if_neg z,Nat.xor_zero]
def ES:∀(n q:Nat),tn n (2^n*q)=q
 |0,q=>by simp[tn]
 |n+1,q=>by
  show tn n (t1 (2^(n+1)*q))=q
  rw[show 2^(n+1)*q=2*(2^n*q)from by rw[Nat.pow_succ,Nat.mul_comm (2^n) 2,y9],sq];exact ES n q
def rL {r}(h:r<4294967296):t1 r<4294967296:=by
 unfold t1;exact Nat.xor_lt_two_pow (n:=32) z (by split<;>omega)
def CB:∀(n:Nat){r:Nat},r<4294967296->tn n r<4294967296
 |0,_,h=>h
 |n+1,_,h=>CB n (rL h)
def Iu {n a b}(h:b<2^n):b^^^2^n*a=b+2^n*a:=by
 apply y1;intro i;rw[y5,Nat.add_comm b,Nat.testBit_two_pow_mul_add _ h,z7];by_cases c:i<n
 ·have:¬n<=i:=z;simp[c,this]
 have d:b<2^i:=nL h (z3 aB z);simp[c,z8 d,show n<=i from z]
def zJ:Nat->List UInt8->Nat
 |r,[]=>r
 |r,c::l=>zJ (tn 8 (r^^^c.toNat)) l
def sr:∀(l:List UInt8)(r:Nat),zJ r l=tn (8*l.length) (r^^^Pf l)
 |[],r=>by simp[zJ,Pf,tn]
 |c::l,r=>by
  have a:=c.toNat_lt
  show zJ (tn 8 (r^^^c.toNat)) l=_
  rw[sr l,show Pf (c::l)=c.toNat^^^2^8*Pf l from(Iu a).symm,<-z0,show 8*(c::l).length=8+8*l.length from aF,ER,EQ 8 (r^^^c.toNat),ES 8]
def CC:∀(l m:List UInt8),Pf (l++m)=Pf l+2^(8*l.length)*Pf m
 |[],m=>by simp[Pf]
 |c::l,m=>by
  show c.toNat+256*Pf (l++m)=(c.toNat+256*Pf l)+_
  rw[CC l m,Nat.mul_add,show 8*(c::l).length=8+8*l.length from aF,x2,show(2:Nat)^8=256 from aB,y9,Nat.add_assoc]
def yU:∀(l:List UInt8),Pf l<2^(8*l.length)
 |[]=>by simp[Pf]
 |c::l=>by
  have:=yU l;have a:=c.toNat_lt
  show c.toNat+256*Pf l<_
  rw[show 8*(c::l).length=8+8*l.length from aF,x2,show(2:Nat)^8=256 from aB];omega
def M6:List Nat:=[0,498536548,997073096,651767980,1994146192,1802195444,1303535960,1342533948,3988292384,4027552580,3604390888,3412177804,2607071920,2262029012,2685067896,3183342108]
def vQ (r):tn 4 r=(r/16)^^^M6.getD (r % 16) 0:=by
 have h:r % 16<2^4:=z
 have e:r=r % 16^^^2^4*(r/16):=by rw[Iu h];omega
 conv=>lhs;rw[e]
 rw[EQ,ES,x1]
 congr 1
 have:r % 16=0\/r % 16=1\/r % 16=2\/r % 16=3\/r % 16=4\/r % 16=5\/r % 16=6\/r % 16=7\/r % 16=8\/r % 16=9\/r % 16=10\/r % 16=11\/r % 16=12\/r % 16=13\/r % 16=14\/r % 16=15:=z
 rcases this with h|h|h|h|h|h|h|h|h|h|h|h|h|h|h|h<;>rw[h]<;>decide
abbrev Rd (α:Type):=Nat->Option (α×Nat)
def Qp (b:List UInt8)(n:Nat):Rd (List UInt8):=fun i=>if i+n<=b.length then I ((b.drop i).take n,i+n)else J
def Xa (b:List UInt8)(n:Nat)(lo hi:Int):Rd Nat:=fun i=>match Qp b n i with
 |none=>J
 |some (l,j)=>if lo<=Pf l/\(Pf l:Int)<=hi then I (Pf l,j)else J
def WU {α:Type}(a:Rd α):Nat->Rd (List α)
 |0=>fun i=>I ([],i)
 |n+1=>fun i=>match a i with
  |none=>J
  |some (x,j)=>match WU a n j with
   |none=>J
   |some (l,k)=>I (x::l,k)
def YV {α:Type}(b:List UInt8)(c d:Int)(a:Rd α):Rd (List α):=fun i=>match Xa b 1 c d i with
 |none=>J
 |some (n,j)=>WU a n j
def XP (s:ByteArray):Bool:=decide (1<=s.size)&&(decide (s.size<=8)&&(ZM (Zy s 0)&&(!Xe s&&s.data.toList.all fun c=>Zr (c.toNat:Int))))
def UL (b:List UInt8):Rd ByteArray:=fun i=>match Xa b 1 1 8 i with
 |none=>J
 |some (n,j)=>match Qp b n j with
  |none=>J
  |some (l,k)=>if XP ⟨l.toArray⟩then I (⟨l.toArray⟩,k)else J
def VE (b:List UInt8):Rd Zf:=fun i=>match UL b i with
 |none=>J
 |some (s,j)=>match Xa b 4 0 1000000 j with
  |none=>J
  |some (x,k)=>match Xa b 4 0 1000 k with
   |none=>J
   |some (y,l)=>I (⟨s,x,y⟩,l)
def Nc (b:List UInt8)(hi:Int):Rd (List Nat):=YV b 1 4 (Xa b 2 0 hi)
def Tb (b:List UInt8)(s:Nat)(a:Int):Rd Zl:=fun i=>match Xa b 1 1 255 i with
 |none=>J
 |some (x,j)=>match Nc b a j with
  |none=>J
  |some (l,k)=>I (⟨s,l,0,x⟩,k)
def Gy (b:List UInt8):Rd Zl:=fun i=>match Xa b 1 1 255 i with
 |none=>J
 |some (x,j)=>match Xa b 4 0 1000000000 j with
  |none=>J
  |some (y,k)=>match Xa b 4 y 1000000000 k with
   |none=>J
   |some (z,l)=>I (⟨1,[y,z],0,x⟩,l)
def Iv (b:List UInt8)(s a c:Nat):Rd Zl:=fun i=>match Xa b 1 0 ((c:Int)-1) i with
 |none=>J
 |some (x,j)=>if s=3 then I (⟨3,[],x,0⟩,j)else match Nc b ((a:Int)-1) j with
  |none=>J
  |some (l,k)=>I (⟨s,l,x,0⟩,k)
def V1 (b:List UInt8)(a c:Nat):Rd Zl:=fun i=>match Xa b 1 0 6 i with
 |none=>J
 |some (s,j)=>if s=0 then Tb b 0 9999 j else if s=1 then Gy b j else if s=2 then Tb b 2 999 j else if s=6 then I (⟨6,[],0,0⟩,j)else Iv b s a c j
def Ne (l:List Zl):Bool:=(x5 l.length).all fun k=>match l[k]? with
 |none=>true
 |some s=>decide (k+s.skip<l.length)
def Tc (b:List UInt8)(a c:Nat):Rd (List Zl):=fun i=>match YV b 1 255 (V1 b a c) i with
 |none=>J
 |some (l,j)=>if Ne l then I (l,j)else J
def XG (b:List UInt8)(a:Nat):Nat->Rd Tr
 |0=>fun _=>J
 |f+1=>fun i=>match Xa b 1 0 a i with
  |none=>J
  |some (0,j)=>if f=0 then J else match WU (XG b a f) 10 j with
   |none=>J
   |some (l,k)=>I (.node (fun d=>l.getD d (.leaf 0)),k)
  |some (s+1,j)=>I (.leaf s,j)
def YW (l:List ByteArray):Bool:=(x5 l.length).all fun k=>match l[k]? with
 |none=>true
 |some s=>decide (UG s 0 l=(k:Int))
structure NQ where
 rts:List Zf
 nms:List ByteArray
 prs:List (List Zl)
 root:Tr
def Nf (b:List UInt8):Option NQ:=match YV b 0 6 (VE b) 0 with
 |none=>J
 |some (rts,i)=>match YV b 0 8 (UL b) i with
  |none=>J
  |some (nms,j)=>if YW (rts.map Zf.name)&&YW nms then(match YV b 1 255 (Tc b rts.length nms.length) j with
   |none=>J
   |some (prs,k)=>match XG b prs.length 7 k with
    |none=>J
    |some (t,l)=>if l=b.length then I ⟨rts,nms,prs,t⟩else J)else J
structure ET (nr nn:Nat)(s:Zl):Prop where
 so:s.sort<=6
 sk:s.skip<=255
 gd:s.sort<3->1<=s.skip
 nl:s.nums.length<=4
 am:s.sort=1->∃x y,s.nums=[x,y]
 ru:s.sort=3\/s.sort=4\/s.sort=5->s.rule<nn
 pl:s.sort=3\/s.sort=4\/s.sort=5->∀x,x∈s.nums->x<nr
def Tr.lows (n:Nat):Tr->Prop
 | .leaf p=>p<n
 | .node k=>∀d,d<10->(k d).lows n
structure NQ.Ok (t:NQ):Prop where
 r6:t.rts.length<=6
 rt:∀r,r∈t.rts->r.name.size<=8/\r.base<=1000000/\r.rate<=1000
 n8:t.nms.length<=8
 nm:∀s,s∈t.nms->s.size<=8
 pl:t.prs.length<=255
 pr:∀l,l∈t.prs->1<=l.length/\l.length<=255/\(∀s,s∈l->ET t.rts.length t.nms.length s)/\∀k s,l[k]?=I s->k+s.skip<l.length
 dp:t.root.deep 0
 lf:t.root.lows t.prs.length
def Yu {b n a c i x j}(h:Xa b n a c i=I (x,j)):a<=x/\(x:Int)<=c:=by
 unfold Xa at h
 split at h
 ·cases h
 split at h
 ·rename_i d;injection h with h;injection h with e f;subst e;exact d
 cases h
def Rv {α:Type}{a:Rd α}{P:α->Prop}(c:∀i x j,a i=I (x,j)->P x):∀(n i:Nat)(l:List α)(j:Nat),WU a n i=I (l,j)->l.length=n/\∀x,x∈l->P x
 |0,i,l,j,h=>by
  simp only[WU,Option.some.injEq,Prod.mk.injEq]at h;rw[<-h.1];exact⟨rfl,aA⟩
 |n+1,i,l,j,h=>by
  simp only[WU]at h
  split at h
  ·cases h
  rename_i x k d
  split at h
  ·cases h
  rename_i r e f;injection h with h;injection h with g p;subst g;obtain⟨m,o⟩:=Rv c n k r e f;refine⟨by simp[m],fun y b=>?_⟩;rcases List.mem_cons.1 b with rfl|b
  ·exact c _ _ _ d
  exact o y b
def Wm {α b c d a}{P:α->Prop}(e:∀i x j,a i=I (x,j)->P x){i l j}(h:YV b c d a i=I (l,j)):c<=l.length/\(l.length:Int)<=d/\∀x,x∈l->P x:=by
 unfold YV at h
 split at h
 ·cases h
 rename_i n k f;obtain⟨g,m⟩:=Rv e _ _ _ _ h;have:=Yu f;rw[g];exact⟨this.1,this.2,m⟩
def M7 {b a i l j}(h:Nc b a i=I (l,j)):l.length<=4/\∀x:Nat,x∈l->(x:Int)<=a:=by
 obtain⟨_,e,c⟩:=Wm (P:=fun x:Nat=>(x:Int)<=a) (fun i x j d=>(Yu d).2) h;exact⟨z,c⟩
def M8 {b i s j}(h:UL b i=I (s,j)):s.size<=8:=by
 unfold UL at h
 split at h
 ·cases h
 split at h
 ·cases h
 split at h
 ·rename_i a;injection h with h;injection h with c d;subst c;unfold XP at a;simp only[Bool.and_eq_true,decide_eq_true_eq]at a;exact a.2.1
 cases h
def Gz {b i r j}(h:VE b i=I (r,j)):r.name.size<=8/\r.base<=1000000/\r.rate<=1000:=by
 unfold VE at h
 split at h
 ·cases h
 rename_i s _ a
 split at h
 ·cases h
 rename_i x _ c
 split at h
 ·cases h
 rename_i y _ d;injection h with h;injection h with e f;subst e;have:=(Yu c).2;have:=(Yu d).2;exact⟨M8 a,by show x<=_;omega,by show y<=_;omega⟩
def M9 {b m d i s j}(h:V1 b m d i=I (s,j)):ET m d s:=by
 have p:∀(a:Nat)(q:Int)(i:Nat),(a=0\/a=2)->Tb b a q i=I (s,j)->ET m d s:=fun a q i v h=>by
  unfold Tb at h
  split at h
  ·cases h
  rename_i x _ e
  split at h
  ·cases h
  rename_i l _ n;injection h with h;injection h with c f;subst c;have r:=Yu e;have g:=M7 n;exact⟨by show a<=6;omega,by show x<=255;omega,fun _=>by show 1<=x;omega,g.1,fun h=>by have h:a=1:=h;omega,fun h=>by have h:a=3\/a=4\/a=5:=h;omega,fun h=>by have h:a=3\/a=4\/a=5:=h;omega⟩
 unfold V1 at h
 split at h
 ·cases h
 rename_i t k u;have w:=(Yu u).2
 split at h
 ·exact p _ _ _ (.inl rfl) h
 split at h
 ·unfold Gy at h
  split at h
  ·cases h
  rename_i x _ e
  split at h
  ·cases h
  split at h
  ·cases h
  injection h with h;injection h with c f;subst c;have r:=Yu e;exact⟨by show 1<=6;omega,by show x<=255;omega,fun _=>by show 1<=x;omega,by show 2<=4;omega,fun _=>⟨_,_,rfl⟩,fun h=>by have h:1=3\/1=4\/1=5:=h;omega,fun h=>by have h:1=3\/1=4\/1=5:=h;omega⟩
 split at h
 ·exact p _ _ _ (.inr rfl) h
 split at h
 ·injection h with h;injection h with c f;subst c;exact⟨by show 6<=6;omega,by show 0<=255;omega,fun h=>by have h:6<3:=h;omega,by show 0<=4;omega,fun h=>by have h:6=1:=h;omega,fun h=>by have h:6=3\/6=4\/6=5:=h;omega,fun h=>by have h:6=3\/6=4\/6=5:=h;omega⟩
 rename_i z A B C;unfold Iv at h
 split at h
 ·cases h
 rename_i x _ e;have r:=Yu e
 split at h
 ·injection h with h;injection h with c f;subst c;exact⟨by show 3<=6;omega,by show 0<=255;omega,fun h=>by have h:3<3:=h;omega,by show 0<=4;omega,fun h=>by have h:3=1:=h;omega,fun _=>by show x<d;omega,fun _ y o=>by simp at o⟩
 split at h
 ·cases h
 rename_i l _ n;injection h with h;injection h with c f;subst c;have g:=M7 n;exact⟨by show t<=6;omega,by show 0<=255;omega,fun h=>by have h:t<3:=h;omega,g.1,fun h=>by have h:t=1:=h;omega,fun _=>by show x<d;omega,fun _ y o=>aj (g.2 y o)⟩
def EU {b a c i l j}(h:Tc b a c i=I (l,j)):1<=l.length/\l.length<=255/\(∀s,s∈l->ET a c s)/\∀k s,l[k]?=I s->k+s.skip<l.length:=by
 unfold Tc at h
 split at h
 ·cases h
 rename_i p _ e
 split at h
 ·rename_i f;injection h with h;injection h with g q;subst g;obtain⟨r,t,m⟩:=Wm (P:=ET a c) (fun i x j n=>M9 n) e;refine⟨z,z,m,fun k s d=>?_⟩;have o:=(iG.1 d).1;have:=List.all_eq_true.1 f k (List.mem_range.2 o);rw[d]at this
  simpa using this
 cases h
def La {b:List UInt8}{c:Nat}:∀(f i:Nat)(t:Tr)(j:Nat),f<=7->XG b c f i=I (t,j)->t.deep (7-f)/\t.lows c
 |0,_,_,_,_,h=>by cases h
 |f+1,i,t,j,hf,h=>by
  unfold XG at h
  split at h
  ·cases h
  ·split at h
   ·cases h
   rename_i q
   split at h
   ·cases h
   rename_i l _ m;injection h with h;injection h with e n;subst e;obtain⟨r,k⟩:=Rv (P:=fun t:Tr=>t.deep (7-f)/\t.lows c) (fun i x j o=>La f i x j z o) _ _ _ _ m
   have g:∀d,d<10->l.getD d (.leaf 0)∈l:=fun d g=>by
    rw[y2,gE z];exact List.getElem_mem _
   refine⟨⟨z,fun d a=>?_⟩,fun d a=>(k _ (g d a)).2⟩;rw[show 7-(f+1)+1=7-f from z];exact(k _ (g d a)).1
  rename_i s _ p;injection h with h;injection h with e n;subst e;have:=(Yu p).2;exact⟨trivial,by show s<c;omega⟩
def yV {b t}(h:Nf b=I t):t.Ok:=by
 unfold Nf at h
 split at h
 ·cases h
 rename_i a i f
 split at h
 ·cases h
 rename_i c j g
 split at h
 ·split at h
  ·cases h
  rename_i e k m
  split at h
  ·cases h
  rename_i w l n
  split at h
  ·injection h with h;subst h;obtain⟨y,z,o⟩:=Wm (P:=fun r:Zf=>r.name.size<=8/\r.base<=1000000/\r.rate<=1000) (fun i x j d=>Gz d) f;obtain⟨A,B,p⟩:=Wm (P:=fun s:ByteArray=>s.size<=8) (fun i x j d=>M8 d) g;obtain⟨C,D,q⟩:=Wm (P:=fun l:List Zl=>1<=l.length/\l.length<=255/\(∀s,s∈l->ET a.length c.length s)/\∀k s,l[k]?=I s->k+s.skip<l.length) (fun i x j d=>EU d) m;obtain⟨u,v⟩:=La 7 _ _ _ az n;exact⟨by show a.length<=6;omega,o,by show c.length<=8;omega,p,by show e.length<=255;omega,q,u,v⟩
  cases h
 cases h
def Tp:Ending:=.panicked [{v:=.iface 223 (.agg #[]),recovered:=false}]
structure Yk (w:z2)(B:Nat)(s:ByteArray)(i TT:Nat):Prop where
 bx:w.heap[B]?=I (.cells #[O s,Y Z (i:Nat),E (I ⟨TT,0,J⟩)] 158)
 le:i<=s.size
 sz:s.size<=200000
def Yk.fr {w w' B i a s S}(h:Yk w B s i a)(b:Fr S w w')(c:¬S B:=by simp):Yk w' B s i a:=⟨b.whole h.bx c,h.le,h.sz⟩
def Yk.move {w B i c s}(h:Yk w B s i c)(j)(d:j<=s.size):∀a b,Yk (((w.drewN a).setCell ⟨B,1,J⟩ (Y Z (j:Nat))).drewN b) B s j c/\Fr (fun k=>k=B) w (((w.drewN a).setCell ⟨B,1,J⟩ (Y Z (j:Nat))).drewN b):=fun a b=>by
 have f:Fr (fun k=>k=B) w (w.drewN a):=⟨rfl,rfl,rfl,x4 _,fun _ _ _=>rfl⟩;have g:=f.setCell (p:=⟨B,1,J⟩) (y0 rfl) (Y Z (j:Nat));have e:=heap_setCell_same (w.drewN a) B 1 _ _ (Y Z (j:Nat)) h.bx;exact⟨⟨e,d,h.sz⟩,g.trans ⟨rfl,rfl,rfl,x4 _,fun _ _ _=>rfl⟩⟩
def Ou {α:Type}(w:z2)(B:Nat)(s:ByteArray)(b:Nat)(r:Option (α×Nat))(V:z2->Value->α->Prop)(e:Ending)(a:z2):Prop:=match r with
 |none=>e=Tp/\Fr (fun k=>k=B) w a
 |some (x,j)=>(∃v,e=K v/\V a v x)/\Yk a B s j b/\Fr (fun k=>k=B) w a
def WV (w):H U 76 #[M true] w fun e a=>e=K (.tuple #[])/\a=w:=by
 go_enter func76,ntmps76;go_wp2
 go_end0
 exact⟨rfl,rfl⟩
def Wx (w):H U 76 #[M false] w fun e a=>e=Tp/\a=w:=by
 go_enter func76,ntmps76;go_wp2;exact⟨rfl,rfl,rfl⟩
def Ah (w B s i b n)(c:Int)(h:Yk w B s i b)(f:i+n<=s.size)(g:c=n):
  H U 177 #[E (I ⟨B,0,J⟩),Y Z c] w fun e a=>e=K (O (s.extract i (i+n)))/\Yk a B s (i+n) b/\Fr (fun k=>k=B) w a:=by
 subst g;have j:=o h;have l:=h.sz;obtain⟨p,q⟩:=ap h.bx;have r:=bF h.bx 1
 have m:D (∀W,H U 76 #[M true] W fun e a=>e=K (.tuple #[])/\a=W):=fun W=>WV W
 have t:decide ((n:Int)<=(s.size:Int)-(i:Int))=true:=aF;go_enter func177,ntmps177;go_wp2
 go_quiet ((go_at_call 76;exact Calls.quiet_of_same (m.o _)))
 go_wp2
 go_quiet (fail)
 go_wp2;go_ret;have d:=j.o.move (i+n) f;rw[Int.natCast_add]at d;exact⟨rfl,d _ _⟩
def yW (w B s i c n)(a:Int)(h:Yk w B s i c)(p:s.size<i+n)(d:a=n):
  H U 177 #[E (I ⟨B,0,J⟩),Y Z a] w fun e f=>e=Tp/\Fr (fun k=>k=B) w f:=by
 subst d;have g:=h.sz;have j:=h.le;obtain⟨l,m⟩:=ap h.bx;have q:y3.wrap ((s.size:Int)-(i:Int))=(s.size:Int)-(i:Int):=IntWalk.i64_in _ aI;have r:decide ((n:Int)<=(s.size:Int)-(i:Int))=false:=aF;go_enter func177,ntmps177;go_wp2;refine wp_region_held_drew (S:=fun W=>W.cell? ⟨B,0,J⟩=I (O s)/\W.cell? ⟨B,1,J⟩=I (Y Z (i:Nat))) aC ⟨by simpa using l,by simpa using m⟩ (fun o=>?_)
 iterate 12 (refine Yy 0 o ?_;try go_frame)
 refine WI 12 (fun t u=>?_);go_simp;refine(Wx _).mono ?_;rintro e v ⟨b,rfl⟩;unfold Tp at b;subst b;exact⟨rfl,rfl,Zo.drew⟩
def Jj (w B s)(i a n:Nat)(b:Int)(h:Yk w B s i a)(d:b=n):
  H U 177 #[E (I ⟨B,0,J⟩),Y Z b] w (Ou w B s a (Qp s.data.toList n i) fun _ v l=>v=O ⟨l.toArray⟩):=by
 have f:s.data.toList.length=s.size:=y;unfold Qp;by_cases c:i+n<=s.size
 ·rw[if_pos (by rw[f];exact c)];refine(Ah w B s i a n b h c d).mono ?_;rintro e k ⟨rfl,g,j⟩;refine⟨⟨_,rfl,?_⟩,g,j⟩
  congr 1
  apply ByteArray.ext;apply Array.toList_inj.1;simp[ByteArray.data_extract]
 rw[if_neg (by rw[f];exact c)];exact yW w B s i a n b h z d
def yX (l:List UInt8)(k c)(a:l[k]?=I c):Pf (l.take (k+1))=Pf (l.take k)+2^(8*k)*c.toNat:=by
 have b:=(iG.1 a).1;rw[List.take_add_one,a,CC,z1,y6 z];simp[Pf]
def NA (a b:Nat)(e:a<9223372036854775808)(f:b<9223372036854775808):bits .or Z (a:Int) (b:Int)=((a|||b:Nat):Int):=by
 have g:a|||b<2^63:=Nat.or_lt_two_pow z z
 have c:(BitVec.ofInt 64 (a:Int)).toNat=a:=by
  rw[BitVec.ofInt_natCast,BitVec.toNat_ofNat];exact y4 z
 have d:(BitVec.ofInt 64 (b:Int)).toNat=b:=by
  rw[BitVec.ofInt_natCast,BitVec.toNat_ofNat];exact y4 z
 show y3.wrap ((BitVec.ofInt 64 (a:Int)|||BitVec.ofInt 64 (b:Int)).toNat:Int)=_
 rw[BitVec.toNat_or,c,d];exact IntWalk.i64_in _ aI
def su (x c k:Nat)(a:x<2^(8*k))(h:c<256)(j:k<=3):bits BinOp.or y3 (x:Int) (wrap64 ((c:Int)*2^(8*k)))=((x+2^(8*k)*c:Nat):Int):=by
 have d:2^(8*k)<=16777216:=z3 (n:=2) aB (show 8*k<=24 by omega);have l:2^(8*k)*c<=16777216*255:=Nat.mul_le_mul d z
 have e:((c:Int)*2^(8*k))=((2^(8*k)*c:Nat):Int):=by rw[Int.natCast_mul,Int.natCast_pow,Int.mul_comm];rfl
 rw[e];have f:wrap64 ((2^(8*k)*c:Nat):Int)=((2^(8*k)*c:Nat):Int):=IntWalk.wrap64_in _ aI;rw[f,NA x (2^(8*k)*c) z z,<-Iu a]
 congr 1
 apply y1;intro i;rw[Nat.testBit_or,y5,z7];by_cases b:8*k<=i
 ·have g:x<2^i:=nL a (z3 aB b);simp[z8 g]
 simp[b]
def Z2 (w B s)(i u n:Nat)(nv y z:Int)(h:Yk w B s i u)(hn:n<=4)(hv:nv=n):
  H U 176 #[E (I ⟨B,0,J⟩),Y Z nv,Y Z y,Y Z z] w (Ou w B s u (Xa s.data.toList n y z i) fun _ v x=>v=Y Z (x:Nat)):=by
 subst hv;have A:=o (Jj w B s i u n _ h rfl);obtain⟨N,F⟩:=ad (Xa s.data.toList n y z i);rw[F];unfold Xa at F;obtain⟨r,hr⟩:=ad (Qp s.data.toList n i);rw[hr]at A F;have G:=o F;have HR:=o hr;go_enter func176,ntmps176;go_wp2_with fail;refine A.o.mono ?_;intro e f hp
 cases r with
 |none=>
  obtain⟨b,K⟩:=hp;have L:=G.o.symm;subst L;unfold Tp at b;subst b;exact⟨rfl,rfl,K⟩
 |some lj=>
  obtain⟨l,j⟩:=lj;obtain⟨⟨v,rfl,rfl⟩,hR,K⟩:=hp;have M:=o hR;have O:=o K;obtain⟨S,hS⟩:=ad ((⟨l.toArray⟩:ByteArray):ByteArray)
  have g:S.data.toList=l:=by rw[<-hS]
  have Q:=o g
  have R:l.length=n:=by
   have e:=HR.o;unfold Qp at e
   split at e
   ·injection e with e;injection e with L e2;rw[<-L,z1,List.length_drop];omega
   cases e
  have T:S.size=n:=by rw[<-R,<-g];simp
  rw[hS]
  have V:=fun w=>Lib.run_convert_string_bytes (P:=U) w 9 50 5 S underlying9 underlying50 underlying5
  rw[T]at V;go_wp2_with fail;have X:D (Fr (fun k=>k=B) w (Lib.bytesWorld f 5 S)):=O.o.trans ((XM _ _ _).mono);have a0:D (Yk (Lib.bytesWorld f 5 S) B s j u):=M.o.fr (S:=fun _=>False) (XM _ _ _)
  have d:∀k,k<n->(Lib.bytesWorld f 5 S).cell? ⟨f.heap.size,k,J⟩=I (Y C (Zy S k)):=fun k hk=>by
   have:=Lib.bytesWorld_cell f 5 S k az
   simpa[Zy]using this
  have HC:=o d;generalize Lib.bytesWorld f 5 S=W at*;generalize grownCap _ _ _ _=f0 at*
  go_loop [9,17] (fun xv iv=>∃k:Nat,k<=n/\iv=Y Z k/\∃x:Nat,xv=Y Z (x:Nat)/\D (x=Pf (l.take k))) (fun _ iv=>n-(intOf iv).toNat)
  case atStart=>exact⟨0,z4 _,rfl,0,rfl,rfl⟩
  obtain⟨k,hk,rfl,x,rfl,HX⟩:=hrel;by_cases b0:k<n
  ·have hc:=HC.o k b0;have c0:=af k n;obtain⟨c,m⟩:∃c,l[k]?=I c:=⟨_,gE az⟩;have A:=o (yX l k c m)
   have d0:Zy S k=(c.toNat:Int):=by unfold Zy;rw[Q.o];simp[y2,m]
   rw[d0]at hc;have e0:=c.toNat_lt;generalize c.toNat=cn at*;have HE:=o (su x cn k (by rw[HX.o];have:=yU (l.take k);rw[z1,y6 az]at this;exact this) e0 az);go_wp2_with fail;refine⟨⟨k+1,az,aE,x+2^(8*k)*cn,by rw[HE.o],by show _=_;rw[A.o,HX.o]⟩,by simp[intOf];omega⟩
  have c0:=ai k n
  have ex:x=Pf l:=by rw[HX.o,List.take_of_length_le az]
  subst ex;by_cases p:y<=(Pf l:Int)
  ·by_cases q:(Pf l:Int)<=z
   ·have t:N=I (Pf l,j):=by rw[<-G.o,if_pos ⟨p,q⟩]
    subst t;go_wp2_with fail;refine(WV _).mono ?_;rintro e w2 ⟨rfl,a⟩;replace a:=a.symm;subst a;go_wp2;go_ret;exact⟨⟨_,rfl,rfl⟩,a0.o,X.o⟩
   have t:N=J:=by rw[<-G.o,if_neg (fun h=>q h.2)]
   subst t;go_wp2_with fail;refine(Wx _).mono ?_;rintro e w2 ⟨b,a⟩;replace a:=a.symm;subst a;unfold Tp at b;subst b;exact⟨rfl,rfl,X.o⟩
  have t:N=J:=by rw[<-G.o,if_neg (fun h=>p h.1)]
  subst t;go_wp2_with fail;refine(Wx _).mono ?_;rintro e w2 ⟨b,a⟩;replace a:=a.symm;subst a;unfold Tp at b;subst b;exact⟨rfl,rfl,X.o⟩
def Vt (s:ByteArray)(k:Nat):Bool:=(s.data.toList.drop k).all fun c=>Zr (c.toNat:Int)
def Ky (s k)(h:k<s.size):Vt s k=(Zr (Zy s k)&&Vt s (k+1)):=by
 have a:k<s.data.toList.length:=by simpa using h
 unfold Vt;rw[dC a,y8]
 congr 2
 simp[Zy,y2,h]
def QR (s w)(hs:s.size<=140737488355328):
  H U 95 #[O s] w fun e h=>e=K (M (XP s))/\F0 w h:=by
 have p:=fun w=>Lib.run_convert_string_bytes (P:=U) w 9 50 5 s underlying9 underlying50 underlying5
 have HS:D (∀c W,H U 150 #[Y C c] W fun e h=>e=K (M (ZM c))/\h=W):=fun c W=>Tv c W
 have T:D (∀W,H U 151 #[O s] W fun e h=>e=K (M (Xe s))/\h=W):=fun W=>Qe s W
 have R:D (∀c W,H U 152 #[Y C c] W fun e h=>e=K (M (Zr c))/\h=W):=fun c W=>N7 c W
 obtain⟨b,n⟩:=ad (XP s);rw[n];unfold XP at n;by_cases u:s.size=0
 ·have V:s.toList.isEmpty=true:=by
   rw[ByteArray.toList_eq]
   have:s.data.toList.length=0:=by simpa using u
   rw[List.length_eq_zero_iff.1 this];rfl
  have d:b=false:=by rw[<-n];simp[u]
  subst d;clear n p u;go_enter func95,ntmps95;go_wp2;go_ret;exact⟨rfl,Zo⟩
 have V:s.toList.isEmpty=false:=by
  rw[ByteArray.toList_eq]
  cases X:s.data.toList with
  |nil=>
   have h1:s.data.toList.length=0:=by rw[X];rfl
   exact absurd (by simpa using h1) u
  |cons _ _=>rfl
 by_cases h8:8<s.size
 ·have z:=af 8 s.size
  have d:b=false:=by rw[<-n];simp;omega
  subst d;clear n p u;go_enter func95,ntmps95;go_wp2;go_ret;exact⟨rfl,Zo⟩
 have z:=ai 8 s.size
 have v:(ZM (Zy s 0)&&(!Xe s&&Vt s 0))=b:=by
  rw[<-n,show Vt s 0=s.data.toList.all (fun c=>Zr (c.toNat:Int))from rfl];simp[show 1<=s.size from az,show s.size<=8 from az]
 have y:0<s.size:=az
 have A:D (∀W,H U 150 #[Y C ((s[0]'y).toNat:Int)] W fun e h=>e=K (M (ZM (Zy s 0)))/\h=W):=fun W=>by
  have e:=Tv ((s[0]'y).toNat:Int) W
  have e2:Zy s 0=((s[0]'y).toNat:Int):=by
   have B:0<s.data.toList.length:=by simpa using y
   unfold Zy;rw[y2,gE B,Option.getD_some];rfl
  rw[e2];exact e
 have E:=o v;clear n v u h8;go_enter func95,ntmps95;go_wp2_with fail;refine(A.o _).mono ?_;rintro e w1 ⟨rfl,a⟩;replace a:=a.symm;subst a
 cases q:ZM (Zy s 0)with
 |false=>
  have d:b=false:=by rw[<-E.o,q];rfl
  subst d;go_wp2;go_ret;exact⟨rfl,Zo⟩
 |true=>
  have r:D ((!Xe s&&Vt s 0)=b):=by show _=_;rw[<-E.o,q,z5]
  clear q E;go_wp2_with fail;refine(T.o _).mono ?_;rintro e w1 ⟨rfl,a⟩;replace a:=a.symm;subst a
  cases t:Xe s with
  |true=>
   have d:b=false:=by rw[<-r.o,t];rfl
   subst d;go_wp2;go_ret;exact⟨rfl,Zo⟩
  |false=>
   have F:D (Vt s 0=b):=by show _=_;rw[<-r.o,t];rfl
   clear t r;go_wp2_with fail;have S:D (F0 w (Lib.bytesWorld w 5 s)):=XM _ _ _
   have f:∀j,j<s.size->(Lib.bytesWorld w 5 s).cell? ⟨w.heap.size,j,J⟩=I (Y C (Zy s j)):=fun j hj=>by
    have:=Lib.bytesWorld_cell w 5 s j hj
    simpa[Zy]using this
   have HC:=o f;clear f p;generalize Lib.bytesWorld w 5 s=W at*;generalize grownCap _ _ _ _=a0 at*
   go_loop [4,25] (fun _ i=>∃k:Nat,k<=s.size/\i=Y Z k/\D (Vt s k=b)) (fun _ i=>s.size-(intOf i).toNat)
   case atStart=>exact⟨0,z4 _,rfl,F⟩
   obtain⟨k,hk,rfl,G⟩:=hrel;by_cases x:k<s.size
   ·have hc:=HC.o k x;have L:=af k s.size;have l:=o (Ky s k x);generalize Zy s k=N at*
    cases m:Zr N with
    |true=>
     rw[m]at l
     have Q:D (Vt s (k+1)=b):=by show _=_;rw[<-G.o,l.o,z5]
     have g:=o (R.o N);rw[m]at g;go_wp2_with fail;refine(g.o _).mono ?_;rintro e w2 ⟨rfl,a⟩;replace a:=a.symm;subst a;go_wp2;exact⟨⟨k+1,az,aE,Q⟩,by simp[intOf];omega⟩
    |false=>
     rw[m]at l
     have d:b=false:=by rw[<-G.o,l.o,z9]
     subst d;have g:=o (R.o N);rw[m]at g;go_wp2_with fail;refine(g.o _).mono ?_;rintro e w2 ⟨rfl,a⟩;replace a:=a.symm;subst a;go_wp2;go_ret;exact⟨rfl,S.o⟩
   have L:=ai k s.size
   have d:b=true:=by
    rw[<-G.o];unfold Vt;rw[dL (by simpa using(by omega:s.size<=k))];rfl
   subst d;go_wp2;go_ret;exact⟨rfl,S.o⟩
def Jk (w B s i t)(h:Yk w B s i t):
  H U 122 #[E (I ⟨B,0,J⟩)] w (Ou w B s t (UL s.data.toList i) fun _ v x=>v=O x):=by
 have HH:=o (Z2 w B s i t 1 1 1 8 h aB rfl);have a0:=h.sz;obtain⟨N,Y⟩:=ad (UL s.data.toList i);rw[Y];have y:=o Y;go_enter func122,ntmps122;go_wp2_with fail;refine HH.o.mono ?_;intro e w1 a
 cases u:Xa s.data.toList 1 1 8 i with
 |none=>
  rw[u]at a;obtain⟨b,z⟩:=a
  have d:N=J:=by rw[<-y.o];unfold UL;rw[u]
  subst d;unfold Tp at b;subst b;exact⟨rfl,rfl,z⟩
 |some nj=>
  obtain⟨n,j⟩:=nj;rw[u]at a;obtain⟨⟨v,rfl,rfl⟩,A,C⟩:=a;have HT:=o (Jj w1 B s j t n _ A rfl);have g:=o C;have F:=o u;go_wp2_with fail;refine HT.o.mono ?_;intro e w2 a
  cases c:Qp s.data.toList n j with
  |none=>
   rw[c]at a;obtain⟨b,z⟩:=a
   have d:N=J:=by rw[<-y.o];unfold UL;rw[F.o];simp only[c]
   subst d;unfold Tp at b;subst b;exact⟨rfl,rfl,(g.o.trans z)⟩
  |some lk=>
   obtain⟨l,k⟩:=lk;rw[c]at a;obtain⟨⟨v,rfl,rfl⟩,G,L⟩:=a;have M:=o G;have P:=o (g.o.trans L);have H2:=o c;have b0:n<=8:=aj (Yu F.o).2
   have Q:l.length<=8:=by
    unfold Qp at c
    split at c
    ·injection c with e2;injection e2 with e3 e4;rw[<-e3,z1];omega
    cases c
   obtain⟨S,R⟩:=ad ((⟨l.toArray⟩:ByteArray):ByteArray)
   have c0:S.size<=8:=by rw[<-R];exact Q
   have m:D ((if XP S then I (S,k)else J)=N):=by show _=_;rw[<-y.o];unfold UL;rw[F.o];simp only[H2.o,R]
   have HI:=o (QR S w2 az)
   have HC:D (∀W,H U 96 #[O S] W fun e w'=>e=K (O S)/\F0 W w'):=fun W=>Vd S W az
   rw[R];go_wp2_with fail;refine HI.o.mono ?_;rintro e w3 ⟨rfl,p⟩;have q:=o (P.o.trans (p.mono));have T:=o (M.o.fr p)
   cases Z:XP S with
   |false=>
    have d:N=J:=by rw[<-m.o,Z];rfl
    subst d;go_wp2_with fail;refine(Wx _).mono ?_;rintro e w4 ⟨b,f⟩;replace f:=f.symm;subst f;unfold Tp at b;subst b;exact⟨rfl,rfl,q.o⟩
   |true=>
    have d:N=I (S,k):=by rw[<-m.o,Z];rfl
    subst d;go_wp2_with fail;refine(WV _).mono ?_;rintro e w4 ⟨rfl,f⟩;replace f:=f.symm;subst f;go_wp2_with fail;refine(HC.o _).mono ?_;rintro e w4 ⟨rfl,r⟩;have V:=o (q.o.trans (r.mono));have X:=o (T.o.fr r);go_wp2;go_ret;exact⟨⟨_,rfl,rfl⟩,X.o,V.o⟩
