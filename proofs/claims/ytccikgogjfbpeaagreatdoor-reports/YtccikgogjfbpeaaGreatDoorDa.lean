import Derived.Test.YtccikgogjfbpeaaGreatDoorGi
open Option renaming some->I,none->V
open Go.Value renaming int->J,slice->Z,string->O,pointer->H,bool->L,bool->A,agg->F
open Go.IntKind renaming i64->Y,u8->R
open Go.Proofs.Tryz renaming prog->U
open Go.Ending renaming returned->K,returned->M
open Go.RowKit renaming Hid->E
open Go.Obj renaming cells->B
open _root_.ByteArray renaming empty->D
open Go renaming World->G,Calls->N
open Or renaming inl->C
namespace Go.Proofs.YtccikgogjfbpeaaGreatDoor
set_option maxRecDepth 30000
set_option maxHeartbeats 8000000
open Go.RowKit
def Qv (n:Int):Nat->List Nat->Int
 |_,[]=> -1
 |i,x::r=>if(n==(x:Int))=true then(i:Int)else Qv n (i+1) r
theorem Hg (n:Int):∀(l:List Nat)(i:Nat),decide (0<=Qv n i l)=Vo l n
 |[],_=>rfl
 |x::r,i=>by
  unfold Qv Vo;rw[List.any_cons];by_cases h:n=(x:Int)
  ·have a:(x:Int)=n:=h.symm
   simp[h]
  ·have a:¬(x:Int)=n:=fun e=>h e.symm
   have e:(n==(x:Int))=false:=by simpa using h
   rw[e,if_neg (by simp),Hg n r (i+1)];simp[a,Vo]
def Qw (s:ByteArray):Nat->List ByteArray->Int
 |_,[]=> -1
 |i,x::r=>if(s.toList==x.toList)=true then(i:Int)else Qw s (i+1) r
def Lg (l:List ByteArray)(s:ByteArray):Bool:=l.any (fun x=>s.toList==x.toList)
theorem Hh (s:ByteArray):∀(l:List ByteArray)(i:Nat),decide (0<=Qw s i l)=Lg l s
 |[],_=>rfl
 |x::r,i=>by
  unfold Qw Lg;rw[List.any_cons]
  cases h:(s.toList==x.toList)with
  |true=>simp
  |false=>
   rw[if_neg (by simp),Hh s r (i+1)];simp[Lg]
def Zw (w:G)(a:Option Addr)(l:List Nat):Prop:=∀k x,l[k]?=I x->∃g,a=I ⟨g,0,V⟩/\w.cell? ⟨g,k,V⟩=I (J Y (x:Nat))
theorem Zw.of {w:G}{base c:Nat}{a:Option Addr}{l:List Nat}(h:w.ownsRow base 3 1 (Z a l.length c) l.length (Zg l)):Zw w a l:=by
 intro k x b;have i:=(iG.1 b).1;obtain⟨g,j,e,_,_⟩:=h.form (by omega);injection e with f m n;subst f;refine⟨g,rfl,?_⟩;have d:=h.cells (g:=g) rfl k (J Y (x:Nat)) (by unfold Zg;rw[List.getElem?_map,b];rfl);rw[YN,Nat.zero_add]at d;exact d
def Yz (w:G)(a:Option Addr)(l:List ByteArray):Prop:=∀k s,l[k]?=I s->∃g o,a=I ⟨g,o,V⟩/\w.cell? ⟨g,o+k,V⟩=I (O s)
theorem Yz.fr {w w':G}{S:Nat->Prop}{a:Option Addr}{l:List ByteArray}(h:Yz w a l)(d:Fr S w w')(e:∀g o,a=I ⟨g,o,V⟩->¬S g):Yz w' a l:=by
 intro k s f;obtain⟨g,o,b,c⟩:=h k s f;exact⟨g,o,b,(d.cell (p:=⟨g,o+k,V⟩) (bL w _ c) (e g o b)).trans c⟩
theorem Ie (w:G)(a:Option Addr)(c:Nat)(l:List Nat)(n:Int)(h:Zw w a l)(t:l.length<=4000):
  N U 241 #[Z a l.length c,J Y n] w fun e w'=>e=K (J Y (Qv n 0 l))/\w'=w:=by
 have u:=Za h;obtain⟨m,d⟩:∃m,l.length=m:=⟨_,rfl⟩;have q:=Za d;rw[d]at t ⊢;clear h d;go_enter Tryz.func241,Tryz.ntmps241;go_wp2_with fail
 go_loop [5,8] (fun _ i=>∃k:Nat,k<=m/\i=J Y k/\E (Qv n 0 l=Qv n k (l.drop k))) (fun _ i=>m-(intOf i).toNat)
 case atStart=>exact⟨0,Nat.zero_le _,rfl,rfl⟩
 case round=>
  obtain⟨k,A,rfl,f⟩:=hrel;by_cases v:k<m
  ·have j:(k:Int)<(m:Int):=by omega
   obtain⟨x,p⟩:∃x,l[k]?=I x:=⟨_,gE (by have:=q.o;omega)⟩;obtain⟨g,rfl,B⟩:=u.o k x p
   have r:E (l.drop k=x::l.drop (k+1)):=by
    obtain⟨y,z⟩:=iG.1 p
    show _=_
    rw[dC y,z]
   clear p
   cases s:(n==(x:Int))with
   |true=>
    have b:E (Qv n 0 l=(k:Int)):=by show _=_;rw[f.o,r.o];simp only[Qv];rw[if_pos s]
    go_wp2;go_ret;exact⟨ZH b.o.symm,rfl⟩
   |false=>
    have b:E (Qv n 0 l=Qv n (k+1) (l.drop (k+1))):=by show _=_;rw[f.o,r.o];simp only[Qv];rw[if_neg (by simp[s])]
    go_wp2;exact⟨⟨k+1,by omega,by go_num,b⟩,by simp[intOf];omega⟩
  ·have j:¬(k:Int)<(m:Int):=by omega
   have b:E (Qv n 0 l= -1):=by show _=_;rw[f.o,dL (by have:=q.o;omega)];rfl
   go_wp2;go_ret;exact⟨ZH b.o.symm,rfl⟩
theorem SK (w:G)(a:Option Addr)(c:Nat)(l:List Nat)(n:Int)(h:Zw w a l)(f:l.length<=4000):
  N U 207 #[Z a l.length c,J Y n] w fun e w'=>e=K (L (Vo l n))/\w'=w:=by
 have g:=Za (Ie w a c l n h f);have i:=Za (Hg n l 0);clear h f;generalize Qv n 0 l=x at*;go_enter Tryz.func207,Tryz.ntmps207;go_wp2_with fail;refine g.o.mono ?_;rintro e j ⟨rfl,d⟩;replace d:=d.symm;subst d;go_wp2;go_ret;exact⟨congrArg (fun b=>M (A b)) i.o,rfl⟩
theorem If (w:G)(a:Option Addr)(c:Nat)(l:List ByteArray)(s:ByteArray)(h:Yz w a l)(d:l.length<=maxLen):
  N U 66 #[Z a l.length c,O s] w fun e w'=>e=K (J Y (Qw s 0 l))/\w'=w:=by
 have u:=Za h;unfold maxLen at d;obtain⟨m,f⟩:∃m,l.length=m:=⟨_,rfl⟩;have q:=Za f;rw[f]at d ⊢
 have v:(m:Int)<=9223372036854775807:=by omega
 clear h f d;go_enter Tryz.func66,Tryz.ntmps66;go_wp2_with fail
 go_loop [5,8] (fun _ i=>∃k:Nat,k<=m/\i=J Y k/\E (Qw s 0 l=Qw s k (l.drop k))) (fun _ i=>m-(intOf i).toNat)
 case atStart=>exact⟨0,Nat.zero_le _,rfl,rfl⟩
 case round=>
  obtain⟨k,B,rfl,j⟩:=hrel;by_cases y:k<m
  ·have n:(k:Int)<(m:Int):=by omega
   obtain⟨x,p⟩:∃x,l[k]?=I x:=⟨_,gE (by have:=q.o;omega)⟩;obtain⟨g,o,rfl,C⟩:=u.o k x p
   have r:E (l.drop k=x::l.drop (k+1)):=by
    obtain⟨z,A⟩:=iG.1 p
    show _=_
    rw[dC z,A]
   clear p
   cases t:(s.toList==x.toList)with
   |true=>
    have b:E (Qw s 0 l=(k:Int)):=by show _=_;rw[j.o,r.o];simp only[Qw];rw[if_pos t]
    go_wp2;go_ret;exact⟨ZH b.o.symm,rfl⟩
   |false=>
    have b:E (Qw s 0 l=Qw s (k+1) (l.drop (k+1))):=by show _=_;rw[j.o,r.o];simp only[Qw];rw[if_neg (by simp[t])]
    go_wp2;exact⟨⟨k+1,by omega,by go_num,b⟩,by simp[intOf];omega⟩
  ·have n:¬(k:Int)<(m:Int):=by omega
   have b:E (Qw s 0 l= -1):=by show _=_;rw[j.o,dL (by have:=q.o;omega)];rfl
   go_wp2;go_ret;exact⟨ZH b.o.symm,rfl⟩
theorem NB (w:G)(a:Option Addr)(c:Nat)(l:List ByteArray)(s:ByteArray)(h:Yz w a l)(f:l.length<=maxLen):
  N U 38 #[Z a l.length c,O s] w fun e w'=>e=K (L (Lg l s))/\w'=w:=by
 have g:=Za (If w a c l s h f);have i:=Za (Hh s l 0);clear h f;generalize Qw s 0 l=x at*;go_enter Tryz.func38,Tryz.ntmps38;go_wp2_with fail;refine g.o.mono ?_;rintro e j ⟨rfl,d⟩;replace d:=d.symm;subst d;go_wp2;go_ret;exact⟨congrArg (fun b=>M (A b)) i.o,rfl⟩
theorem Fg (w:G)(n m:Int):
  N U 111 #[J Y n,J Y m] w fun e w'=>e=K (L (decide (0<=n)&&decide (n<=m)))/\w'=w:=by
 by_cases a:0<=n
 ·by_cases c:n<=m
  all_goals
   go_enter Tryz.func111,Tryz.ntmps111;go_wp2;go_ret;exact⟨congrArg (fun b=>M (A b)) (by simp[a,c]),rfl⟩
 ·go_enter Tryz.func111,Tryz.ntmps111
  go_wp2;go_ret;exact⟨congrArg (fun b=>M (A b)) (by simp;omega),rfl⟩
def Xa (s:ByteArray)(k:Nat):Bool:=(s.data.toList.drop k).all (fun c=>decide (48<=c.toNat)&&decide (c.toNat<=57))
theorem RT (s:ByteArray)(k:Nat)(h:k<s.size):Xa s k=(iD (Zv s k)&&Xa s (k+1)):=by
 unfold Xa
 have a:k<s.data.toList.length:=by simpa using h
 rw[dC a,List.all_cons]
 congr 1
 unfold iD Zv;rw[gD,gE a];simp only[Option.getD_some];rw[<-Bool.decide_and]
 congr 1
 apply propext;omega
theorem Q5 (s:ByteArray)(k:Nat)(h:s.size<=k):Xa s k=true:=by
 unfold Xa;rw[dL (by simpa using h)];rfl
theorem NC (s:ByteArray)(w:G)(t:s.size<=3000):
  N U 164 #[O s] w fun e w'=>e=K (L (Xa s 0))/\F0 w w':=by
 have h:=fun w=>Lib.run_convert_string_bytes (P:=U) w 9 50 5 s Tryz.underlying9 Tryz.underlying50 Tryz.underlying5
 go_enter Tryz.func164,Tryz.ntmps164;go_wp2_with fail;have n:E (F0 w (Lib.bytesWorld w 5 s)):=SE _ _ _
 have a:∀j,j<s.size->(Lib.bytesWorld w 5 s).cell? ⟨w.heap.size,j,V⟩=I (J R (Zv s j)):=fun j q=>by
  have:=Lib.bytesWorld_cell w 5 s j q
  simpa[Zv]using this
 have r:=Za a;clear a h;generalize Lib.bytesWorld w 5 s=W at*;generalize grownCap _ _ _ _=cap at*
 go_loop [4,8] (fun _ i=>∃k:Nat,k<=s.size/\i=J Y k/\E (Xa s 0=Xa s k)) (fun _ i=>s.size-(intOf i).toNat)
 case atStart=>exact⟨0,Nat.zero_le _,rfl,rfl⟩
 case round=>
  obtain⟨k,u,rfl,l⟩:=hrel;by_cases d:k<s.size
  ·have v:=r.o k d
   have m:(k:Int)<(s.size:Int):=by omega
   have f:=Za (RT s k d)
   have g:E (∀W,N U 188 #[J R (Zv s k)] W fun e w'=>e=K (L (iD (Zv s k)))/\w'=W):=fun W=>YJ _ W
   generalize Zv s k=b at*
   cases p:iD b with
   |true=>
    rw[p]at g f;go_wp2_with fail;refine(g.o _).mono ?_;rintro e w2 ⟨rfl,c⟩;replace c:=c.symm;subst c;go_wp2;exact⟨⟨k+1,by omega,by go_num,by show _=_;rw[l.o,f.o,Bool.true_and]⟩,by simp[intOf];omega⟩
   |false=>
    rw[p]at g f;go_wp2_with fail;refine(g.o _).mono ?_;rintro e w2 ⟨rfl,c⟩;replace c:=c.symm;subst c;go_wp2;go_ret;exact⟨congrArg (fun b=>M (A b)) (by rw[l.o,f.o,Bool.false_and]),n.o⟩
  ·have m:¬(k:Int)<(s.size:Int):=by omega
   go_wp2;go_ret;exact⟨congrArg (fun b=>M (A b)) (by rw[l.o,Q5 s k (by omega)]),n.o⟩
theorem Fh (s:ByteArray)(w:G)(h:s.size<=maxLen):
  N U 110 #[O s] w fun e w'=>e=K (L (Xv s))/\F0 w w':=by
 have c:Xv s=(decide (6<=s.size)&&(decide (s.size<=19)&&Xa s 0)):=rfl;unfold maxLen at h
 have k:(s.size:Int)<=9223372036854775807:=by omega
 by_cases d:6<=s.size
 ·have i:(6:Int)<=(s.size:Int):=by omega
  by_cases a:s.size<=19
  ·have f:(s.size:Int)<=19:=by omega
   have l:E (∀W,N U 164 #[O s] W fun e w'=>e=K (L (Xa s 0))/\F0 W w'):=fun W=>NC s W (by omega)
   have g:E (Xv s=Xa s 0):=by show _=_;rw[c];simp[d,a]
   clear h c d a;go_enter Tryz.func110,Tryz.ntmps110;go_wp2_with fail;refine(l.o _).mono ?_;rintro e w2 ⟨rfl,j⟩;have m:=Za j;clear j;go_wp2;go_ret;exact⟨congrArg (fun b=>M (A b)) g.o.symm,m.o⟩
  ·have f:¬(s.size:Int)<=19:=by omega
   have g:E (Xv s=false):=by show _=_;rw[c];simp[a]
   clear h c d a;go_enter Tryz.func110,Tryz.ntmps110;go_wp2;go_ret;exact⟨congrArg (fun b=>M (A b)) g.o.symm,Fr.refl _ _⟩
 ·have i:¬(6:Int)<=(s.size:Int):=by omega
  have g:E (Xv s=false):=by show _=_;rw[c];simp[d]
  clear h c d;go_enter Tryz.func110,Tryz.ntmps110;go_wp2;go_ret;exact⟨congrArg (fun b=>M (A b)) g.o.symm,Fr.refl _ _⟩
def VD (b:Nat)(p:ZI)(a:Nat->Bool)(k:Nat)(done:Bool)(o:Nat×ByteArray×ByteArray):Obj:=
 B #[H (I ⟨b,0,V⟩),O p.pan,J Y p.mcc,J Y p.am,J Y p.cur,L (a 0),L (a 1),L (a 2),L (a 3),L (a 4),L (a 5),J Y (k:Nat),L done,J Y (o.1:Nat),O o.2.1,O o.2.2] 127
theorem Hi {w:G}{Q a k:Nat}{p:ZI}{b:Nat->Bool}{d:Bool}{o:Nat×ByteArray×ByteArray}(h:w.heap[Q]?=I (VD a p b k d o))(k':Nat):(w.setCell ⟨Q,11,V⟩ (J Y (k':Nat))).heap[Q]?=I (VD a p b k' d o):=by
 have e:=heap_setCell_same w Q 11 _ _ (J Y (k':Nat)) h
 simpa[VD]using e
theorem Bg {w:G}{Q a k:Nat}{p:ZI}{b:Nat->Bool}{d:Bool}{o:Nat×ByteArray×ByteArray}(h:w.heap[Q]?=I (VD a p b k d o)):(w.setCell ⟨Q,12,V⟩ (L true)).heap[Q]?=I (VD a p b k true o):=by
 have e:=heap_setCell_same w Q 12 _ _ (L true) h
 simpa[VD]using e
theorem Bh {w:G}{Q b k:Nat}{p:ZI}{c:Nat->Bool}{d:Bool}{o:Nat×ByteArray×ByteArray}(h:w.heap[Q]?=I (VD b p c k d o))(a:Nat×ByteArray×ByteArray):(((w.setCell ⟨Q,13,V⟩ (J Y (a.1:Nat))).setCell ⟨Q,14,V⟩ (O a.2.1)).setCell ⟨Q,15,V⟩ (O a.2.2)).heap[Q]?=I (VD b p c k d a):=by
 have e:=heap_setCell_same _ Q 15 _ _ (O a.2.2) (heap_setCell_same _ Q 14 _ _ (O a.2.1) (heap_setCell_same w Q 13 _ _ (J Y (a.1:Nat)) h))
 simpa[VD]using e
def Mh (b:Nat)(a:Option Addr)(n c d e:Nat):Value:=F #[J R (b:Nat),Z a n c,J Y (d:Nat),J Y (e:Nat)]
theorem ON (w:G)(Q q k:Nat)(p:ZI)(r:Nat->Bool)(o:Nat×ByteArray×ByteArray)(i:Nat)(a:Option Addr)(n c l d:Nat)(b:Bool)(h:w.heap[Q]?=I (VD q p r k false o))(z:k<=100000)(A:d<=100000):
  N U 206 #[H (I ⟨Q,0,V⟩),Mh i a n c l d,L b] w fun e w'=>e=K (.tuple #[])/\w'.heap[Q]?=I (VD q p r (if b then k+1 else k+d) false o)/\Fr (fun j=>j=Q) w w':=by
 have s:E (F0 w (w.alloc (B #[J R (i:Nat),Z a n c,J Y (l:Nat),J Y (d:Nat)] 208))):=(Fr.refl _ _).alloc _;have y:E ((w.alloc (B #[J R (i:Nat),Z a n c,J Y (l:Nat),J Y (d:Nat)] 208)).heap[w.heap.size]?=I (B #[J R (i:Nat),Z a n c,J Y (l:Nat),J Y (d:Nat)] 208)):=aN w _;have D:=(iA.1 h).1;have f:=s.o.whole h (by simp)
 have m:Q≠w.heap.size:=by omega
 unfold Mh;clear h
 cases b with
 |true=>
  go_enter Tryz.func206,Tryz.ntmps206;go_upto_region 2 with fail;generalize w.alloc (B #[J R (i:Nat),Z a n c,J Y (l:Nat),J Y (d:Nat)] 208)=W at*;have t:=Za f;have u:W.cell? ⟨Q,11,V⟩=I (J Y (k:Nat)):=bC f 11 _ rfl;have v:=bF f 11;have x:=bC y.o 3 _ rfl;obtain⟨X,g⟩:∃X,w.heap.size=X:=⟨_,rfl⟩;rw[g]at x m;rw[g];clear f g;go_wp2
  go_end0
  refine⟨rfl,?_,(s.o.mono (by simp)).trans ((Fr.refl (fun j=>j=Q) W).setCell (p:=⟨Q,11,V⟩) (C rfl) _)⟩;have e:=Hi t.o (k+1)
  simpa using e
 |false=>
  go_enter Tryz.func206,Tryz.ntmps206;go_upto_region 3 with fail;generalize w.alloc (B #[J R (i:Nat),Z a n c,J Y (l:Nat),J Y (d:Nat)] 208)=W at*;have t:=Za f;have u:W.cell? ⟨Q,11,V⟩=I (J Y (k:Nat)):=bC f 11 _ rfl;have v:=bF f 11;have x:=bC y.o 3 _ rfl;obtain⟨X,g⟩:∃X,w.heap.size=X:=⟨_,rfl⟩;rw[g]at x m;rw[g];clear f g
  go_region
  go_wp2
  go_end0
  refine⟨rfl,?_,((s.o.mono (by simp)).trans ((Fr.refl (fun j=>j=Q) W).setCell (p:=⟨Q,11,V⟩) (C rfl) _)).drew⟩;have e:=Hi t.o (k+d);exact(by simpa using e:(W.setCell ⟨Q,11,V⟩ (J Y ((k:Int)+(d:Int)))).heap[Q]?=I (VD q p r (k+d) false o))
theorem Zw.fr {w w':G}{S:Nat->Prop}{a:Option Addr}{l:List Nat}(h:Zw w a l)(d:Fr S w w')(e:∀g,a=I ⟨g,0,V⟩->¬S g):Zw w' a l:=by
 intro k x f;obtain⟨g,b,c⟩:=h k x f;exact⟨g,b,(d.cell (p:=⟨g,k,V⟩) (bL w _ c) (e g b)).trans c⟩
theorem Ig (w:G)(Q r k:Nat)(p:ZI)(s:Nat->Bool)(o:Nat×ByteArray×ByteArray)(g:Nat)(a:Option Addr)(l:List Nat)(c i f:Nat)(h:w.heap[Q]?=I (VD r p s k false o))(hk:k<=100000)(hs:f<=100000)(P:Zw w a l)(S:l.length<=4000):
  N U 165 #[H (I ⟨Q,0,V⟩),Mh g a l.length c i f] w fun e w'=>e=K (.tuple #[])/\w'.heap[Q]?=I (VD r p s (if Vo l p.mcc then k+1 else k+f) false o)/\Fr (fun j=>j=Q) w w':=by
 have z:E (F0 w (w.alloc (B #[J R (g:Nat),Z a l.length c,J Y (i:Nat),J Y (f:Nat)] 208))):=(Fr.refl _ _).alloc _;have A:E ((w.alloc (B #[J R (g:Nat),Z a l.length c,J Y (i:Nat),J Y (f:Nat)] 208)).heap[w.heap.size]?=I (B #[J R (g:Nat),Z a l.length c,J Y (i:Nat),J Y (f:Nat)] 208)):=aN w _;have hQ:=(iA.1 h).1;have x:=z.o.whole h (by simp)
 have t:Q≠w.heap.size:=by omega
 have HI:=Za (P.fr z.o (by simp));unfold Mh;obtain⟨k',q⟩:∃k',(if Vo l p.mcc=true then k+1 else k+f)=k':=⟨_,rfl⟩;have u:=Za q;rw[q];clear h P q;go_enter Tryz.func165,Tryz.ntmps165;go_upto_region 1 with fail;generalize w.alloc (B #[J R (g:Nat),Z a l.length c,J Y (i:Nat),J Y (f:Nat)] 208)=W at*;obtain⟨X,C⟩:∃X,w.heap.size=X:=⟨_,rfl⟩;rw[C]at A t;rw[C]
 have m:E (∀d,Fr (fun j=>j=Q) W d->(∃k',d.heap[Q]?=I (VD r p s k' false o))->d.cell? ⟨X,0,V⟩=I (J R (g:Nat))/\d.cell? ⟨X,1,V⟩=I (Z a l.length c)/\d.cell? ⟨X,2,V⟩=I (J Y (i:Nat))/\d.cell? ⟨X,3,V⟩=I (J Y (f:Nat))/\d.cell? ⟨Q,2,V⟩=I (J Y p.mcc)):=by
  intro d n ⟨k',hq⟩;have y:=n.whole A.o (fun e=>t e.symm);exact⟨bC y 0 _ rfl,bC y 1 _ rfl,bC y 2 _ rfl,bC y 3 _ rfl,bC hq 2 _ rfl⟩
 have HC:E (∀d,E (F0 W d)->N U 207 #[Z a l.length c,J Y p.mcc] d fun e w'=>e=K (L (Vo l p.mcc))/\E (F0 W w')/\w'.cell? ⟨X,0,V⟩=I (J R (g:Nat))/\w'.cell? ⟨X,1,V⟩=I (Z a l.length c)/\w'.cell? ⟨X,2,V⟩=I (J Y (i:Nat))/\w'.cell? ⟨X,3,V⟩=I (J Y (f:Nat))/\w'.cell? ⟨Q,2,V⟩=I (J Y p.mcc)):=by
  intro d n;refine(SK d a c l p.mcc (HI.o.fr n.o (by simp)) S).mono ?_;rintro e w' ⟨D,rfl⟩;exact⟨D,n,m.o _ (n.o.mono (by simp)) ⟨k,n.o.whole x (by simp)⟩⟩
 have HG:E (∀d,E (F0 W d)->N U 206 #[H (I ⟨Q,0,V⟩),F #[J R (g:Nat),Z a l.length c,J Y (i:Nat),J Y (f:Nat)],L (Vo l p.mcc)] d fun e w'=>e=K (.tuple #[])/\E (w'.heap[Q]?=I (VD r p s k' false o)/\Fr (fun j=>j=Q) W w')/\w'.cell? ⟨X,0,V⟩=I (J R (g:Nat))/\w'.cell? ⟨X,1,V⟩=I (Z a l.length c)/\w'.cell? ⟨X,2,V⟩=I (J Y (i:Nat))/\w'.cell? ⟨X,3,V⟩=I (J Y (f:Nat))/\w'.cell? ⟨Q,2,V⟩=I (J Y p.mcc)):=by
  intro d n;refine(ON d Q r k p s o g a l.length c i f (Vo l p.mcc) (n.o.whole x (by simp)) hk hs).mono ?_;rintro e w' ⟨D,M,h3⟩;rw[u.o]at M;have h4:=(n.o.mono (T:=fun j=>j=Q) (by simp)).trans h3;exact⟨D,⟨M,h4⟩,m.o _ h4 ⟨_,M⟩⟩
 have hS:=m.o W (Fr.refl _ _) ⟨k,x⟩;have a0:E (F0 W W.drew):=(Fr.refl _ _).drew;clear u;generalize Vo l p.mcc=b at*;clear x HI C A m S
 go_region_held3 (fun d=>d.cell? ⟨X,0,V⟩=I (J R (g:Nat))/\d.cell? ⟨X,1,V⟩=I (Z a l.length c)/\d.cell? ⟨X,2,V⟩=I (J Y (i:Nat))/\d.cell? ⟨X,3,V⟩=I (J Y (f:Nat))/\d.cell? ⟨Q,2,V⟩=I (J Y p.mcc)) (first|assumption|go_keep) (first
  |(go_at_call 207;refine(HC.o _ (by assumption)).mono ?_;rintro e w7 ⟨rfl,b0,O⟩)
  |(go_at_call 206;refine(HG.o _ (by assumption)).mono ?_;rintro e w7 ⟨rfl,v,O⟩))
 go_wp2_with fail
 go_end0
 exact⟨rfl,v.o.1,(z.o.mono (by simp)).trans v.o.2⟩
theorem Ih (w:G)(Q r k:Nat)(p:ZI)(s:Nat->Bool)(o:Nat×ByteArray×ByteArray)(g:Nat)(a:Option Addr)(l:List Nat)(c i f:Nat)(h:w.heap[Q]?=I (VD r p s k false o))(hk:k<=100000)(hs:f<=100000)(P:Zw w a l)(S:l.length<=4000):
  N U 167 #[H (I ⟨Q,0,V⟩),Mh g a l.length c i f] w fun e w'=>e=K (.tuple #[])/\w'.heap[Q]?=I (VD r p s (if Vo l p.cur then k+1 else k+f) false o)/\Fr (fun j=>j=Q) w w':=by
 have z:E (F0 w (w.alloc (B #[J R (g:Nat),Z a l.length c,J Y (i:Nat),J Y (f:Nat)] 208))):=(Fr.refl _ _).alloc _;have A:E ((w.alloc (B #[J R (g:Nat),Z a l.length c,J Y (i:Nat),J Y (f:Nat)] 208)).heap[w.heap.size]?=I (B #[J R (g:Nat),Z a l.length c,J Y (i:Nat),J Y (f:Nat)] 208)):=aN w _;have hQ:=(iA.1 h).1;have x:=z.o.whole h (by simp)
 have t:Q≠w.heap.size:=by omega
 have HI:=Za (P.fr z.o (by simp));unfold Mh;obtain⟨k',q⟩:∃k',(if Vo l p.cur=true then k+1 else k+f)=k':=⟨_,rfl⟩;have u:=Za q;rw[q];clear h P q;go_enter Tryz.func167,Tryz.ntmps167;go_upto_region 1 with fail;generalize w.alloc (B #[J R (g:Nat),Z a l.length c,J Y (i:Nat),J Y (f:Nat)] 208)=W at*;obtain⟨X,C⟩:∃X,w.heap.size=X:=⟨_,rfl⟩;rw[C]at A t;rw[C]
 have m:E (∀d,Fr (fun j=>j=Q) W d->(∃k',d.heap[Q]?=I (VD r p s k' false o))->d.cell? ⟨X,0,V⟩=I (J R (g:Nat))/\d.cell? ⟨X,1,V⟩=I (Z a l.length c)/\d.cell? ⟨X,2,V⟩=I (J Y (i:Nat))/\d.cell? ⟨X,3,V⟩=I (J Y (f:Nat))/\d.cell? ⟨Q,4,V⟩=I (J Y p.cur)):=by
  intro d n ⟨k',hq⟩;have y:=n.whole A.o (fun e=>t e.symm);exact⟨bC y 0 _ rfl,bC y 1 _ rfl,bC y 2 _ rfl,bC y 3 _ rfl,bC hq 4 _ rfl⟩
 have HC:E (∀d,E (F0 W d)->N U 207 #[Z a l.length c,J Y p.cur] d fun e w'=>e=K (L (Vo l p.cur))/\E (F0 W w')/\w'.cell? ⟨X,0,V⟩=I (J R (g:Nat))/\w'.cell? ⟨X,1,V⟩=I (Z a l.length c)/\w'.cell? ⟨X,2,V⟩=I (J Y (i:Nat))/\w'.cell? ⟨X,3,V⟩=I (J Y (f:Nat))/\w'.cell? ⟨Q,4,V⟩=I (J Y p.cur)):=by
  intro d n;refine(SK d a c l p.cur (HI.o.fr n.o (by simp)) S).mono ?_;rintro e w' ⟨D,rfl⟩;exact⟨D,n,m.o _ (n.o.mono (by simp)) ⟨k,n.o.whole x (by simp)⟩⟩
 have HG:E (∀d,E (F0 W d)->N U 206 #[H (I ⟨Q,0,V⟩),F #[J R (g:Nat),Z a l.length c,J Y (i:Nat),J Y (f:Nat)],L (Vo l p.cur)] d fun e w'=>e=K (.tuple #[])/\E (w'.heap[Q]?=I (VD r p s k' false o)/\Fr (fun j=>j=Q) W w')/\w'.cell? ⟨X,0,V⟩=I (J R (g:Nat))/\w'.cell? ⟨X,1,V⟩=I (Z a l.length c)/\w'.cell? ⟨X,2,V⟩=I (J Y (i:Nat))/\w'.cell? ⟨X,3,V⟩=I (J Y (f:Nat))/\w'.cell? ⟨Q,4,V⟩=I (J Y p.cur)):=by
  intro d n;refine(ON d Q r k p s o g a l.length c i f (Vo l p.cur) (n.o.whole x (by simp)) hk hs).mono ?_;rintro e w' ⟨D,M,h3⟩;rw[u.o]at M;have h4:=(n.o.mono (T:=fun j=>j=Q) (by simp)).trans h3;exact⟨D,⟨M,h4⟩,m.o _ h4 ⟨_,M⟩⟩
 have hS:=m.o W (Fr.refl _ _) ⟨k,x⟩;have a0:E (F0 W W.drew):=(Fr.refl _ _).drew;clear u;generalize Vo l p.cur=b at*;clear x HI C A m S
 go_region_held3 (fun d=>d.cell? ⟨X,0,V⟩=I (J R (g:Nat))/\d.cell? ⟨X,1,V⟩=I (Z a l.length c)/\d.cell? ⟨X,2,V⟩=I (J Y (i:Nat))/\d.cell? ⟨X,3,V⟩=I (J Y (f:Nat))/\d.cell? ⟨Q,4,V⟩=I (J Y p.cur)) (first|assumption|go_keep) (first
  |(go_at_call 207;refine(HC.o _ (by assumption)).mono ?_;rintro e w7 ⟨rfl,b0,O⟩)
  |(go_at_call 206;refine(HG.o _ (by assumption)).mono ?_;rintro e w7 ⟨rfl,v,O⟩))
 go_wp2_with fail
 go_end0
 exact⟨rfl,v.o.1,(z.o.mono (by simp)).trans v.o.2⟩
theorem X8 {P:Program}{l:List Oper}{Q:Exit->Act->G->Prop}{e:Region.Mode}{S:G->Prop}(i:Nat){f:Oper}{d:Nat}{b:Array Bool}{a:Act}{w:G}(g:DJ l i=I f)
  (j:Region.noSelect l.toArray=true)(k:Region.free e l.toArray b i=true)(m:(Region.ready e l.toArray b).contains i=true)
  (n:∀c a w,Q (.panic c) (a.put f.dst undef) w->Q (.panic c) a w)(o:Region.wanted f (yielded l.toArray a.tmps)=false)(p:S w)
  (h:wpAnyH P e l.toArray Q S d (b.setIfInBounds i true) (a.put f.dst undef) w):wpAnyH P e l.toArray Q S (d+1) b a w:=
 wpAnyH_take ((MJ l i).trans g) j k m n (Or.inr ⟨o,rfl⟩) p h
theorem ND (w:G)(Q y k:Nat)(p:ZI)(A:Nat->Bool)(o:Nat×ByteArray×ByteArray)(n:Nat)(a:Option Addr)(i r c q f:Nat)(h:w.heap[Q]?=I (VD y p A k false o))(hk:k<=100000)(hs:f<=100000)(hi:Zw w a [i,r]):
  N U 166 #[H (I ⟨Q,0,V⟩),Mh n a 2 c q f] w fun e w'=>e=K (.tuple #[])/\w'.heap[Q]?=I (VD y p A (if decide ((i:Int)<=p.am)&&decide (p.am<=(r:Int))then k+1 else k+f) false o)/\Fr (fun j=>j=Q) w w':=by
 have HF:E (F0 w (w.alloc (B #[J R (n:Nat),Z a 2 c,J Y (q:Nat),J Y (f:Nat)] 208))):=(Fr.refl _ _).alloc _;have HX:E ((w.alloc (B #[J R (n:Nat),Z a 2 c,J Y (q:Nat),J Y (f:Nat)] 208)).heap[w.heap.size]?=I (B #[J R (n:Nat),Z a 2 c,J Y (q:Nat),J Y (f:Nat)] 208)):=aN w _;have hQ:=(iA.1 h).1;have H1:=HF.o.whole h (by simp)
 have C:Q≠w.heap.size:=by omega
 have s:=hi.fr HF.o (by simp);obtain⟨g,rfl,l⟩:=s 0 i rfl;obtain⟨g',D,M⟩:=s 1 r rfl;injection D with D;injection D with D _ _;subst D;unfold Mh;obtain⟨k',t⟩:∃k',(if(decide ((i:Int)<=p.am)&&decide (p.am<=(r:Int)))=true then k+1 else k+f)=k':=⟨_,rfl⟩;have O:=Za t;rw[t];clear h hi t s;go_enter Tryz.func166,Tryz.ntmps166;go_upto_region 1 with fail;generalize w.alloc (B #[J R (n:Nat),Z (I ⟨g,0,V⟩) 2 c,J Y (q:Nat),J Y (f:Nat)] 208)=W at*;obtain⟨X,hX⟩:∃X,w.heap.size=X:=⟨_,rfl⟩;rw[hX]at HX C;rw[hX];have u:=bL W _ l
 have P:g≠Q:=by
  intro e;subst e;rw[show W.cell? ⟨g,0,V⟩=I (H (I ⟨y,0,V⟩))from bC H1 0 _ rfl]at l
  cases l
 have v:E (∀d,Fr (fun j=>j=Q) W d->(∃k',d.heap[Q]?=I (VD y p A k' false o))->d.cell? ⟨X,0,V⟩=I (J R (n:Nat))/\d.cell? ⟨X,1,V⟩=I (Z (I ⟨g,0,V⟩) 2 c)/\d.cell? ⟨X,2,V⟩=I (J Y (q:Nat))/\d.cell? ⟨X,3,V⟩=I (J Y (f:Nat))/\d.cell? ⟨Q,3,V⟩=I (J Y p.am)/\d.cell? ⟨g,0,V⟩=I (J Y (i:Nat))/\d.cell? ⟨g,1,V⟩=I (J Y (r:Nat))):=by
  intro d z ⟨k',hq⟩;have hx:=z.whole HX.o (fun e=>C e.symm);exact⟨bC hx 0 _ rfl,bC hx 1 _ rfl,bC hx 2 _ rfl,bC hx 3 _ rfl,bC hq 3 _ rfl,(z.cell (p:=⟨g,0,V⟩) u P).trans l,(z.cell (p:=⟨g,1,V⟩) u P).trans M⟩
 have HG:E (∀d,E (F0 W d)->N U 206 #[H (I ⟨Q,0,V⟩),F #[J R (n:Nat),Z (I ⟨g,0,V⟩) 2 c,J Y (q:Nat),J Y (f:Nat)],L (decide ((i:Int)<=p.am)&&decide (p.am<=(r:Int)))] d fun e w'=>e=K (.tuple #[])/\E (w'.heap[Q]?=I (VD y p A k' false o)/\Fr (fun j=>j=Q) W w')/\w'.cell? ⟨X,0,V⟩=I (J R (n:Nat))/\w'.cell? ⟨X,1,V⟩=I (Z (I ⟨g,0,V⟩) 2 c)/\w'.cell? ⟨X,2,V⟩=I (J Y (q:Nat))/\w'.cell? ⟨X,3,V⟩=I (J Y (f:Nat))/\w'.cell? ⟨Q,3,V⟩=I (J Y p.am)/\w'.cell? ⟨g,0,V⟩=I (J Y (i:Nat))/\w'.cell? ⟨g,1,V⟩=I (J Y (r:Nat))):=by
  intro d z;refine(ON d Q y k p A o n (I ⟨g,0,V⟩) 2 c q f _ (z.o.whole H1 (by simp)) hk hs).mono ?_;rintro e w' ⟨he,h2,h3⟩;rw[O.o]at h2;have h4:=(z.o.mono (T:=fun j=>j=Q) (by simp)).trans h3;exact⟨he,⟨h2,h4⟩,v.o _ h4 ⟨_,h2⟩⟩
 have hS:=v.o W (Fr.refl _ _) ⟨k,H1⟩;have a0:E (F0 W W.drew):=(Fr.refl _ _).drew;clear H1 hX HX v O l M u;refine wp_region_held_drew (S:=fun d=>d.cell? ⟨X,0,V⟩=I (J R (n:Nat))/\d.cell? ⟨X,1,V⟩=I (Z (I ⟨g,0,V⟩) 2 c)/\d.cell? ⟨X,2,V⟩=I (J Y (q:Nat))/\d.cell? ⟨X,3,V⟩=I (J Y (f:Nat))/\d.cell? ⟨Q,3,V⟩=I (J Y p.am)/\d.cell? ⟨g,0,V⟩=I (J Y (i:Nat))/\d.cell? ⟨g,1,V⟩=I (J Y (r:Nat))) (by kernel_rfl) hS (fun b=>?_);refine Zf 0 b ?_
 try go_frame
 refine Zf 1 b ?_
 try go_frame
 refine Zf 2 b ?_
 try go_frame
 refine Zf 3 b ?_
 try go_frame
 refine Zf 4 b ?_
 try go_frame
 refine Zf 5 b ?_
 try go_frame
 refine Zf 6 b ?_
 try go_frame
 refine Zf 7 b ?_
 try go_frame
 refine Zf 8 b ?_
 try go_frame
 refine Zf 9 b ?_
 try go_frame
 refine Zf 10 b ?_
 try go_frame
 by_cases h0:(i:Int)<=p.am
 ·rw[show decide ((i:Int)<=p.am)=true from decide_eq_true h0,Bool.true_and]at HG
  refine Zf 11 b ?_
  try go_frame
  refine Zf 12 b ?_
  try go_frame
  refine Zf 13 b ?_
  try go_frame
  refine Zf 14 b ?_
  try go_frame
  refine Zf 15 b ?_
  try go_frame
  refine Zf 16 b ?_
  try go_frame
  refine Zf 17 b ?_
  try go_frame
  refine Zf 18 b ?_
  try go_frame
  refine Zf 19 b ?_
  try go_frame
  refine Zf 20 b ?_
  try go_frame
  refine Zf 21 b ?_
  try go_frame
  refine Zf 22 b ?_
  try go_frame
  refine Zf 23 b ?_
  try go_frame
  refine wpAnyH_ready (rs:=[24]) (by kernel_rfl) (by simp) ?_;refine Zb rfl (fun K2 hK=>?_) AllReadyH.nil
  try rw[if_pos (by rfl)]
  go_simp;refine(HG.o _ a0).mono ?_;rintro e w7 ⟨rfl,m,x⟩;refine hK.out _ _ x (fun _=>?_);clear hK K2
  try go_frame
  refine wpAnyH_done (by kernel_rfl) ?_ _;go_wp2_with fail
  go_end0
  exact⟨rfl,m.o.1,(HF.o.mono (by simp)).trans m.o.2⟩
 ·rw[show decide ((i:Int)<=p.am)=false from decide_eq_false h0,Bool.false_and]at HG
  refine Zf 11 b ?_
  try go_frame
  refine Zf 12 b ?_
  try go_frame
  refine X8 13 rfl (by kernel_rfl) (by kernel_rfl) (by kernel_rfl) (fun _ _ _ h=>h) rfl b ?_
  try go_frame
  refine X8 14 rfl (by kernel_rfl) (by kernel_rfl) (by kernel_rfl) (fun _ _ _ h=>h) rfl b ?_
  try go_frame
  refine X8 15 rfl (by kernel_rfl) (by kernel_rfl) (by kernel_rfl) (fun _ _ _ h=>h) rfl b ?_
  try go_frame
  refine X8 16 rfl (by kernel_rfl) (by kernel_rfl) (by kernel_rfl) (fun _ _ _ h=>h) rfl b ?_
  try go_frame
  refine X8 17 rfl (by kernel_rfl) (by kernel_rfl) (by kernel_rfl) (fun _ _ _ h=>h) rfl b ?_
  try go_frame
  refine X8 18 rfl (by kernel_rfl) (by kernel_rfl) (by kernel_rfl) (fun _ _ _ h=>h) rfl b ?_
  try go_frame
  refine X8 19 rfl (by kernel_rfl) (by kernel_rfl) (by kernel_rfl) (fun _ _ _ h=>h) rfl b ?_
  try go_frame
  refine X8 20 rfl (by kernel_rfl) (by kernel_rfl) (by kernel_rfl) (fun _ _ _ h=>h) rfl b ?_
  try go_frame
  refine X8 21 rfl (by kernel_rfl) (by kernel_rfl) (by kernel_rfl) (fun _ _ _ h=>h) rfl b ?_
  try go_frame
  refine X8 22 rfl (by kernel_rfl) (by kernel_rfl) (by kernel_rfl) (fun _ _ _ h=>h) rfl b ?_
  try go_frame
  refine Zf 23 b ?_
  try go_frame
  refine wpAnyH_ready (rs:=[24]) (by kernel_rfl) (by simp) ?_;refine Zb rfl (fun K2 hK=>?_) AllReadyH.nil
  try rw[if_pos (by rfl)]
  go_simp;refine(HG.o _ a0).mono ?_;rintro e w7 ⟨rfl,m,x⟩;refine hK.out _ _ x (fun _=>?_);clear hK K2
  try go_frame
  refine wpAnyH_done (by kernel_rfl) ?_ _;go_wp2_with fail
  go_end0
  exact⟨rfl,m.o.1,(HF.o.mono (by simp)).trans m.o.2⟩
theorem RU (w:G)(Q r k:Nat)(p:ZI)(s:Nat->Bool)(o:Nat×ByteArray×ByteArray)(g:Nat)(b rt:ByteArray)(h:w.heap[Q]?=I (VD r p s k false o))(t:b.size<=3000)(u:rt.size<=3000):
  N U 208 #[H (I ⟨Q,0,V⟩),J Y (g:Nat),O b,O rt] w fun e w'=>e=K (.tuple #[])/\w'.heap[Q]?=I (VD r p s k true (g,b,rt))/\Fr (fun j=>j=Q) w w':=by
 have i:w.cell? ⟨Q,12,V⟩=I (L false):=bC h 12 _ rfl;have l:=bF h 12
 have m:E (∀W,N U 96 #[O b] W fun e w'=>e=K (O b)/\F0 W w'):=fun W=>VS b W t
 have n:E (∀W,N U 96 #[O rt] W fun e w'=>e=K (O rt)/\F0 W w'):=fun W=>VS rt W u
 have v:=Za (Bg h);have x:E (Fr (fun j=>j=Q) w (w.setCell ⟨Q,12,V⟩ (L true))):=(Fr.refl (fun j=>j=Q) w).setCell (p:=⟨Q,12,V⟩) (C rfl) _;clear h t u;go_enter Tryz.func208,Tryz.ntmps208;go_wp2_with fail;generalize w.setCell ⟨Q,12,V⟩ (L true)=W at*;refine(m.o _).mono ?_;rintro e M ⟨rfl,c⟩;have q:=Za c;clear c i l;go_wp2_with fail;refine(n.o _).mono ?_;rintro e w2 ⟨rfl,d⟩;have f:=Za (q.o.trans d);have a:=Za (f.o.whole v.o (by simp));have y:w2.cell? ⟨Q,13,V⟩=I (J Y (o.1:Nat)):=bC a.o 13 _ rfl;have z:w2.cell? ⟨Q,14,V⟩=I (O o.2.1):=bC a.o 14 _ rfl;have A:w2.cell? ⟨Q,15,V⟩=I (O o.2.2):=bC a.o 15 _ rfl;have B:=bF a.o 13;have D:=bF a.o 14;have F:=bF a.o 15;clear d;go_wp2_with fail
 go_end0
 refine⟨rfl,Bh a.o (g,b,rt),?_⟩;exact(x.o.trans (f.o.mono (by simp))).trans ((((Fr.refl (fun j=>j=Q) w2).setCell (p:=⟨Q,13,V⟩) (C rfl) _).setCell (p:=⟨Q,14,V⟩) (C rfl) _).setCell (p:=⟨Q,15,V⟩) (C rfl) _)
theorem OO (w:G)(Q b k:Nat)(p:ZI)(d:Nat->Bool)(o:Nat×ByteArray×ByteArray)(f:Nat)(a:Option Addr)(n c g i:Nat)(h:w.heap[Q]?=I (VD b p d k false o)):
  N U 171 #[H (I ⟨Q,0,V⟩),Mh f a n c g i] w fun e w'=>e=K (.tuple #[])/\w'.heap[Q]?=I (VD b p d k true (2,D,D))/\Fr (fun j=>j=Q) w w':=by
 have l:E (F0 w (w.alloc (B #[J R (f:Nat),Z a n c,J Y (g:Nat),J Y (i:Nat)] 208))):=(Fr.refl _ _).alloc _;have r:=Za (RU _ Q b k p d o 2 D D (l.o.whole h (by simp)) (by decide) (by decide));unfold Mh;clear h;go_enter Tryz.func171,Tryz.ntmps171;go_wp2_with fail;refine r.o.mono ?_;rintro e u ⟨rfl,m,q⟩;have s:=Za m;have t:=Za ((l.o.mono (by simp)).trans q);clear m q;go_wp2_with fail
 go_end0
 exact⟨rfl,s.o,t.o⟩
structure Ri (w:G)(TT Q:Nat)(ru:Nat)(nm:ByteArray)(g m nc:Nat):Prop where
 c1:w.cell? ⟨TT,1,V⟩=I (Z (I ⟨g,0,V⟩) m nc)
 lt:ru<m
 ce:w.cell? ⟨g,ru,V⟩=I (O nm)
 sz:nm.size<=3000
 nt:TT≠Q
 ng:g≠Q
theorem Ri.fr {w w':G}{a Q b:Nat}{c:ByteArray}{g m d:Nat}(h:Ri w a Q b c g m d)(e:Fr (fun j=>j=Q) w w'):Ri w' a Q b c g m d:=
 ⟨(e.cell (p:=⟨a,1,V⟩) (bL w _ h.c1) h.nt).trans h.c1,h.lt,(e.cell (p:=⟨g,b,V⟩) (bL w _ h.ce) h.ng).trans h.ce,h.sz,h.nt,h.ng⟩
theorem Lh (w:G)(Q i k:Nat)(p:ZI)(s:Nat->Bool)(o:Nat×ByteArray×ByteArray)(t:Nat)(a:Option Addr)(n c f u:Nat)(l:ByteArray)(g m y:Nat)(h:w.heap[Q]?=I (VD i p s k false o))(z:Ri w i Q f l g m y):
  N U 168 #[H (I ⟨Q,0,V⟩),Mh t a n c f u] w fun e w'=>e=K (.tuple #[])/\w'.heap[Q]?=I (VD i p s k true (3,l,D))/\Fr (fun j=>j=Q) w w':=by
 have A:E (F0 w (w.alloc (B #[J R (t:Nat),Z a n c,J Y (f:Nat),J Y (u:Nat)] 208))):=(Fr.refl _ _).alloc _;have C:E ((w.alloc (B #[J R (t:Nat),Z a n c,J Y (f:Nat),J Y (u:Nat)] 208)).heap[w.heap.size]?=I (B #[J R (t:Nat),Z a n c,J Y (f:Nat),J Y (u:Nat)] 208)):=aN w _;have hQ:=(iA.1 h).1;have F:=A.o.whole h (by simp)
 have v:Q≠w.heap.size:=by omega
 have L:=Za (z.fr (A.o.mono (by simp)))
 have a0:(f:Int)<(m:Int):=by have:=z.lt;omega
 unfold Mh;clear h z;go_enter Tryz.func168,Tryz.ntmps168;go_upto_region 1 with fail;generalize w.alloc (B #[J R (t:Nat),Z a n c,J Y (f:Nat),J Y (u:Nat)] 208)=W at*;obtain⟨X,M⟩:∃X,w.heap.size=X:=⟨_,rfl⟩;rw[M]at C v;rw[M]
 have q:E (∀b,Fr (fun j=>j=Q) W b->(∃d P,b.heap[Q]?=I (VD i p s k d P))->b.cell? ⟨X,2,V⟩=I (J Y (f:Nat))/\b.cell? ⟨Q,0,V⟩=I (H (I ⟨i,0,V⟩))/\b.cell? ⟨i,1,V⟩=I (Z (I ⟨g,0,V⟩) m y)/\b.cell? ⟨g,f,V⟩=I (O l)):=by
  intro b r ⟨d,P,hq⟩;have hx:=r.whole C.o (fun e=>v e.symm);exact⟨bC hx 2 _ rfl,bC hq 0 _ rfl,(L.o.fr r).c1,(L.o.fr r).ce⟩
 have HG:E (∀b,E (F0 W b)->N U 208 #[H (I ⟨Q,0,V⟩),J Y 3,O l,O ⟨#[]⟩] b fun e w'=>e=K (.tuple #[])/\E (w'.heap[Q]?=I (VD i p s k true (3,l,D))/\Fr (fun j=>j=Q) W w')/\w'.cell? ⟨X,2,V⟩=I (J Y (f:Nat))/\w'.cell? ⟨Q,0,V⟩=I (H (I ⟨i,0,V⟩))/\w'.cell? ⟨i,1,V⟩=I (Z (I ⟨g,0,V⟩) m y)/\w'.cell? ⟨g,f,V⟩=I (O l)):=by
  intro b r;refine(RU b Q i k p s o 3 l D (r.o.whole F (by simp)) L.o.sz (by decide)).mono ?_;rintro e w' ⟨he,S,h3⟩;have h4:=(r.o.mono (T:=fun j=>j=Q) (by simp)).trans h3;exact⟨he,⟨S,h4⟩,q.o _ h4 ⟨_,_,S⟩⟩
 have hS:=q.o W (Fr.refl _ _) ⟨_,_,F⟩;have b0:E (F0 W W.drew):=(Fr.refl _ _).drew;clear F M C q
 go_region_held3 (fun b=>b.cell? ⟨X,2,V⟩=I (J Y (f:Nat))/\b.cell? ⟨Q,0,V⟩=I (H (I ⟨i,0,V⟩))/\b.cell? ⟨i,1,V⟩=I (Z (I ⟨g,0,V⟩) m y)/\b.cell? ⟨g,f,V⟩=I (O l)) (first|assumption|go_keep) (first
  |(go_at_call 208;refine(HG.o _ (by assumption)).mono ?_;rintro e w7 ⟨rfl,x,c0⟩))
 go_wp2_with fail
 go_end0
 exact⟨rfl,x.o.1,(A.o.mono (by simp)).trans x.o.2⟩
theorem Q6 (w:G)(Q i k:Nat)(p:ZI)(s:Nat->Bool)(o:Nat×ByteArray×ByteArray)(t:Nat)(a:Option Addr)(n c f u:Nat)(l:ByteArray)(g m y:Nat)(h:w.heap[Q]?=I (VD i p s k false o))(z:Ri w i Q f l g m y):
  N U 210 #[H (I ⟨Q,0,V⟩),Mh t a n c f u] w fun e w'=>e=K (.tuple #[])/\w'.heap[Q]?=I (VD i p s k true (4,l,D))/\Fr (fun j=>j=Q) w w':=by
 have A:E (F0 w (w.alloc (B #[J R (t:Nat),Z a n c,J Y (f:Nat),J Y (u:Nat)] 208))):=(Fr.refl _ _).alloc _;have C:E ((w.alloc (B #[J R (t:Nat),Z a n c,J Y (f:Nat),J Y (u:Nat)] 208)).heap[w.heap.size]?=I (B #[J R (t:Nat),Z a n c,J Y (f:Nat),J Y (u:Nat)] 208)):=aN w _;have hQ:=(iA.1 h).1;have F:=A.o.whole h (by simp)
 have v:Q≠w.heap.size:=by omega
 have L:=Za (z.fr (A.o.mono (by simp)))
 have a0:(f:Int)<(m:Int):=by have:=z.lt;omega
 unfold Mh;clear h z;go_enter Tryz.func210,Tryz.ntmps210;go_upto_region 1 with fail;generalize w.alloc (B #[J R (t:Nat),Z a n c,J Y (f:Nat),J Y (u:Nat)] 208)=W at*;obtain⟨X,M⟩:∃X,w.heap.size=X:=⟨_,rfl⟩;rw[M]at C v;rw[M]
 have q:E (∀b,Fr (fun j=>j=Q) W b->(∃d P,b.heap[Q]?=I (VD i p s k d P))->b.cell? ⟨X,2,V⟩=I (J Y (f:Nat))/\b.cell? ⟨Q,0,V⟩=I (H (I ⟨i,0,V⟩))/\b.cell? ⟨i,1,V⟩=I (Z (I ⟨g,0,V⟩) m y)/\b.cell? ⟨g,f,V⟩=I (O l)):=by
  intro b r ⟨d,P,hq⟩;have hx:=r.whole C.o (fun e=>v e.symm);exact⟨bC hx 2 _ rfl,bC hq 0 _ rfl,(L.o.fr r).c1,(L.o.fr r).ce⟩
 have HG:E (∀b,E (F0 W b)->N U 208 #[H (I ⟨Q,0,V⟩),J Y 4,O l,O ⟨#[]⟩] b fun e w'=>e=K (.tuple #[])/\E (w'.heap[Q]?=I (VD i p s k true (4,l,D))/\Fr (fun j=>j=Q) W w')/\w'.cell? ⟨X,2,V⟩=I (J Y (f:Nat))/\w'.cell? ⟨Q,0,V⟩=I (H (I ⟨i,0,V⟩))/\w'.cell? ⟨i,1,V⟩=I (Z (I ⟨g,0,V⟩) m y)/\w'.cell? ⟨g,f,V⟩=I (O l)):=by
  intro b r;refine(RU b Q i k p s o 4 l D (r.o.whole F (by simp)) L.o.sz (by decide)).mono ?_;rintro e w' ⟨he,S,h3⟩;have h4:=(r.o.mono (T:=fun j=>j=Q) (by simp)).trans h3;exact⟨he,⟨S,h4⟩,q.o _ h4 ⟨_,_,S⟩⟩
 have hS:=q.o W (Fr.refl _ _) ⟨_,_,F⟩;have b0:E (F0 W W.drew):=(Fr.refl _ _).drew;clear F M C q
 go_region_held3 (fun b=>b.cell? ⟨X,2,V⟩=I (J Y (f:Nat))/\b.cell? ⟨Q,0,V⟩=I (H (I ⟨i,0,V⟩))/\b.cell? ⟨i,1,V⟩=I (Z (I ⟨g,0,V⟩) m y)/\b.cell? ⟨g,f,V⟩=I (O l)) (first|assumption|go_keep) (first
  |(go_at_call 208;refine(HG.o _ (by assumption)).mono ?_;rintro e w7 ⟨rfl,x,c0⟩))
 go_wp2_with fail
 go_end0
 exact⟨rfl,x.o.1,(A.o.mono (by simp)).trans x.o.2⟩
