import Derived.Test.YtccikgogjfbpeaaGreatDoorQb
import Derived.Lib.Strings
import Derived.Deep.LoopGhost
open Go.Proofs.Tryz renaming prog->I
open Option renaming none->J,some->Y
open Go renaming World->V,Calls->O,Value->M
open Go.Ending renaming returned->Z
open Go.Value renaming pointer->U,string->K,int->E,bool->R,slice->L,oneCell'->A
open Go.IntKind renaming i64->H
open Nat renaming le_refl->D,le_trans->X
open _root_.ByteArray renaming empty->G
open List renaming getD_eq_getElem?_getD->N
namespace Go.Proofs.YtccikgogjfbpeaaGreatDoor
set_option maxRecDepth 30000
set_option maxHeartbeats 8000000
open Go.RowKit
theorem TV (s:ByteArray)(k:Nat)(a b:UInt8):Jj (s.extract k s.size) ⟨#[a,b]⟩=Ti s k (a.toNat:Int) (b.toNat:Int):=by
 unfold Jj Ti Zv;have d:(⟨#[a,b]⟩:ByteArray).size=2:=rfl;by_cases h:k+2<=s.size
 ·rw[ByteArray.toList_eq,ByteArray.toList_eq,Lib.extract_data,Lib.extract_data,d]
  have c:(s.data.toList.drop k).length=s.size-k:=by simp
  have f:s.data.toList.getD k 0=(s.data.toList.drop k).getD 0 0:=by simp[N]
  have g:s.data.toList.getD (k+1) 0=(s.data.toList.drop k).getD 1 0:=by simp[N]
  rw[f,g];generalize s.data.toList.drop k=l at*
  match l,c with
  |[],c=>simp at c;omega
  |[_],c=>simp at c;omega
  |x::y::r,c=>
   obtain⟨n,i⟩:∃n,s.size-k=n+2:=⟨s.size-k-2,by omega⟩;rw[i]
   have e:∀u v:UInt8,(u==v)=decide ((u.toNat:Int)=(v.toNat:Int)):=by
    intro u v;rw[Bool.eq_iff_iff];simp only[beq_iff_eq,decide_eq_true_eq];rw[<-UInt8.toNat_inj];omega
   simp[h,e];omega
 ·simp[d,h]
  omega
theorem LE (b:Nat)(s:ByteArray)(k a:Nat)(v:M)(ts:List Tk)(w:V)(c:Sc w b s k a v ts)(m:k<s.size)(d:iD (Zv s k)=true)(q:Zt iD s k<=9):
  O I 159 #[U (Y ⟨b,0,J⟩)] w fun e w'=>e=Z (.tuple #[])/\(∃g,Sc w' b s (k+Zt iD s k) a g (ts++[⟨1,s.extract k (k+Zt iD s k),a⟩]))/\Below b w w':=by
 have r:=Xf iD s k m d;have h:=Xw iD s k (by omega)
 have t:Hid (∀W,Dr w W->O I 195 #[U (Y ⟨b,0,J⟩),.func (.func 188) #[] #[]] W fun e w'=>e=Z (E H (Zt iD s k))/\Dr W w'):=
  fun W f=>QK b s k W (by have:=c.sz;unfold maxLen;omega) (by omega) (c.dr f).c0 (c.dr f).c1
 have u:Zv s k<=57/\48<=Zv s k:=by simp[iD]at d;omega
 have i:Zp (Zv s k)=false:=by simp[Zp];omega
 have x:(Zv s k==10)=false:=by simp;omega
 have y:(Zv s k==32)=false:=by simp;omega
 have L:(Zv s k==9)=false:=by simp;omega
 have z:(Zv s k==35)=false:=by simp;omega
 clear u;generalize Zt iD s k=n at*
 have A:=fun w=>ZN (P:=I) Tryz.underlying9 s k (k:Int) rfl m w
 have B:(k:Int)<(s.size:Int):=by omega
 have C:=Za c;obtain⟨N,c1,Q,D,R,ZP,j,l,S,T⟩:=c;clear ZP j l D;go_enter Tryz.func159,Tryz.ntmps159;go_wp2_with fail
 go_big_quiet ((fail))
 go_wp2_with (first|(go_at_call 150;refine(Yx _ _).mono ?_;rintro e w' ⟨rfl,rfl⟩;simp only[i])|(go_at_call 188;refine(YJ _ _).mono ?_;rintro e w' ⟨rfl,rfl⟩;simp only[d])|(go_at_call 195;refine(t.o _ (by exact⟨_,rfl⟩)).mono ?_;rintro e F ⟨rfl,f⟩;have p:Hid (Dr w F):=(Dr.refl w|>.next nq).trans f;clear f)|(go_at_call 198;refine(Vd b s k a v ts _ 1 n 9 _ _ _ (by exact C.o.dr p.o) q r h (by omega) (by rfl) (by rfl) (by rfl)).mono ?_;rintro e w2 ⟨rfl,⟨g,G⟩,K⟩))
 go_end0
 exact⟨rfl,⟨g,G⟩,(p.o.below b).trans K⟩
theorem Gp (b:Nat)(s:ByteArray)(k a:Nat)(v:M)(ts:List Tk)(w:V)(c:Sc w b s k a v ts)(m:k<s.size)(d:iD (Zv s k)=true)(p:9<Zt iD s k):
  O I 159 #[U (Y ⟨b,0,J⟩)] w fun e w'=>e=Zj 2 a/\Below b w w':=by
 have q:Hid (∀W,Dr w W->O I 195 #[U (Y ⟨b,0,J⟩),.func (.func 188) #[] #[]] W fun e w'=>e=Z (E H (Zt iD s k))/\Dr W w'):=
  fun W f=>QK b s k W (by have:=c.sz;unfold maxLen;omega) (by omega) (c.dr f).c0 (c.dr f).c1
 have r:Zv s k<=57/\48<=Zv s k:=by simp[iD]at d;omega
 have g:Zp (Zv s k)=false:=by simp[Zp];omega
 have t:(Zv s k==10)=false:=by simp;omega
 have u:(Zv s k==32)=false:=by simp;omega
 have D:(Zv s k==9)=false:=by simp;omega
 have x:(Zv s k==35)=false:=by simp;omega
 clear r;generalize Zt iD s k=n at*
 have y:=fun w=>ZN (P:=I) Tryz.underlying9 s k (k:Int) rfl m w
 have z:(k:Int)<(s.size:Int):=by omega
 have A:=Za c;obtain⟨F,c1,G,B,K,ZP,h,i,L,N⟩:=c;clear ZP h i B;go_enter Tryz.func159,Tryz.ntmps159;go_wp2_with fail
 go_big_quiet ((fail))
 go_wp2_with (first|(go_at_call 150;refine(Yx _ _).mono ?_;rintro e w' ⟨rfl,rfl⟩;simp only[g])|(go_at_call 188;refine(YJ _ _).mono ?_;rintro e w' ⟨rfl,rfl⟩;simp only[d])|(go_at_call 195;refine(q.o _ (by exact⟨_,rfl⟩)).mono ?_;rintro e C ⟨rfl,f⟩;have j:Hid (Dr w C):=(Dr.refl w|>.next nq).trans f;clear f)|(go_at_call 198;refine(PO b s k a v ts _ 1 n 9 _ _ _ (by exact A.o.dr j.o) p (by rfl) (by rfl) (by rfl)).mono ?_;rintro e w2 ⟨l,rfl⟩;unfold Zj at l;subst l))
 exact⟨rfl,rfl,j.o.below b⟩
theorem Eb (b:Nat)(s:ByteArray)(k a:Nat)(v:M)(ts:List Tk)(w:V)(c:Sc w b s k a v ts)(j:k<s.size)(t:Zv s k=59):
  O I 159 #[U (Y ⟨b,0,J⟩)] w fun e w'=>e=Z (.tuple #[])/\(∃d,Sc w' b s (k+1) a d (ts++[⟨2,s.extract k (k+1),a⟩]))/\Below b w w':=by
 have f:Zp 59=false:=by decide
 have g:iD 59=false:=by decide
 have l:=fun w=>ZN (P:=I) Tryz.underlying9 s k (k:Int) rfl j w
 have m:(k:Int)<(s.size:Int):=by omega
 have n:=Za c;obtain⟨u,c1,x,p,y,ZP,h,i,z,A⟩:=c;clear ZP h i p;go_enter Tryz.func159,Tryz.ntmps159;go_wp2_with fail
 go_big_quiet ((fail))
 go_wp2_with (first|(go_at_call 150;refine(Yx _ _).mono ?_;rintro e w' ⟨rfl,rfl⟩;simp only[f])|(go_at_call 188;refine(YJ _ _).mono ?_;rintro e w' ⟨rfl,rfl⟩;simp only[g])|(go_at_call 198;refine(Vd b s k a v ts _ 2 1 1 _ _ _ (by exact n.o.dr ⟨_,rfl⟩) (by omega) (by omega) (by omega) (by omega) (by rfl) (by rfl) (by rfl)).mono ?_;rintro e w2 ⟨rfl,⟨d,q⟩,r⟩))
 go_end0
 exact⟨rfl,⟨d,q⟩,(Dr.below ⟨nq,rfl⟩ b).trans r⟩
theorem Ec (b:Nat)(s:ByteArray)(k a:Nat)(v:M)(ts:List Tk)(w:V)(c:Sc w b s k a v ts)(j:k<s.size)(t:Zv s k=58):
  O I 159 #[U (Y ⟨b,0,J⟩)] w fun e w'=>e=Z (.tuple #[])/\(∃d,Sc w' b s (k+1) a d (ts++[⟨2,s.extract k (k+1),a⟩]))/\Below b w w':=by
 have f:Zp 58=false:=by decide
 have g:iD 58=false:=by decide
 have l:=fun w=>ZN (P:=I) Tryz.underlying9 s k (k:Int) rfl j w
 have m:(k:Int)<(s.size:Int):=by omega
 have n:=Za c;obtain⟨u,c1,x,p,y,ZP,h,i,z,A⟩:=c;clear ZP h i p;go_enter Tryz.func159,Tryz.ntmps159;go_wp2_with fail
 go_big_quiet ((fail))
 go_wp2_with (first|(go_at_call 150;refine(Yx _ _).mono ?_;rintro e w' ⟨rfl,rfl⟩;simp only[f])|(go_at_call 188;refine(YJ _ _).mono ?_;rintro e w' ⟨rfl,rfl⟩;simp only[g])|(go_at_call 198;refine(Vd b s k a v ts _ 2 1 1 _ _ _ (by exact n.o.dr ⟨_,rfl⟩) (by omega) (by omega) (by omega) (by omega) (by rfl) (by rfl) (by rfl)).mono ?_;rintro e w2 ⟨rfl,⟨d,q⟩,r⟩))
 go_end0
 exact⟨rfl,⟨d,q⟩,(Dr.below ⟨nq,rfl⟩ b).trans r⟩
theorem Ed (b:Nat)(s:ByteArray)(k a:Nat)(v:M)(ts:List Tk)(w:V)(c:Sc w b s k a v ts)(j:k<s.size)(t:Zv s k=44):
  O I 159 #[U (Y ⟨b,0,J⟩)] w fun e w'=>e=Z (.tuple #[])/\(∃d,Sc w' b s (k+1) a d (ts++[⟨2,s.extract k (k+1),a⟩]))/\Below b w w':=by
 have f:Zp 44=false:=by decide
 have g:iD 44=false:=by decide
 have l:=fun w=>ZN (P:=I) Tryz.underlying9 s k (k:Int) rfl j w
 have m:(k:Int)<(s.size:Int):=by omega
 have n:=Za c;obtain⟨u,c1,x,p,y,ZP,h,i,z,A⟩:=c;clear ZP h i p;go_enter Tryz.func159,Tryz.ntmps159;go_wp2_with fail
 go_big_quiet ((fail))
 go_wp2_with (first|(go_at_call 150;refine(Yx _ _).mono ?_;rintro e w' ⟨rfl,rfl⟩;simp only[f])|(go_at_call 188;refine(YJ _ _).mono ?_;rintro e w' ⟨rfl,rfl⟩;simp only[g])|(go_at_call 198;refine(Vd b s k a v ts _ 2 1 1 _ _ _ (by exact n.o.dr ⟨_,rfl⟩) (by omega) (by omega) (by omega) (by omega) (by rfl) (by rfl) (by rfl)).mono ?_;rintro e w2 ⟨rfl,⟨d,q⟩,r⟩))
 go_end0
 exact⟨rfl,⟨d,q⟩,(Dr.below ⟨nq,rfl⟩ b).trans r⟩
theorem Gq (b:Nat)(s:ByteArray)(k a:Nat)(v:M)(ts:List Tk)(w:V)(c:Sc w b s k a v ts)(q:k<s.size)(r:(Zv s k==10)=false)(t:(Zv s k==32)=false)(H:(Zv s k==9)=false)(u:(Zv s k==35)=false)(x:(Zv s k==59)=false)(y:(Zv s k==58)=false)(z:(Zv s k==44)=false)(g:Zp (Zv s k)=false)(i:iD (Zv s k)=false)(j:Ti s k 46 46=true):
  O I 159 #[U (Y ⟨b,0,J⟩)] w fun e w'=>e=Z (.tuple #[])/\(∃l,Sc w' b s (k+2) a l (ts++[⟨2,s.extract k (k+2),a⟩]))/\Below b w w':=by
 have d:=ME j
 have A:Hid (∀W,Dr w W->O I 199 #[U (Y ⟨b,0,J⟩),K ⟨#[46,46]⟩] W fun e w'=>e=Z (R true)/\Dr W w'):=
  fun W f=>(U8 b s ⟨#[46,46]⟩ k W (by have:=c.sz;unfold maxLen;omega) (by unfold maxLen;decide) (by omega) (c.dr f).c0 (c.dr f).c1).mono fun e w' h=>by rw[TV]at h;exact⟨h.1.trans (by rw[show Ti s k ((46:UInt8).toNat:Int) ((46:UInt8).toNat:Int)=Ti s k 46 46 from rfl,j]),h.2⟩
 clear j
 have B:=fun w=>ZN (P:=I) Tryz.underlying9 s k (k:Int) rfl q w
 have C:(k:Int)<(s.size:Int):=by omega
 have D:=Za c;obtain⟨L,c1,N,E,Q,ZP,m,n,S,T⟩:=c;clear ZP m n E;go_enter Tryz.func159,Tryz.ntmps159;go_wp2_with fail
 go_big_quiet ((fail))
 go_wp2_with (first|(go_at_call 150;refine(Yx _ _).mono ?_;rintro e w' ⟨rfl,rfl⟩;simp only[g])|(go_at_call 188;refine(YJ _ _).mono ?_;rintro e w' ⟨rfl,rfl⟩;simp only[i]))
 refine(A.o _ (by exact⟨_,rfl⟩)).mono ?_;rintro e X ⟨rfl,f⟩;have p:=Za ((Dr.refl w|>.next nq).trans f);clear f
 go_wp2_with (go_at_call 198;refine(Vd b s k a v ts _ 2 2 2 _ _ _ (by exact D.o.dr p.o) (by omega) (by omega) d (by omega) (by rfl) (by rfl) (by rfl)).mono ?_;rintro e w3 ⟨rfl,⟨l,F⟩,G⟩)
 go_end0
 exact⟨rfl,⟨l,F⟩,(p.o.below b).trans G⟩
theorem Jo (b:Nat)(s:ByteArray)(k c:Nat)(v:M)(ts:List Tk)(w:V)(a:Sc w b s k c v ts)(t:k<s.size)(u:(Zv s k==10)=false)(x:(Zv s k==32)=false)(Q:(Zv s k==9)=false)(y:(Zv s k==35)=false)(z:(Zv s k==59)=false)(A:(Zv s k==58)=false)(B:(Zv s k==44)=false)(g:Zp (Zv s k)=false)(i:iD (Zv s k)=false)(p:Ti s k 46 46=false)(j:Ti s k 45 62=true):
  O I 159 #[U (Y ⟨b,0,J⟩)] w fun e w'=>e=Z (.tuple #[])/\(∃l,Sc w' b s (k+2) c l (ts++[⟨2,s.extract k (k+2),c⟩]))/\Below b w w':=by
 have f:=ME j
 have C:Hid (∀W,Dr w W->O I 199 #[U (Y ⟨b,0,J⟩),K ⟨#[46,46]⟩] W fun e w'=>e=Z (R false)/\Dr W w'):=
  fun W d=>(U8 b s ⟨#[46,46]⟩ k W (by have:=a.sz;unfold maxLen;omega) (by unfold maxLen;decide) (by omega) (a.dr d).c0 (a.dr d).c1).mono fun e w' h=>by rw[TV]at h;exact⟨h.1.trans (by rw[show Ti s k ((46:UInt8).toNat:Int) ((46:UInt8).toNat:Int)=Ti s k 46 46 from rfl,p]),h.2⟩
 have D:Hid (∀W,Dr w W->O I 199 #[U (Y ⟨b,0,J⟩),K ⟨#[45,62]⟩] W fun e w'=>e=Z (R true)/\Dr W w'):=
  fun W d=>(U8 b s ⟨#[45,62]⟩ k W (by have:=a.sz;unfold maxLen;omega) (by unfold maxLen;decide) (by omega) (a.dr d).c0 (a.dr d).c1).mono fun e w' h=>by rw[TV]at h;exact⟨h.1.trans (by rw[show Ti s k ((45:UInt8).toNat:Int) ((62:UInt8).toNat:Int)=Ti s k 45 62 from rfl,j]),h.2⟩
 clear p j
 have E:=fun w=>ZN (P:=I) Tryz.underlying9 s k (k:Int) rfl t w
 have F:(k:Int)<(s.size:Int):=by omega
 have G:=Za a;obtain⟨S,c1,T,H,X,ZP,m,n,ln,sz⟩:=a;clear ZP m n H;go_enter Tryz.func159,Tryz.ntmps159;go_wp2_with fail
 go_big_quiet ((fail))
 go_wp2_with (first|(go_at_call 150;refine(Yx _ _).mono ?_;rintro e w' ⟨rfl,rfl⟩;simp only[g])|(go_at_call 188;refine(YJ _ _).mono ?_;rintro e w' ⟨rfl,rfl⟩;simp only[i]))
 refine(C.o _ (by exact⟨_,rfl⟩)).mono ?_;rintro e w1 ⟨rfl,d⟩;have q:=Za ((Dr.refl w|>.next nq).trans d);clear d;go_wp2_with fail;refine(D.o _ (by exact q.o)).mono ?_;rintro e w2 ⟨rfl,d⟩;have r:=Za (q.o.trans d);clear d
 go_wp2_with (go_at_call 198;refine(Vd b s k c v ts _ 2 2 2 _ _ _ (by exact G.o.dr r.o) (by omega) (by omega) f (by omega) (by rfl) (by rfl) (by rfl)).mono ?_;rintro e w3 ⟨rfl,⟨l,L⟩,N⟩)
 go_end0
 exact⟨rfl,⟨l,L⟩,(r.o.below b).trans N⟩
theorem Gr (b:Nat)(s:ByteArray)(k d:Nat)(v:M)(ts:List Tk)(w:V)(a:Sc w b s k d v ts)(q:k<s.size)(r:(Zv s k==10)=false)(t:(Zv s k==32)=false)(G:(Zv s k==9)=false)(u:(Zv s k==35)=false)(x:(Zv s k==59)=false)(y:(Zv s k==58)=false)(z:(Zv s k==44)=false)(f:Zp (Zv s k)=false)(g:iD (Zv s k)=false)(l:Ti s k 46 46=false)(m:Ti s k 45 62=false):
  O I 159 #[U (Y ⟨b,0,J⟩)] w fun e w'=>e=Zj 2 d/\Below b w w':=by
 have A:Hid (∀W,Dr w W->O I 199 #[U (Y ⟨b,0,J⟩),K ⟨#[46,46]⟩] W fun e w'=>e=Z (R false)/\Dr W w'):=
  fun W c=>(U8 b s ⟨#[46,46]⟩ k W (by have:=a.sz;unfold maxLen;omega) (by unfold maxLen;decide) (by omega) (a.dr c).c0 (a.dr c).c1).mono fun e w' h=>by rw[TV]at h;exact⟨h.1.trans (by rw[show Ti s k ((46:UInt8).toNat:Int) ((46:UInt8).toNat:Int)=Ti s k 46 46 from rfl,l]),h.2⟩
 have B:Hid (∀W,Dr w W->O I 199 #[U (Y ⟨b,0,J⟩),K ⟨#[45,62]⟩] W fun e w'=>e=Z (R false)/\Dr W w'):=
  fun W c=>(U8 b s ⟨#[45,62]⟩ k W (by have:=a.sz;unfold maxLen;omega) (by unfold maxLen;decide) (by omega) (a.dr c).c0 (a.dr c).c1).mono fun e w' h=>by rw[TV]at h;exact⟨h.1.trans (by rw[show Ti s k ((45:UInt8).toNat:Int) ((62:UInt8).toNat:Int)=Ti s k 45 62 from rfl,m]),h.2⟩
 clear l m
 have C:=fun w=>ZN (P:=I) Tryz.underlying9 s k (k:Int) rfl q w
 have D:(k:Int)<(s.size:Int):=by omega
 have E:=Za a;obtain⟨H,c1,L,F,N,ZP,i,j,Q,S⟩:=a;clear ZP i j F;go_enter Tryz.func159,Tryz.ntmps159;go_wp2_with fail
 go_big_quiet ((fail))
 go_wp2_with (first|(go_at_call 150;refine(Yx _ _).mono ?_;rintro e w' ⟨rfl,rfl⟩;simp only[f])|(go_at_call 188;refine(YJ _ _).mono ?_;rintro e w' ⟨rfl,rfl⟩;simp only[g]))
 refine(A.o _ (by exact⟨_,rfl⟩)).mono ?_;rintro e T ⟨rfl,c⟩;have n:=Za ((Dr.refl w|>.next nq).trans c);clear c;go_wp2_with fail;refine(B.o _ (by exact n.o)).mono ?_;rintro e w2 ⟨rfl,c⟩;have p:=Za (n.o.trans c);clear c;have X:=(E.o.dr p.o).c2;go_wp2;exact⟨rfl,rfl,p.o.below b⟩
theorem Um {w:V}{b:Nat}{s:ByteArray}{k a k' l':Nat}{ts:List Tk}(c:Zl s k a=.skip k' l'){e:Ending}{w':V}
  (h:e=Z (.tuple #[])/\(∃d,Sc w' b s k' l' d ts)/\Below b w w'):V3 w b s k a ts e w':=by
 unfold V3;rw[c];exact h
theorem XM {w:V}{b:Nat}{s:ByteArray}{k a k':Nat}{t:Tk}{ts:List Tk}(c:Zl s k a=.tok t k'){e:Ending}{w':V}
  (h:e=Z (.tuple #[])/\(∃d,Sc w' b s k' a d (ts++[t]))/\Below b w w'):V3 w b s k a ts e w':=by
 unfold V3;rw[c];exact h
theorem TW {w:V}{b:Nat}{s:ByteArray}{k a:Nat}{ts:List Tk}(c:Zl s k a=.bad){e:Ending}{w':V}
  (h:e=Zj 2 a/\Below b w w'):V3 w b s k a ts e w':=by
 unfold V3;rw[c];exact h
theorem Ee (b:Nat)(s:ByteArray)(k a:Nat)(v:M)(ts:List Tk)(w:V)(d:Sc w b s k a v ts)(m:k<s.size):
  O I 159 #[U (Y ⟨b,0,J⟩)] w (V3 w b s k a ts):=by
 by_cases i:Zv s k=10
 ·exact(DN b s k a v ts w d m i).mono fun e w' h=>Um (by simp[Zl,i]) h
 by_cases o:Zv s k=32
 ·exact(DO b s k a v ts w d m o).mono fun e w' h=>Um (by simp[Zl,o]) h
 by_cases y:Zv s k=9
 ·exact(F9 b s k a v ts w d m y).mono fun e w' h=>Um (by simp[Zl,y]) h
 by_cases j:Zv s k=35
 ·exact(LD b s k a v ts w d m j).mono fun e w' h=>Um (by simp[Zl,j]) h
 have t:¬(Zv s k=32\/Zv s k=9):=by omega
 cases g:Zp (Zv s k)with
 |true=>
  cases n:Xh (s.extract k (k+Zt Zi s k))with
  |true=>exact(Ea b s k a v ts w d m g n).mono fun e w' h=>XM (by simp[Zl,i,t,j,g,n]) h
  |false=>
   by_cases A:8<Zt Zi s k
   ·exact(Gn b s k a v ts w d m g n A).mono fun e w' h=>TW (by simp[Zl,i,t,j,g,n,A]) h
   ·exact(Jn b s k a v ts w d m g n (by omega)).mono fun e w' h=>XM (by simp[Zl,i,t,j,g,n,A]) h
 |false=>
  cases l:iD (Zv s k)with
  |true=>
   by_cases u:9<Zt iD s k
   ·exact(Gp b s k a v ts w d m l u).mono fun e w' h=>TW (by simp[Zl,i,t,j,g,l,u]) h
   ·exact(LE b s k a v ts w d m l (by omega)).mono fun e w' h=>XM (by simp[Zl,i,t,j,g,l,u]) h
  |false=>
   by_cases p:Zv s k=59
   ·exact(Eb b s k a v ts w d m p).mono fun e w' h=>XM (by simp[Zl,p,Zp,iD]) h
   by_cases q:Zv s k=58
   ·exact(Ec b s k a v ts w d m q).mono fun e w' h=>XM (by simp[Zl,q,Zp,iD]) h
   by_cases r:Zv s k=44
   ·exact(Ed b s k a v ts w d m r).mono fun e w' h=>XM (by simp[Zl,r,Zp,iD]) h
   have B:¬(Zv s k=59\/Zv s k=58\/Zv s k=44):=by omega
   have f:∀c:Int,¬Zv s k=c->(Zv s k==c)=false:=fun c h=>by simp[h]
   cases x:Ti s k 46 46 with
   |true=>exact(Gq b s k a v ts w d m (f _ i) (f _ o) (f _ y) (f _ j) (f _ p) (f _ q) (f _ r) g l x).mono fun e w' h=>XM (by simp[Zl,i,t,j,g,l,B,x]) h
   |false=>
    cases z:Ti s k 45 62 with
    |true=>exact(Jo b s k a v ts w d m (f _ i) (f _ o) (f _ y) (f _ j) (f _ p) (f _ q) (f _ r) g l x z).mono fun e w' h=>XM (by simp[Zl,i,t,j,g,l,B,x,z]) h
    |false=>exact(Gr b s k a v ts w d m (f _ i) (f _ o) (f _ y) (f _ j) (f _ p) (f _ q) (f _ r) g l x z).mono fun e w' h=>TW (by simp[Zl,i,t,j,g,l,B,x,z]) h
def WQ (w:V)(s:ByteArray)(e:Ending)(w':V):Prop:=
 match ZL s 0 1 []with
 | .ok ts=>(∃v,e=Z v/\w'.ownsRow w.heap.size 263 3 v ts.length (Yb ts)/\ts.length<=s.size+1)/\Below w.heap.size w w'
 | .error l=>e=Zj 2 l/\Below w.heap.size w w'
theorem YY {s:ByteArray}{k a k' l':Nat}{ts:List Tk}(b:k<s.size)(c:Zl s k a=.skip k' l'):ZL s k a ts=ZL s k' l' ts:=by
 rw[ZL,dif_pos b]
 split<;>simp_all
theorem Ve {s:ByteArray}{k a k':Nat}{t:Tk}{ts:List Tk}(b:k<s.size)(c:Zl s k a=.tok t k'):ZL s k a ts=ZL s k' a (ts++[t]):=by
 rw[ZL,dif_pos b]
 split<;>simp_all
theorem XN {s:ByteArray}{k a:Nat}{ts:List Tk}(b:k<s.size)(c:Zl s k a=.bad):ZL s k a ts=.error a:=by
 rw[ZL,dif_pos b]
 split<;>simp_all
theorem Vf {s:ByteArray}{k a:Nat}{ts:List Tk}(b:¬k<s.size):ZL s k a ts=.ok (ts++[⟨3,G,a⟩]):=by
 rw[ZL,dif_neg b]
theorem CV (w:V)(s:ByteArray)(a:s.size<=3000):Sc (w.alloc (.cells #[K s,E H 0,E H 1,L J 0 0] 268)) w.heap.size s 0 1 (L J 0 0) []:=by
 refine⟨?_,?_,?_,?_,?_,oZ _ _ _ _,by simp,by simp,by simp,a⟩
 all_goals simp[go_sem]
theorem Ef (s:ByteArray)(w:V)(X:s.size<=3000):O I 104 #[K s] w (WQ w s):=by
  obtain⟨i,Z,x,y,z⟩:=info_parts Ux;go_enter Tryz.func104,Tryz.ntmps104;go_wp2
  go_loopg [18] s.size (fun m _ wr=>∃k a v ts,m=s.size-k/\Hid (Sc wr w.heap.size s k a v ts)/\Hid (Below w.heap.size w wr)/\Hid (ZL s 0 1 []=ZL s k a ts))
  case atStart=>exact⟨0,1,L J 0 0,[],rfl,CV w s X,(Below.refl _ _).alloc (D _) _,rfl⟩
  case round=>
    obtain⟨k,a,v,ts,rfl,j,B,r⟩:=hrel;have C:=j.o.c0;have c1:=j.o.c1;by_cases b:k<s.size
    · have hd:decide ((k:Int)<(s.size:Int))=true:=by simp;omega
      go_wp2_with fail
      go_big_quiet ((fail))
      go_wp2_with fail;have l:=Za (B.o.trans (Dr.below ⟨nq,rfl⟩ _));refine(Ee w.heap.size s k a v ts _ (j.o.dr ⟨nq,rfl⟩) b).mono ?_;intro e w2 h
      cases d:Zl s k a with
      | skip k' l'=>
        unfold V3 at h;rw[d]at h;obtain⟨rfl,⟨F,M⟩,n⟩:=h;have N:=Ww b d;go_wp2;go_roundg (s.size-k')
        case measure=>omega
        case rel=>exact⟨k',l',F,ts,rfl,M,l.o.trans n,r.o.trans (YY b d)⟩
      | tok t k'=>
        unfold V3 at h;rw[d]at h;obtain⟨rfl,⟨F,M⟩,n⟩:=h;have N:=Va b d;go_wp2;go_roundg (s.size-k')
        case measure=>omega
        case rel=>exact⟨k',a,F,ts++[t],rfl,M,l.o.trans n,r.o.trans (Ve b d)⟩
      | bad=>
        unfold V3 at h;rw[d]at h;obtain⟨T,n⟩:=h;unfold Zj at T;subst T
        have p:WQ w s (Zj 2 a) w2:=by
          unfold WQ;rw[r.o.trans (XN b d)];exact⟨rfl,l.o.trans n⟩
        exact⟨rfl,p⟩
    · have hd:decide ((k:Int)<(s.size:Int))=false:=by simp;omega
      go_wp2_with fail
      go_big_quiet ((fail))
      go_wp2_with fail;have P:=j.o.dr (w':=wr.drewN nq) ⟨nq,rfl⟩;have l:=Za (B.o.trans (Dr.below ⟨nq,rfl⟩ _));clear C c1 B j;generalize wr.drewN nq=u at*;obtain⟨C,c1,U,c3,fz,ZP,a0,b0,ln,sz⟩:=P;clear C c1 fz;have Q:w.heap.size<u.heap.size:=bL u _ U
      go_region_held3 (fun w'=>w'.cell? ⟨w.heap.size,2,J⟩=Y (E H a)/\w'.cell? ⟨w.heap.size,3,J⟩=Y v) (go_keep)
        ((refine step_append_lies _ rfl (.tmp 22) (.tmp 28) 193 rfl (w.heap.size+1) 263 i _ 3 32 Tryz.underlying193 Z x y z rfl (by decide) v ts.length (Yb ts) rfl (by exact(ZP.alloc _).drew) ⟨u.heap.size,0,J⟩ 1 1 [E H 3,K G,E H a] rfl rfl (by exact World.news_of_block (heap_alloc_new u _)) (by simp[A]) (by decide) (by unfold maxLen;omega) (by omega) (by simp;omega) _ rfl (fun g cap w1 f c _ _=>?_)
          obtain⟨R,_,q⟩:=Qf ZP Q ((Below.refl _ _).alloc (D _) _).drew c;have d2:=(R 2).trans U;have d3:=(R 3).trans c3;have HO:=Za f;have HE:=Za q
          clear R c f q))
      go_wp2;go_ret;unfold WQ;rw[r.o.trans (Vf b)];refine⟨⟨_,rfl,?_,by simp;omega⟩,l.o.trans HE.o⟩;have W:=HO.o;rw[Tm,lA];exact⟨W.1,W.2.imp id (fun⟨g,cap,S,h1,h2,h3⟩=>⟨g,cap,S,h1,by omega,h3⟩)⟩
structure Fr (S:Nat->Prop)(w w':V):Prop where
 os:w'.os=w.os
 tape:w'.tape=w.tape
 output:w'.output=w.output
 size:w.heap.size<=w'.heap.size
 block:∀k,k<w.heap.size->¬S k->w'.heap[k]?=w.heap[k]?
abbrev F0:V->V->Prop:=Fr (fun(_:Nat)=>False)
theorem Fr.refl (S:Nat->Prop)(w:V):Fr S w w:=⟨rfl,rfl,rfl,D _,fun _ _ _=>rfl⟩
theorem Fr.trans {S:Nat->Prop}{a b c:V}(h:Fr S a b)(k:Fr S b c):Fr S a c:=
 ⟨k.os.trans h.os,k.tape.trans h.tape,k.output.trans h.output,X h.size k.size,fun i d e=>(k.block i (nL d h.size) e).trans (h.block i d e)⟩
theorem Fr.mono {S T:Nat->Prop}{w w':V}(h:Fr S w w')(a:∀k,S k->T k):Fr T w w':=⟨h.os,h.tape,h.output,h.size,fun k b c=>h.block k b fun d=>c (a k d)⟩
theorem Fr.monoNew {S T:Nat->Prop}{a w w':V}(h:Fr S a w)(k:Fr T w w')(d:∀i,T i->S i\/a.heap.size<=i):Fr S a w':=
 ⟨k.os.trans h.os,k.tape.trans h.tape,k.output.trans h.output,X h.size k.size,fun i b c=>
  (k.block i (nL b h.size) fun e=>(d i e).elim c (fun f=>by omega)).trans (h.block i b c)⟩
theorem Fr.of_below {S:Nat->Prop}{w w':V}(h:Below w.heap.size w w'):Fr S w w':=⟨h.os,h.tape,h.output,h.size,fun k a _=>h.block k a⟩
theorem Fr.alloc {S:Nat->Prop}{a w:V}(h:Fr S a w)(o:Obj):Fr S a (w.alloc o):=
 h.trans (Fr.of_below ((Below.refl _ _).alloc (D _) o))
theorem Fr.drew {S:Nat->Prop}{a w:V}(h:Fr S a w):Fr S a w.drew:=h.trans ⟨rfl,rfl,rfl,D _,fun _ _ _=>rfl⟩
theorem Fr.setCell {S:Nat->Prop}{a w:V}(h:Fr S a w){p:Addr}(c:S p.block\/a.heap.size<=p.block)(u:M):Fr S a (w.setCell p u):=
 ⟨h.os,h.tape,h.output,by simpa using h.size,fun k d b=>by
  rw[Below.heap_setCell _ _ _ _ (fun e=>by subst e;exact c.elim b (fun f=>by omega))]
  exact h.block k d b⟩
theorem Fr.cell {S:Nat->Prop}{w w':V}(h:Fr S w w'){p:Addr}(a:p.block<w.heap.size)(b:¬S p.block):w'.cell? p=w.cell? p:=World.cell?_of_block (w:=w) (h.block p.block a b)
theorem Fr.frozen {S:Nat->Prop}{w w':V}(h:Fr S w w'){p:Addr}(a:p.block<w.heap.size)(b:¬S p.block):w'.frozen? p=w.frozen? p:=World.frozen?_of_block (w:=w) (h.block p.block a b)
theorem Fr.below {S:Nat->Prop}{w w':V}(h:Fr S w w'){B:Nat}(c:B<=w.heap.size)(a:∀k,S k->B<=k):Below B w w':=
 ⟨h.os,h.tape,h.output,h.size,fun k d=>h.block k (by omega) fun b=>by have:=a k b;omega⟩
def SY (t:Tk):M:=.agg #[E H t.sort,K t.text,E H t.line]
structure Pa (w:V)(p g cap:Nat)(ts:List Tk)(i:Nat):Prop where
 c0:w.cell? ⟨p,0,J⟩=Y (L (Y ⟨g,0,J⟩) ts.length cap)
 c1:w.cell? ⟨p,1,J⟩=Y (E H i)
 fz:∀o,w.frozen? ⟨p,o,J⟩=false
 row:∀j t,ts[j]?=Y t->w.cell? ⟨g,j*3,J⟩=Y (E H t.sort)/\w.cell? ⟨g,j*3+1,J⟩=Y (K t.text)/\w.cell? ⟨g,j*3+2,J⟩=Y (E H t.line)
 ne:g≠p
 gl:g<w.heap.size
 lt:i<ts.length
 few:ts.length<=4000
 last:(ts.getLastD ⟨3,G,0⟩).sort=3
theorem Vr (w:V)(p g cap:Nat)(ts:List Tk)(i:Nat)(t:Tk)(h:Pa w p g cap ts i)(b:ts[i]?=Y t):
  O I 156 #[U (Y ⟨p,0,J⟩)] w fun e w'=>e=Z (SY t)/\F0 w w':=by
 obtain⟨c,c1,j,row,k,l,m,d,a⟩:=h;obtain⟨n,o,q⟩:=row i t b;have f:p<w.heap.size:=bL w _ c
 have r:(i:Int)<(ts.length:Int):=by omega
 clear row a;go_enter Tryz.func156,Tryz.ntmps156;go_wp2_with fail
 go_region_held3 (fun w'=>w'.cell? ⟨p,0,J⟩=Y (L (Y ⟨g,0,J⟩) ts.length cap)/\w'.cell? ⟨p,1,J⟩=Y (E H i)/\w'.cell? ⟨g,i*3,J⟩=Y (E H t.sort)/\w'.cell? ⟨g,i*3+1,J⟩=Y (K t.text)/\w'.cell? ⟨g,i*3+2,J⟩=Y (E H t.line)) (go_keep) (fail)
 go_wp2;exact bodyPost_ret (v:=SY t) (by simp[results,Tryz.results156,go_sem,SY]) rfl ⟨rfl,((Fr.refl _ _).alloc _).drew⟩
theorem Pa.fr {w w':V}{p g cap:Nat}{ts:List Tk}{i:Nat}{S:Nat->Prop}(h:Pa w p g cap ts i)(d:Fr S w w')(s:∀k,S k->k≠p/\k≠g):Pa w' p g cap ts i:=by
 obtain⟨u,c1,v,row,x,m,y,n,l⟩:=h;have f:p<w.heap.size:=bL w _ u
 have q:¬S p:=fun e=>(s p e).1 rfl
 have r:¬S g:=fun e=>(s g e).2 rfl
 refine⟨?_,?_,fun o=>?_,fun j t z=>?_,x,nL m d.size,y,n,l⟩
 ·rw[d.cell (p:=⟨p,0,J⟩) f q];exact u
 ·rw[d.cell (p:=⟨p,1,J⟩) f q];exact c1
 ·rw[d.frozen (p:=⟨p,o,J⟩) f q];exact v o
 ·obtain⟨a,b,c⟩:=row j t z
  rw[d.cell (p:=⟨g,j*3,J⟩) m r,d.cell (p:=⟨g,j*3+1,J⟩) m r,d.cell (p:=⟨g,j*3+2,J⟩) m r];exact⟨a,b,c⟩
theorem Pa.next {w:V}{p g cap:Nat}{ts:List Tk}{i:Nat}{t:Tk}(h:Pa w p g cap ts i)(k:ts[i]?=Y t)(l:t.sort≠3):
  Pa (w.setCell ⟨p,1,J⟩ (E H (i+1:Nat))) p g cap ts (i+1):=by
 obtain⟨m,c1,n,row,d,q,u,b,a⟩:=h;refine⟨?_,?_,fun o=>by simp[n o],fun j t r=>?_,d,by simpa using q,?_,b,a⟩
 ·rw[cO _ _ _ _ (by simp)];exact m
 ·exact cS _ _ _ c1
 ·have c:∀o,(⟨p,1,J⟩:Addr)≠⟨g,o,J⟩:=fun o e=>d (by injection e with s;exact s.symm)
  rw[cO _ _ _ _ (c _),cO _ _ _ _ (c _),cO _ _ _ _ (c _)];exact row j t r
 ·rcases Nat.lt_or_ge (i+1) ts.length with f|f
  ·exact f
  ·exfalso
   apply l
   have e:i=ts.length-1:=by omega
   rw[List.getLastD_eq_getLast?,List.getLast?_eq_getElem?,<-e,k]at a;exact a
theorem TX (w:V)(p g cap:Nat)(ts:List Tk)(i:Nat)(t:Tk)(m:ByteArray)(h:Pa w p g cap ts i)(f:ts[i]?=Y t)(b:Zq t m=true):
  O I 191 #[U (Y ⟨p,0,J⟩),K m] w fun e w'=>e=Z (R true)/\Pa w' p g cap ts (i+1)/\Fr (fun k=>k=p) w w':=by
 unfold Zq at b;rw[Bool.and_eq_true,decide_eq_true_eq]at b;obtain⟨n,u⟩:=b;have c:=Za h;have d:p<w.heap.size:=bL w _ h.c0
 have v:i<=4000:=by have:=h.lt;have:=h.few;omega
 have q:=Za (Vr w p g cap ts i t h f);clear h;go_enter Tryz.func191,Tryz.ntmps191;go_wp2_with fail;refine q.o.mono ?_;rintro e r ⟨rfl,a⟩;have c1:=(c.o.fr a (by simp)).c1;have x:=(c.o.fr a (by simp)).fz;have s:p<r.heap.size:=nL d a.size;have j:=Za a;clear a;simp only[SY];simp only[n];go_wp2;go_ret;have l:=((c.o.fr j.o (by simp)).next f (by omega)).fr (S:=fun _=>False) ((Fr.refl _ _).alloc (.cells #[E H 2,K t.text,E H t.line] 263)) (by simp);rw[Int.natCast_add]at l;exact⟨rfl,l,((j.o.mono (T:=fun k=>k=p) (by simp)).setCell (Or.inl rfl) _).alloc _⟩
theorem RA (w:V)(p g cap:Nat)(ts:List Tk)(i:Nat)(t:Tk)(m:ByteArray)(h:Pa w p g cap ts i)(q:ts[i]?=Y t)(d:Zq t m=false):
  O I 191 #[U (Y ⟨p,0,J⟩),K m] w fun e w'=>e=Z (R false)/\F0 w w':=by
 unfold Zq at d;by_cases f:t.sort=2
 ·have r:(t.text.toList==m.toList)=false:=by simpa[f]using d
  clear d;have c:=Za h;have b:p<w.heap.size:=bL w _ h.c0
  have s:i<=4000:=by have:=h.lt;have:=h.few;omega
  have j:=Za (Vr w p g cap ts i t h q);clear h;go_enter Tryz.func191,Tryz.ntmps191;go_wp2_with fail;refine j.o.mono ?_;rintro e k ⟨rfl,a⟩;have c1:=(c.o.fr a (by simp)).c1;have u:=(c.o.fr a (by simp)).fz;have l:p<k.heap.size:=nL b a.size;have n:=Za a;clear a;simp only[SY];simp only[f];go_wp2;go_ret;exact⟨rfl,n.o.alloc _⟩
 ·have r:((t.sort:Int) !=2)=true:=by simp;omega
  clear d f;have c:=Za h;have b:p<w.heap.size:=bL w _ h.c0
  have s:i<=4000:=by have:=h.lt;have:=h.few;omega
  have j:=Za (Vr w p g cap ts i t h q);clear h;go_enter Tryz.func191,Tryz.ntmps191;go_wp2_with fail;refine j.o.mono ?_;rintro e k ⟨rfl,a⟩;have c1:=(c.o.fr a (by simp)).c1;have u:=(c.o.fr a (by simp)).fz;have l:p<k.heap.size:=nL b a.size;have n:=Za a;clear a;simp only[SY];go_wp2;go_ret;exact⟨rfl,n.o.alloc _⟩
theorem YC (t:Tk)(a:Nat)(b:Int)(w:V)(c:b=a):
  O I 194 #[SY t,E H b] w fun e w'=>e=Zj a t.line/\F0 w w':=by
 subst c;unfold SY;go_enter Tryz.func194,Tryz.ntmps194;go_wp2;exact⟨rfl,rfl,(Fr.refl _ _).alloc _⟩
theorem Jp (w:V)(p g cap:Nat)(ts:List Tk)(i:Nat)(t:Tk)(m:ByteArray)(h:Pa w p g cap ts i)(a:ts[i]?=Y t)(b:Zq t m=true):
  O I 158 #[U (Y ⟨p,0,J⟩),K m] w fun e w'=>e=Z (.tuple #[])/\Pa w' p g cap ts (i+1)/\Fr (fun k=>k=p) w w':=by
 go_enter Tryz.func158,Tryz.ntmps158
 go_wp2_with (go_at_call 191;refine(TX w p g cap ts i t m h a b).mono ?_;rintro e f ⟨rfl,c,d⟩)
 go_end0
 exact⟨rfl,c,d⟩
theorem Gs (w:V)(p g cap:Nat)(ts:List Tk)(i:Nat)(t:Tk)(m:ByteArray)(h:Pa w p g cap ts i)(b:ts[i]?=Y t)(j:Zq t m=false):
  O I 158 #[U (Y ⟨p,0,J⟩),K m] w fun e w'=>e=Zj 3 t.line/\F0 w w':=by
 have c:=Za h;clear h;go_enter Tryz.func158,Tryz.ntmps158
 go_wp2_with (go_at_call 191;refine(RA w p g cap ts i t m c.o b j).mono ?_;rintro e k ⟨rfl,a⟩;have d:Hid (F0 w k):=a;clear a)
 refine(Vr _ p g cap ts i t (c.o.fr d.o (by simp)) b).mono ?_;rintro e w2 ⟨rfl,a⟩;have l:=Za (d.o.trans a);clear a;go_wp2_with fail;refine(YC t 3 _ _ (by rfl)).mono ?_;rintro e n ⟨f,a⟩;unfold Zj at f;subst f;exact⟨rfl,rfl,l.o.trans a⟩
theorem Eg (w:V)(p g cap:Nat)(ts:List Tk)(i:Nat)(t:Tk)(a:Nat)(m:Int)(h:Pa w p g cap ts i)(j:ts[i]?=Y t)(q:t.sort=a)(z:a≠3)(r:m=a):
    O I 229 #[U (Y ⟨p,0,J⟩),E H m] w fun e w'=>e=Z (SY t)/\Pa w' p g cap ts (i+1)/\Fr (fun k=>k=p) w w':=by
  subst r;have d:=Za h;have l:p<w.heap.size:=bL w _ h.c0
  have A:i<=4000:=by have:=h.lt;have:=h.few;omega
  have B:=Za (Vr w p g cap ts i t h j);clear h;go_enter Tryz.func229,Tryz.ntmps229;go_wp2_with fail;refine(Vr _ p g cap ts i t (d.o.fr (S:=fun _=>False) ((Fr.refl _ _).alloc _) (by simp)) j).mono ?_;rintro e c ⟨rfl,b⟩;have f:=Za (((Fr.refl _ _).alloc _).trans b);have c1:=(d.o.fr f.o (by simp)).c1;have C:=(d.o.fr f.o (by simp)).fz;have s:p<c.heap.size:=nL l f.o.size
  have F:w.heap.size<c.heap.size:=by have:=b.size;simp at this;omega
  have L:c.cell? ⟨w.heap.size,0,J⟩=Y (E H 0):=by rw[b.cell (p:=⟨w.heap.size,0,J⟩) (by simp) (by simp)];simp[go_sem]
  have M:c.cell? ⟨w.heap.size,1,J⟩=Y (K G):=by rw[b.cell (p:=⟨w.heap.size,1,J⟩) (by simp) (by simp)];simp[go_sem];rfl
  have N:c.cell? ⟨w.heap.size,2,J⟩=Y (E H 0):=by rw[b.cell (p:=⟨w.heap.size,2,J⟩) (by simp) (by simp)];simp[go_sem]
  have P:∀o,c.frozen? ⟨w.heap.size,o,J⟩=false:=fun o=>by rw[b.frozen (p:=⟨w.heap.size,o,J⟩) (by simp) (by simp)];simp[go_sem]
  have u:¬p=w.heap.size:=by omega
  have x:¬w.heap.size=p:=by omega
  clear b;simp only[SY,q];go_wp2;have y:=d.o.gl;have n:=((d.o.fr f.o (by simp)).next j (by omega)).fr (S:=fun k=>k=w.heap.size)
    (((((Fr.refl (fun k=>k=w.heap.size) _).setCell (p:=⟨w.heap.size,0,J⟩) (Or.inl rfl) (E H a)).setCell (p:=⟨w.heap.size,1,J⟩) (Or.inl rfl) (K t.text)).setCell (p:=⟨w.heap.size,2,J⟩) (Or.inl rfl) (E H t.line)).alloc (.cells #[E H a,K t.text,E H t.line] 263)) (fun k Q=>by omega)
  rw[Int.natCast_add]at n
  exact bodyPost_ret (v:=SY t) (by simp[results,Tryz.results229,go_sem,SY, *]) rfl ⟨rfl,n,
    (((((f.o.mono (T:=fun k=>k=p) (by simp)).setCell (Or.inl rfl) _).setCell (Or.inr (D _)) _).setCell (Or.inr (D _)) _).setCell (Or.inr (D _)) _).alloc _⟩
theorem DP (w:V)(p g cap:Nat)(ts:List Tk)(i:Nat)(t:Tk)(a:Nat)(c:Int)(h:Pa w p g cap ts i)(f:ts[i]?=Y t)(j:t.sort≠a)(k:c=a):
  O I 229 #[U (Y ⟨p,0,J⟩),E H c] w fun e w'=>e=Zj 3 t.line/\F0 w w':=by
 subst k
 have q:((t.sort:Int) !=(a:Int))=true:=by simp;omega
 have l:=Za h;have m:p<w.heap.size:=bL w _ h.c0;clear h j;go_enter Tryz.func229,Tryz.ntmps229;go_wp2_with fail;refine(Vr _ p g cap ts i t (l.o.fr (S:=fun _=>False) ((Fr.refl _ _).alloc _) (by simp)) f).mono ?_;rintro e r ⟨rfl,b⟩;have n:=Za (((Fr.refl _ _).alloc _).trans b);clear b;simp only[SY];go_wp2_with fail;refine(YC t 3 _ _ (by rfl)).mono ?_;rintro e s ⟨d,b⟩;unfold Zj at d;subst d;exact⟨rfl,rfl,(n.o.alloc _).trans b⟩
