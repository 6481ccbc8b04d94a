import Derived.Test.YtccikgogjfbpeaaGreatDoorAl
open Option renaming none->I,some->J
open Go.Value renaming int->Y,pointer->K,slice->O,string->H,oneCell'->C,slice->z9,bool->y7,agg->x7
open Go.IntKind renaming i64->Z,u8->F,i64->z8,u8->q6
open Go.Proofs.Tryz renaming prog->U
open Go.RowKit renaming Hid->E
open Go.Obj renaming cells->D
open Go renaming Calls->G,World->A,Value->y1
open Nat renaming le_refl->M,xor_assoc->z4,pow_le_pow_right->z6,mod_two_eq_zero_or_one->y0,testBit_two_pow_mul->y4,testBit_lt_two_pow->y5,eq_of_testBit_eq->y6,mod_eq_of_lt->x0,testBit_xor->x1,min_eq_left->x2,mul_assoc->x5,xor_comm->x6,pow_add->x9,zero_le->q4
open Go.Ending renaming returned->R
open Go.World renaming news_of_block->L,ownsRow->y8
open List renaming length_take->z5,getElem?_append_left->y2,all_eq_true->y3,getD->y9,mem_range->x4,range->q5
open Or renaming inr->z7,inl->x8
namespace Go.Proofs.YtccikgogjfbpeaaGreatDoor
set_option maxRecDepth 30000
set_option maxHeartbeats 8000000
def Pv:List UInt8->Nat
 |[]=>0
 |c::r=>c.toNat+256*Pv r
def t1 (r:Nat):Nat:=(r/2)^^^(if r % 2=1 then 3988292384 else 0)
def tn:Nat->Nat->Nat
 |0,r=>r
 |n+1,r=>tn n (t1 r)
theorem vR (a b):t1 (a^^^b)=t1 a^^^t1 b:=by
 unfold t1;have h:=Nat.xor_mod_two_pow (a:=a) (b:=b) (n:=1);simp only[Nat.pow_one]at h;rw[Nat.xor_div_two,h]
 have e:∀p q x y:Nat,(p^^^x)^^^(q^^^y)=(p^^^q)^^^(x^^^y):=fun p q x y=>by
  rw[z4,<-z4 x,x6 x q,z4 q,<-z4]
 rw[e]
 congr 1
 rcases y0 a with c|c<;>rcases y0 b with d|d<;>rw[c,d]<;>decide
theorem Eq:∀(n a b:Nat),tn n (a^^^b)=tn n a^^^tn n b
 |0,_,_=>rfl
 |n+1,a,b=>by
  show tn n (t1 (a^^^b))=_
  rw[vR,Eq n];rfl
theorem Er:∀(m n r:Nat),tn (m+n) r=tn n (tn m r)
 |0,n,r=>by rw[Nat.zero_add];rfl
 |m+1,n,r=>by
  rw[show m+1+n=(m+n)+1 from by omega];exact Er m n (t1 r)
theorem vS (q):t1 (2*q)=q:=by
 unfold t1;rw[Nat.mul_div_cancel_left q (by decide),if_neg (by omega),Nat.xor_zero]
theorem Es:∀(n q:Nat),tn n (2^n*q)=q
 |0,q=>by simp[tn]
 |n+1,q=>by
  show tn n (t1 (2^(n+1)*q))=q
  rw[show 2^(n+1)*q=2*(2^n*q)from by rw[Nat.pow_succ,Nat.mul_comm (2^n) 2,x5],vS];exact Es n q
theorem uz {r}(h:r<4294967296):t1 r<4294967296:=by
 unfold t1;exact Nat.xor_lt_two_pow (n:=32) (by omega) (by split<;>omega)
theorem DH:∀(n:Nat){r:Nat},r<4294967296->tn n r<4294967296
 |0,_,h=>h
 |n+1,_,h=>DH n (uz h)
theorem JV {n a b}(h:b<2^n):b^^^2^n*a=b+2^n*a:=by
 apply y6;intro i;rw[x1,Nat.add_comm b,Nat.testBit_two_pow_mul_add _ h,y4];by_cases hi:i<n
 ·have:¬n<=i:=by omega
  simp[hi,this]
 have c:b<2^i:=nL h (z6 (by decide) (by omega))
 simp[hi,y5 c,show n<=i from by omega]
def B3:Nat->List UInt8->Nat
 |r,[]=>r
 |r,c::l=>B3 (tn 8 (r^^^c.toNat)) l
theorem vT:∀(l:List UInt8)(r:Nat),B3 r l=tn (8*l.length) (r^^^Pv l)
 |[],r=>by simp[B3,Pv,tn]
 |c::l,r=>by
  have a:=c.toNat_lt
  show B3 (tn 8 (r^^^c.toNat)) l=_
  rw[vT l,show Pv (c::l)=c.toNat^^^2^8*Pv l from(JV a).symm,<-z4,show 8*(c::l).length=8+8*l.length from by simp;omega,Er,Eq 8 (r^^^c.toNat),Es 8]
theorem DI:∀(l m:List UInt8),Pv (l++m)=Pv l+2^(8*l.length)*Pv m
 |[],m=>by simp[Pv]
 |c::l,m=>by
  show c.toNat+256*Pv (l++m)=(c.toNat+256*Pv l)+_
  rw[DI l m,Nat.mul_add,show 8*(c::l).length=8+8*l.length from by simp;omega,x9,show(2:Nat)^8=256 from by decide,x5,Nat.add_assoc]
theorem zN:∀(l:List UInt8),Pv l<2^(8*l.length)
 |[]=>by simp[Pv]
 |c::l=>by
  have:=zN l;have a:=c.toNat_lt
  show c.toNat+256*Pv l<_
  rw[show 8*(c::l).length=8+8*l.length from by simp;omega,x9,show(2:Nat)^8=256 from by decide];omega
def MT:List Nat:=[0,498536548,997073096,651767980,1994146192,1802195444,1303535960,1342533948,3988292384,4027552580,3604390888,3412177804,2607071920,2262029012,2685067896,3183342108]
theorem xI (r):tn 4 r=(r/16)^^^MT.getD (r % 16) 0:=by
 have h:r % 16<2^4:=by omega
 have e:r=r % 16^^^2^4*(r/16):=by rw[JV h];omega
 conv=>lhs;rw[e]
 rw[Eq,Es,x6]
 congr 1
 have:r % 16=0\/r % 16=1\/r % 16=2\/r % 16=3\/r % 16=4\/r % 16=5\/r % 16=6\/r % 16=7\/r % 16=8\/r % 16=9\/r % 16=10\/r % 16=11\/r % 16=12\/r % 16=13\/r % 16=14\/r % 16=15:=by omega
 rcases this with h|h|h|h|h|h|h|h|h|h|h|h|h|h|h|h<;>rw[h]<;>decide
abbrev Rd (α:Type):=Nat->Option (α×Nat)
def R6 (b:List UInt8)(n:Nat):Rd (List UInt8):=fun i=>if i+n<=b.length then J ((b.drop i).take n,i+n)else I
def Y4 (b:List UInt8)(n:Nat)(lo hi:Int):Rd Nat:=fun i=>match R6 b n i with
 |none=>I
 |some (l,j)=>if lo<=Pv l/\(Pv l:Int)<=hi then J (Pv l,j)else I
def WS {α:Type}(one:Rd α):Nat->Rd (List α)
 |0=>fun i=>J ([],i)
 |n+1=>fun i=>match one i with
  |none=>I
  |some (x,j)=>match WS one n j with
   |none=>I
   |some (l,k)=>J (x::l,k)
def YN {α:Type}(b:List UInt8)(lo hi:Int)(one:Rd α):Rd (List α):=fun i=>match Y4 b 1 lo hi i with
 |none=>I
 |some (n,j)=>WS one n j
def WC (s:ByteArray):Bool:=decide (1<=s.size)&&(decide (s.size<=8)&&(ZK (ZD s 0)&&(!Y8 s&&s.data.toList.all fun c=>Zq (c.toNat:Int))))
def UG (b:List UInt8):Rd ByteArray:=fun i=>match Y4 b 1 1 8 i with
 |none=>I
 |some (n,j)=>match R6 b n j with
  |none=>I
  |some (l,k)=>if WC ⟨l.toArray⟩then J (⟨l.toArray⟩,k)else I
def Vx (b:List UInt8):Rd Zf:=fun i=>match UG b i with
 |none=>I
 |some (s,j)=>match Y4 b 4 0 1000000 j with
  |none=>I
  |some (x,k)=>match Y4 b 4 0 1000 k with
   |none=>I
   |some (y,l)=>J (⟨s,x,y⟩,l)
def OE (b:List UInt8)(hi:Int):Rd (List Nat):=YN b 1 4 (Y4 b 2 0 hi)
def U9 (b:List UInt8)(s:Nat)(hi:Int):Rd Zl:=fun i=>match Y4 b 1 1 255 i with
 |none=>I
 |some (x,j)=>match OE b hi j with
  |none=>I
  |some (l,k)=>J (⟨s,l,0,x⟩,k)
def Gk (b:List UInt8):Rd Zl:=fun i=>match Y4 b 1 1 255 i with
 |none=>I
 |some (x,j)=>match Y4 b 4 0 1000000000 j with
  |none=>I
  |some (y,k)=>match Y4 b 4 y 1000000000 k with
   |none=>I
   |some (z,l)=>J (⟨1,[y,z],0,x⟩,l)
def JW (b:List UInt8)(s a c:Nat):Rd Zl:=fun i=>match Y4 b 1 0 ((c:Int)-1) i with
 |none=>I
 |some (x,j)=>if s=3 then J (⟨3,[],x,0⟩,j)else match OE b ((a:Int)-1) j with
  |none=>I
  |some (l,k)=>J (⟨s,l,x,0⟩,k)
def V9 (b:List UInt8)(a c:Nat):Rd Zl:=fun i=>match Y4 b 1 0 6 i with
 |none=>I
 |some (s,j)=>if s=0 then U9 b 0 9999 j else if s=1 then Gk b j else if s=2 then U9 b 2 999 j else if s=6 then J (⟨6,[],0,0⟩,j)else JW b s a c j
def OF (l:List Zl):Bool:=(q5 l.length).all fun k=>match l[k]? with
 |none=>true
 |some s=>decide (k+s.skip<l.length)
def Ta (b:List UInt8)(a c:Nat):Rd (List Zl):=fun i=>match YN b 1 255 (V9 b a c) i with
 |none=>I
 |some (l,j)=>if OF l then J (l,j)else I
def Xz (b:List UInt8)(np:Nat):Nat->Rd Tr
 |0=>fun _=>I
 |f+1=>fun i=>match Y4 b 1 0 np i with
  |none=>I
  |some (0,j)=>if f=0 then I else match WS (Xz b np f) 10 j with
   |none=>I
   |some (l,k)=>J (.node (fun d=>l.getD d (.leaf 0)),k)
  |some (s+1,j)=>J (.leaf s,j)
def YO (l:List ByteArray):Bool:=(q5 l.length).all fun k=>match l[k]? with
 |none=>true
 |some s=>decide (UB s 0 l=(k:Int))
structure LR where
 rts:List Zf
 nms:List ByteArray
 prs:List (List Zl)
 root:Tr
def OG (b:List UInt8):Option LR:=match YN b 0 6 (Vx b) 0 with
 |none=>I
 |some (rts,i)=>match YN b 0 8 (UG b) i with
  |none=>I
  |some (nms,j)=>if YO (rts.map Zf.name)&&YO nms then(match YN b 1 255 (Ta b rts.length nms.length) j with
   |none=>I
   |some (prs,k)=>match Xz b prs.length 7 k with
    |none=>I
    |some (t,l)=>if l=b.length then J ⟨rts,nms,prs,t⟩else I)else I
structure Et (nr nn:Nat)(s:Zl):Prop where
 so:s.sort<=6
 sk:s.skip<=255
 gd:s.sort<3->1<=s.skip
 nl:s.nums.length<=4
 am:s.sort=1->∃x y,s.nums=[x,y]
 ru:s.sort=3\/s.sort=4\/s.sort=5->s.rule<nn
 pl:s.sort=3\/s.sort=4\/s.sort=5->∀x,x∈s.nums->x<nr
def Tr.lows (n:Nat):Tr->Prop
 | .leaf p=>p<n
 | .node k=>∀d,d<10->(k d).lows n
structure LR.Ok (t:LR):Prop where
 r6:t.rts.length<=6
 rt:∀r,r∈t.rts->r.name.size<=8/\r.base<=1000000/\r.rate<=1000
 n8:t.nms.length<=8
 nm:∀s,s∈t.nms->s.size<=8
 pl:t.prs.length<=255
 pr:∀l,l∈t.prs->1<=l.length/\l.length<=255/\(∀s,s∈l->Et t.rts.length t.nms.length s)/\∀k s,l[k]?=J s->k+s.skip<l.length
 dp:t.root.deep 0
 lf:t.root.lows t.prs.length
theorem Yq {b n lo hi i x j}(h:Y4 b n lo hi i=J (x,j)):lo<=x/\(x:Int)<=hi:=by
 unfold Y4 at h
 split at h
 ·cases h
 split at h
 ·rename_i a
  injection h with h;injection h with c d;subst c;exact a
 cases h
theorem Rb {α:Type}{one:Rd α}{P:α->Prop}(b:∀i x j,one i=J (x,j)->P x):∀(n i:Nat)(l:List α)(j:Nat),WS one n i=J (l,j)->l.length=n/\∀x,x∈l->P x
 |0,i,l,j,h=>by
  simp only[WS,Option.some.injEq,Prod.mk.injEq]at h;rw[<-h.1];exact⟨rfl,by simp⟩
 |n+1,i,l,j,h=>by
  simp only[WS]at h
  split at h
  ·cases h
  rename_i x k c
  split at h
  ·cases h
  rename_i r d e
  injection h with h;injection h with f o;subst f;obtain⟨g,m⟩:=Rb b n k r d e;refine⟨by simp[g],fun y a=>?_⟩;rcases List.mem_cons.1 a with rfl|a
  ·exact b _ _ _ c
  exact m y a
theorem Wg {α b lo hi one}{P:α->Prop}(a:∀i x j,one i=J (x,j)->P x){i l j}(h:YN b lo hi one i=J (l,j)):lo<=l.length/\(l.length:Int)<=hi/\∀x,x∈l->P x:=by
 unfold YN at h
 split at h
 ·cases h
 rename_i n k c
 obtain⟨d,e⟩:=Rb a _ _ _ _ h;have:=Yq c;rw[d];exact⟨this.1,this.2,e⟩
theorem MU {b hi i l j}(h:OE b hi i=J (l,j)):l.length<=4/\∀x:Nat,x∈l->(x:Int)<=hi:=by
 obtain⟨_,d,a⟩:=Wg (P:=fun x:Nat=>(x:Int)<=hi) (fun i x j c=>(Yq c).2) h;exact⟨by omega,a⟩
theorem MV {b i s j}(h:UG b i=J (s,j)):s.size<=8:=by
 unfold UG at h
 split at h
 ·cases h
 split at h
 ·cases h
 split at h
 ·rename_i a
  injection h with h;injection h with c d;subst c;unfold WC at a;simp only[Bool.and_eq_true,decide_eq_true_eq]at a;exact a.2.1
 cases h
theorem Gl {b i r j}(h:Vx b i=J (r,j)):r.name.size<=8/\r.base<=1000000/\r.rate<=1000:=by
 unfold Vx at h
 split at h
 ·cases h
 rename_i s _ a
 split at h
 ·cases h
 rename_i x _ c
 split at h
 ·cases h
 rename_i y _ d
 injection h with h;injection h with e f;subst e;have:=(Yq c).2;have:=(Yq d).2;exact⟨MV a,by show x<=_;omega,by show y<=_;omega⟩
theorem MW {b m d i s j}(h:V9 b m d i=J (s,j)):Et m d s:=by
 have p:∀(a:Nat)(hi:Int)(i:Nat),(a=0\/a=2)->U9 b a hi i=J (s,j)->Et m d s:=fun a hi i u h=>by
  unfold U9 at h
  split at h
  ·cases h
  rename_i x _ e
  split at h
  ·cases h
  rename_i l _ n
  injection h with h;injection h with c f;subst c;have q:=Yq e;have g:=MU n;exact⟨by show a<=6;omega,by show x<=255;omega,fun _=>by show 1<=x;omega,g.1,fun h=>by have h:a=1:=h;omega,fun h=>by have h:a=3\/a=4\/a=5:=h;omega,fun h=>by have h:a=3\/a=4\/a=5:=h;omega⟩
 unfold V9 at h
 split at h
 ·cases h
 rename_i t k r
 have v:=(Yq r).2
 split at h
 ·exact p _ _ _ (.inl rfl) h
 split at h
 ·unfold Gk at h
  split at h
  ·cases h
  rename_i x _ e
  split at h
  ·cases h
  split at h
  ·cases h
  injection h with h
  injection h with c f;subst c;have q:=Yq e;exact⟨by show 1<=6;omega,by show x<=255;omega,fun _=>by show 1<=x;omega,by show 2<=4;omega,fun _=>⟨_,_,rfl⟩,fun h=>by have h:1=3\/1=4\/1=5:=h;omega,fun h=>by have h:1=3\/1=4\/1=5:=h;omega⟩
 split at h
 ·exact p _ _ _ (.inr rfl) h
 split at h
 ·injection h with h
  injection h with c f;subst c;exact⟨by show 6<=6;omega,by show 0<=255;omega,fun h=>by have h:6<3:=h;omega,by show 0<=4;omega,fun h=>by have h:6=1:=h;omega,fun h=>by have h:6=3\/6=4\/6=5:=h;omega,fun h=>by have h:6=3\/6=4\/6=5:=h;omega⟩
 rename_i w z n2 A
 unfold JW at h
 split at h
 ·cases h
 rename_i x _ e
 have q:=Yq e
 split at h
 ·injection h with h
  injection h with c f;subst c;exact⟨by show 3<=6;omega,by show 0<=255;omega,fun h=>by have h:3<3:=h;omega,by show 0<=4;omega,fun h=>by have h:3=1:=h;omega,fun _=>by show x<d;omega,fun _ y o=>by simp at o⟩
 split at h
 ·cases h
 rename_i l _ n
 injection h with h;injection h with c f;subst c;have g:=MU n;exact⟨by show t<=6;omega,by show 0<=255;omega,fun h=>by have h:t<3:=h;omega,g.1,fun h=>by have h:t=1:=h;omega,fun _=>by show x<d;omega,fun _ y o=>by have:=g.2 y o;omega⟩
theorem Eu {b a c i l j}(h:Ta b a c i=J (l,j)):1<=l.length/\l.length<=255/\(∀s,s∈l->Et a c s)/\∀k s,l[k]?=J s->k+s.skip<l.length:=by
 unfold Ta at h
 split at h
 ·cases h
 rename_i l' _ e
 split at h
 ·rename_i f
  injection h with h;injection h with g p;subst g;obtain⟨q,r,m⟩:=Wg (P:=Et a c) (fun i x j n=>MW n) e;refine⟨by omega,by omega,m,fun k s d=>?_⟩;have o:=(iG.1 d).1;have:=y3.1 f k (x4.2 o);rw[d]at this
  simpa using this
 cases h
theorem MX {b:List UInt8}{np:Nat}:∀(f i:Nat)(t:Tr)(j:Nat),f<=7->Xz b np f i=J (t,j)->t.deep (7-f)/\t.lows np
 |0,_,_,_,_,h=>by cases h
 |f+1,i,t,j,hf,h=>by
  unfold Xz at h
  split at h
  ·cases h
  ·split at h
   ·cases h
   rename_i p
   split at h
   ·cases h
   rename_i l _ k
   injection h with h;injection h with c m;subst c;obtain⟨q,g⟩:=Rb (P:=fun t:Tr=>t.deep (7-f)/\t.lows np) (fun i x j n=>MX f i x j (by omega) n) _ _ _ _ k
   have e:∀d,d<10->l.getD d (.leaf 0)∈l:=fun d e=>by
    rw[y9,gE (by omega)];exact List.getElem_mem _
   refine⟨⟨by omega,fun d a=>?_⟩,fun d a=>(g _ (e d a)).2⟩;rw[show 7-(f+1)+1=7-f from by omega];exact(g _ (e d a)).1
  rename_i s _ o
  injection h with h;injection h with c m;subst c;have:=(Yq o).2;exact⟨trivial,by show s<np;omega⟩
theorem zO {b t}(h:OG b=J t):t.Ok:=by
 unfold OG at h
 split at h
 ·cases h
 rename_i rts i e
 split at h
 ·cases h
 rename_i a j f
 split at h
 ·split at h
  ·cases h
  rename_i d k g
  split at h
  ·cases h
  rename_i v l m
  split at h
  ·injection h with h
   subst h;obtain⟨w,y,n⟩:=Wg (P:=fun r:Zf=>r.name.size<=8/\r.base<=1000000/\r.rate<=1000) (fun i x j c=>Gl c) e;obtain⟨z,A,o⟩:=Wg (P:=fun s:ByteArray=>s.size<=8) (fun i x j c=>MV c) f;obtain⟨c1,B,p⟩:=Wg (P:=fun l:List Zl=>1<=l.length/\l.length<=255/\(∀s,s∈l->Et rts.length a.length s)/\∀k s,l[k]?=J s->k+s.skip<l.length) (fun i x j c=>Eu c) g;obtain⟨q,u⟩:=MX 7 _ _ _ (by omega) m;exact⟨by show rts.length<=6;omega,n,by show a.length<=8;omega,o,by show d.length<=255;omega,p,q,u⟩
  cases h
 cases h
open Go.RowKit
def Te:Ending:=.panicked [{v:=.iface 223 (x7 #[]),recovered:=false}]
structure Yh (w:A)(B:Nat)(s:ByteArray)(i TT:Nat):Prop where
 bx:w.heap[B]?=J (D #[H s,Y Z (i:Nat),K (J ⟨TT,0,I⟩)] 158)
 le:i<=s.size
 sz:s.size<=200000
theorem Yh.fr {w w' B i a s S}(h:Yh w B s i a)(b:Fr S w w')(c:¬S B:=by simp):Yh w' B s i a:=⟨b.whole h.bx c,h.le,h.sz⟩
theorem Yh.move {w B i c s}(h:Yh w B s i c)(j)(d:j<=s.size):∀a b,Yh (((w.drewN a).setCell ⟨B,1,I⟩ (Y Z (j:Nat))).drewN b) B s j c/\Fr (fun k=>k=B) w (((w.drewN a).setCell ⟨B,1,I⟩ (Y Z (j:Nat))).drewN b):=fun a b=>by
 have f:Fr (fun k=>k=B) w (w.drewN a):=⟨rfl,rfl,rfl,M _,fun _ _ _=>rfl⟩;have g:=f.setCell (p:=⟨B,1,I⟩) (x8 rfl) (Y Z (j:Nat));have e:=heap_setCell_same (w.drewN a) B 1 _ _ (Y Z (j:Nat)) h.bx;exact⟨⟨e,d,h.sz⟩,g.trans ⟨rfl,rfl,rfl,M _,fun _ _ _=>rfl⟩⟩
def P2 {α:Type}(w:A)(B:Nat)(s:ByteArray)(a:Nat)(r:Option (α×Nat))(V:A->y1->α->Prop)(e:Ending)(w':A):Prop:=match r with
 |none=>e=Te/\Fr (fun k=>k=B) w w'
 |some (x,j)=>(∃v,e=R v/\V w' v x)/\Yh w' B s j a/\Fr (fun k=>k=B) w w'
theorem WT (w):G U 76 #[y7 true] w fun e w'=>e=R (.tuple #[])/\w'=w:=by
 go_enter Tryz.func76,Tryz.ntmps76;go_wp2
 go_end0
 exact⟨rfl,rfl⟩
theorem Wu (w):G U 76 #[y7 false] w fun e w'=>e=Te/\w'=w:=by
 go_enter Tryz.func76,Tryz.ntmps76;go_wp2;exact⟨rfl,rfl,rfl⟩
theorem Bu (w B s i a n)(b:Int)(h:Yh w B s i a)(d:i+n<=s.size)(f:b=n):
  G U 177 #[K (J ⟨B,0,I⟩),Y Z b] w fun e w'=>e=R (H (s.extract i (i+n)))/\Yh w' B s (i+n) a/\Fr (fun k=>k=B) w w':=by
 subst f;have g:=Za h;have j:=h.sz;have m:=Zc h.bx 0;have c1:=Zc h.bx 1;have p:=bF h.bx 1
 have l:E (∀W,G U 76 #[y7 true] W fun e w'=>e=R (.tuple #[])/\w'=W):=fun W=>WT W
 have q:decide ((n:Int)<=(s.size:Int)-(i:Int))=true:=by simp;omega
 go_enter Tryz.func177,Tryz.ntmps177;go_wp2_with fail
 go_quiet ((go_at_call 76;exact Calls.quiet_of_same (l.o _)))
 go_wp2_with fail
 go_quiet (fail)
 go_wp2_with fail;go_ret;have c:=g.o.move (i+n) d;rw[Int.natCast_add]at c;exact⟨rfl,c _ _⟩
theorem zP (w B s i c n)(a:Int)(h:Yh w B s i c)(m:s.size<i+n)(d:a=n):
  G U 177 #[K (J ⟨B,0,I⟩),Y Z a] w fun e w'=>e=Te/\Fr (fun k=>k=B) w w':=by
 subst d;have f:=h.sz;have g:=h.le;have j:=Zc h.bx 0;have c1:=Zc h.bx 1;have o:z8.wrap ((s.size:Int)-(i:Int))=(s.size:Int)-(i:Int):=IntWalk.i64_in _ (by constructor<;>omega)
 have p:decide ((n:Int)<=(s.size:Int)-(i:Int))=false:=by simp;omega
 go_enter Tryz.func177,Tryz.ntmps177;go_wp2_with fail;refine wp_region_held_drew (S:=fun W=>W.cell? ⟨B,0,I⟩=J (H s)/\W.cell? ⟨B,1,I⟩=J (Y Z (i:Nat))) (by kernel_rfl) ⟨by simpa using j,by simpa using c1⟩ (fun l=>?_)
 iterate 12 (refine YP 0 l ?_;try go_frame)
 refine Vy 12 (fun q r=>?_);go_simp;refine(Wu _).mono ?_;rintro e t ⟨b,rfl⟩;unfold Te at b;subst b;exact⟨rfl,rfl,Zt.drew⟩
theorem KN (w B s)(i a n:Nat)(b:Int)(h:Yh w B s i a)(d:b=n):
  G U 177 #[K (J ⟨B,0,I⟩),Y Z b] w (P2 w B s a (R6 s.data.toList n i) fun _ v l=>v=H ⟨l.toArray⟩):=by
 have f:s.data.toList.length=s.size:=by simp
 unfold R6;by_cases c:i+n<=s.size
 ·rw[if_pos (by rw[f];exact c)]
  refine(Bu w B s i a n b h c d).mono ?_;rintro e w' ⟨rfl,g,j⟩;refine⟨⟨_,rfl,?_⟩,g,j⟩
  congr 1
  apply ByteArray.ext;apply Array.toList_inj.1;simp[ByteArray.data_extract]
 rw[if_neg (by rw[f];exact c)]
 exact zP w B s i a n b h (by omega) d
theorem zQ (l:List UInt8)(k c)(a:l[k]?=J c):Pv (l.take (k+1))=Pv (l.take k)+2^(8*k)*c.toNat:=by
 have b:=(iG.1 a).1;rw[List.take_add_one,a,DI,z5,x2 (by omega)];simp[Pv]
theorem OZ (a b:Nat)(e:a<9223372036854775808)(f:b<9223372036854775808):bits .or Z (a:Int) (b:Int)=((a|||b:Nat):Int):=by
 have g:a|||b<2^63:=Nat.or_lt_two_pow (by omega) (by omega)
 have c:(BitVec.ofInt 64 (a:Int)).toNat=a:=by
  rw[BitVec.ofInt_natCast,BitVec.toNat_ofNat];exact x0 (by omega)
 have d:(BitVec.ofInt 64 (b:Int)).toNat=b:=by
  rw[BitVec.ofInt_natCast,BitVec.toNat_ofNat];exact x0 (by omega)
 show z8.wrap ((BitVec.ofInt 64 (a:Int)|||BitVec.ofInt 64 (b:Int)).toNat:Int)=_
 rw[BitVec.toNat_or,c,d];exact IntWalk.i64_in _ (by constructor<;>omega)
theorem vU (x c k:Nat)(a:x<2^(8*k))(g:c<256)(h:k<=3):bits BinOp.or z8 (x:Int) (wrap64 ((c:Int)*2^(8*k)))=((x+2^(8*k)*c:Nat):Int):=by
 have b:2^(8*k)<=16777216:=z6 (n:=2) (by decide) (show 8*k<=24 by omega);have j:2^(8*k)*c<=16777216*255:=Nat.mul_le_mul b (by omega)
 have e:((c:Int)*2^(8*k))=((2^(8*k)*c:Nat):Int):=by rw[Int.natCast_mul,Int.natCast_pow,Int.mul_comm];rfl
 rw[e];have d:wrap64 ((2^(8*k)*c:Nat):Int)=((2^(8*k)*c:Nat):Int):=IntWalk.wrap64_in _ (by constructor<;>omega);rw[d,OZ x (2^(8*k)*c) (by omega) (by omega),<-JV a]
 congr 1
 apply y6;intro i;rw[Nat.testBit_or,x1,y4];by_cases hi:8*k<=i
 ·have f:x<2^i:=nL a (z6 (by decide) hi)
  simp[y5 f]
 simp[hi]
theorem Z2 (w B s)(i u n:Nat)(nv lo hi:Int)(h:Yh w B s i u)(hn:n<=4)(hv:nv=n):
  G U 176 #[K (J ⟨B,0,I⟩),Y Z nv,Y Z lo,Y Z hi] w (P2 w B s u (Y4 s.data.toList n lo hi i) fun _ v x=>v=Y Z (x:Nat)):=by
 subst hv;have y:=Za (KN w B s i u n _ h rfl);obtain⟨N,z⟩:∃N,Y4 s.data.toList n lo hi i=N:=⟨_,rfl⟩;rw[z];unfold Y4 at z;obtain⟨r,hr⟩:∃r,R6 s.data.toList n i=r:=⟨_,rfl⟩;rw[hr]at y z;have A:=Za z;have HR:=Za hr;go_enter Tryz.func176,Tryz.ntmps176;go_wp2_with fail;refine y.o.mono ?_;intro e f hp
 cases r with
 |none=>
  obtain⟨b,C⟩:=hp;have D:=A.o.symm;subst D;unfold Te at b;subst b;exact⟨rfl,rfl,C⟩
 |some lj=>
  obtain⟨l,j⟩:=lj;obtain⟨⟨v,rfl,rfl⟩,hR,C⟩:=hp;have H:=Za hR;have L:=Za C;obtain⟨S,hS⟩:∃S:ByteArray,(⟨l.toArray⟩:ByteArray)=S:=⟨_,rfl⟩
  have g:S.data.toList=l:=by rw[<-hS]
  have M:=Za g
  have O:l.length=n:=by
   have e:=HR.o;unfold R6 at e
   split at e
   ·injection e with e
    injection e with D e2;rw[<-D,z5,List.length_drop];omega
   cases e
  have Q:S.size=n:=by rw[<-O,<-g];simp
  rw[hS]
  have R:=fun w=>Lib.run_convert_string_bytes (P:=U) w 9 50 5 S Tryz.underlying9 Tryz.underlying50 Tryz.underlying5
  rw[Q]at R;go_wp2_with fail;have T:E (Fr (fun k=>k=B) w (Lib.bytesWorld f 5 S)):=L.o.trans ((Wn _ _ _).mono);have V:E (Yh (Lib.bytesWorld f 5 S) B s j u):=H.o.fr (S:=fun _=>False) (Wn _ _ _)
  have d:∀k,k<n->(Lib.bytesWorld f 5 S).cell? ⟨f.heap.size,k,I⟩=J (Y F (ZD S k)):=fun k hk=>by
   have:=Lib.bytesWorld_cell f 5 S k (by omega)
   simpa[ZD]using this
  have HC:=Za d;generalize Lib.bytesWorld f 5 S=W at*;generalize grownCap _ _ _ _=cap at*
  go_loop [9,17] (fun xv X=>∃k:Nat,k<=n/\X=Y Z k/\∃x:Nat,xv=Y Z (x:Nat)/\E (x=Pv (l.take k))) (fun _ X=>n-(intOf X).toNat)
  case atStart=>exact⟨0,q4 _,rfl,0,rfl,rfl⟩
  obtain⟨k,hk,rfl,x,rfl,HX⟩:=hrel;by_cases a0:k<n
  ·have hc:=HC.o k a0
   have b0:(k:Int)<(n:Int):=by omega
   obtain⟨c,m⟩:∃c,l[k]?=J c:=⟨_,gE (by omega)⟩;have y:=Za (zQ l k c m)
   have c0:ZD S k=(c.toNat:Int):=by unfold ZD;rw[M.o];simp[y9,m]
   rw[c0]at hc;have d0:=c.toNat_lt;generalize c.toNat=cn at*;have HE:=Za (vU x cn k (by rw[HX.o];have:=zN (l.take k);rw[z5,x2 (by omega)]at this;exact this) d0 (by omega));go_wp2_with fail;refine⟨⟨k+1,by omega,by go_num,x+2^(8*k)*cn,by rw[HE.o],by show _=_;rw[y.o,HX.o]⟩,by simp[intOf];omega⟩
  have b0:¬(k:Int)<(n:Int):=by omega
  have ex:x=Pv l:=by rw[HX.o,List.take_of_length_le (by omega)]
  subst ex;by_cases p:lo<=(Pv l:Int)
  ·by_cases q:(Pv l:Int)<=hi
   ·have t:N=J (Pv l,j):=by rw[<-A.o,if_pos ⟨p,q⟩]
    subst t;go_wp2_with fail;refine(WT _).mono ?_;rintro e w2 ⟨rfl,a⟩;replace a:=a.symm;subst a;go_wp2_with fail;go_ret;exact⟨⟨_,rfl,rfl⟩,V.o,T.o⟩
   have t:N=I:=by rw[<-A.o,if_neg (fun h=>q h.2)]
   subst t;go_wp2_with fail;refine(Wu _).mono ?_;rintro e w2 ⟨b,a⟩;replace a:=a.symm;subst a;unfold Te at b;subst b;exact⟨rfl,rfl,T.o⟩
  have t:N=I:=by rw[<-A.o,if_neg (fun h=>p h.1)]
  subst t;go_wp2_with fail;refine(Wu _).mono ?_;rintro e w2 ⟨b,a⟩;replace a:=a.symm;subst a;unfold Te at b;subst b;exact⟨rfl,rfl,T.o⟩
def Vm (s:ByteArray)(k:Nat):Bool:=(s.data.toList.drop k).all fun c=>Zq (c.toNat:Int)
theorem LS (s k)(h:k<s.size):Vm s k=(Zq (ZD s k)&&Vm s (k+1)):=by
 have a:k<s.data.toList.length:=by simpa using h
 unfold Vm;rw[dC a,List.all_cons]
 congr 2
 simp[ZD,y9,h]
theorem Ev (s w)(hs:s.size<=200000):
  G U 95 #[H s] w fun e w'=>e=R (y7 (WC s))/\F0 w w':=by
 have n:=fun w=>Lib.run_convert_string_bytes (P:=U) w 9 50 5 s Tryz.underlying9 Tryz.underlying50 Tryz.underlying5
 have HS:E (∀c W,G U 150 #[Y F c] W fun e w'=>e=R (y7 (ZK c))/\w'=W):=fun c W=>Ti c W
 have Q:E (∀W,G U 151 #[H s] W fun e w'=>e=R (y7 (Y8 s))/\w'=W):=fun W=>RG s W
 have N:E (∀c W,G U 152 #[Y F c] W fun e w'=>e=R (y7 (Zq c))/\w'=W):=fun c W=>Nj c W
 obtain⟨b,m⟩:∃b,WC s=b:=⟨_,rfl⟩;rw[m];unfold WC at m;by_cases t:s.size=0
 ·have S:s.toList.isEmpty=true:=by
   rw[ByteArray.toList_eq]
   have:s.data.toList.length=0:=by simpa using t
   rw[List.length_eq_zero_iff.1 this];rfl
  have d:b=false:=by rw[<-m];simp[t]
  subst d;clear m n t;go_enter Tryz.func95,Tryz.ntmps95;go_wp2_with fail;go_ret;exact⟨rfl,Zt⟩
 have S:s.toList.isEmpty=false:=by
  rw[ByteArray.toList_eq]
  cases T:s.data.toList with
  |nil=>
   have V:s.data.toList.length=0:=by rw[T];rfl
   exact absurd (by simpa using V) t
  |cons _ _=>rfl
 by_cases X:8<s.size
 ·have y:(8:Int)<(s.size:Int):=by omega
  have d:b=false:=by rw[<-m];simp;omega
  subst d;clear m n t;go_enter Tryz.func95,Tryz.ntmps95;go_wp2_with fail;go_ret;exact⟨rfl,Zt⟩
 have y:¬(8:Int)<(s.size:Int):=by omega
 have u:(ZK (ZD s 0)&&(!Y8 s&&Vm s 0))=b:=by
  rw[<-m,show Vm s 0=s.data.toList.all (fun c=>Zq (c.toNat:Int))from rfl];simp[show 1<=s.size from by omega,show s.size<=8 from by omega]
 have x:0<s.size:=by omega
 have z:E (∀W,G U 150 #[Y F ((s[0]'x).toNat:Int)] W fun e w'=>e=R (y7 (ZK (ZD s 0)))/\w'=W):=fun W=>by
  have e:=Ti ((s[0]'x).toNat:Int) W
  have e2:ZD s 0=((s[0]'x).toNat:Int):=by
   have A:0<s.data.toList.length:=by simpa using x
   unfold ZD;rw[y9,gE A,Option.getD_some];rfl
  rw[e2];exact e
 have B:=Za u;clear m u t X;go_enter Tryz.func95,Tryz.ntmps95;go_wp2_with fail;refine(z.o _).mono ?_;rintro e w1 ⟨rfl,a⟩;replace a:=a.symm;subst a
 cases p:ZK (ZD s 0)with
 |false=>
  have d:b=false:=by rw[<-B.o,p];rfl
  subst d;go_wp2_with fail;go_ret;exact⟨rfl,Zt⟩
 |true=>
  have q:E ((!Y8 s&&Vm s 0)=b):=by show _=_;rw[<-B.o,p,Bool.true_and]
  clear p B;go_wp2_with fail;refine(Q.o _).mono ?_;rintro e w1 ⟨rfl,a⟩;replace a:=a.symm;subst a
  cases r:Y8 s with
  |true=>
   have d:b=false:=by rw[<-q.o,r];rfl
   subst d;go_wp2_with fail;go_ret;exact⟨rfl,Zt⟩
  |false=>
   have C:E (Vm s 0=b):=by show _=_;rw[<-q.o,r];rfl
   clear r q;go_wp2_with fail;have O:E (F0 w (Lib.bytesWorld w 5 s)):=Wn _ _ _
   have f:∀j,j<s.size->(Lib.bytesWorld w 5 s).cell? ⟨w.heap.size,j,I⟩=J (Y F (ZD s j)):=fun j hj=>by
    have:=Lib.bytesWorld_cell w 5 s j hj
    simpa[ZD]using this
   have HC:=Za f;clear f n;generalize Lib.bytesWorld w 5 s=W at*;generalize grownCap _ _ _ _=cap at*
   go_loop [4,25] (fun _ i=>∃k:Nat,k<=s.size/\i=Y Z k/\E (Vm s k=b)) (fun _ i=>s.size-(intOf i).toNat)
   case atStart=>exact⟨0,q4 _,rfl,C⟩
   obtain⟨k,hk,rfl,D⟩:=hrel;by_cases v:k<s.size
   ·have hc:=HC.o k v
    have K:(k:Int)<(s.size:Int):=by omega
    have h:=Za (LS s k v);generalize ZD s k=L at*
    cases l:Zq L with
    |true=>
     rw[l]at h
     have M:E (Vm s (k+1)=b):=by show _=_;rw[<-D.o,h.o,Bool.true_and]
     have g:=Za (N.o L);rw[l]at g;go_wp2_with fail;refine(g.o _).mono ?_;rintro e w2 ⟨rfl,a⟩;replace a:=a.symm;subst a;go_wp2;exact⟨⟨k+1,by omega,by go_num,M⟩,by simp[intOf];omega⟩
    |false=>
     rw[l]at h
     have d:b=false:=by rw[<-D.o,h.o,Bool.false_and]
     subst d;have g:=Za (N.o L);rw[l]at g;go_wp2_with fail;refine(g.o _).mono ?_;rintro e w2 ⟨rfl,a⟩;replace a:=a.symm;subst a;go_wp2;go_ret;exact⟨rfl,O.o⟩
   have K:¬(k:Int)<(s.size:Int):=by omega
   have d:b=true:=by
    rw[<-D.o];unfold Vm;rw[dL (by simpa using(by omega:s.size<=k))];rfl
   subst d;go_wp2;go_ret;exact⟨rfl,O.o⟩
theorem KO (w B s i t)(h:Yh w B s i t):
  G U 122 #[K (J ⟨B,0,I⟩)] w (P2 w B s t (UG s.data.toList i) fun _ v x=>v=H x):=by
 have HH:=Za (Z2 w B s i t 1 1 1 8 h (by decide) rfl);have a0:=h.sz;obtain⟨N,Y⟩:∃N,UG s.data.toList i=N:=⟨_,rfl⟩;rw[Y];have y:=Za Y;go_enter Tryz.func122,Tryz.ntmps122;go_wp2_with fail;refine HH.o.mono ?_;intro e w1 a
 cases u:Y4 s.data.toList 1 1 8 i with
 |none=>
  rw[u]at a;obtain⟨b,z⟩:=a
  have d:N=I:=by rw[<-y.o];unfold UG;rw[u]
  subst d;unfold Te at b;subst b;exact⟨rfl,rfl,z⟩
 |some nj=>
  obtain⟨n,j⟩:=nj;rw[u]at a;obtain⟨⟨v,rfl,rfl⟩,A,C⟩:=a;have HT:=Za (KN w1 B s j t n _ A rfl);have g:=Za C;have D:=Za u;go_wp2_with fail;refine HT.o.mono ?_;intro e w2 a
  cases c:R6 s.data.toList n j with
  |none=>
   rw[c]at a;obtain⟨b,z⟩:=a
   have d:N=I:=by rw[<-y.o];unfold UG;rw[D.o];simp only[c]
   subst d;unfold Te at b;subst b;exact⟨rfl,rfl,(g.o.trans z)⟩
  |some lk=>
   obtain⟨l,k⟩:=lk;rw[c]at a;obtain⟨⟨v,rfl,rfl⟩,F,L⟩:=a;have M:=Za F;have O:=Za (g.o.trans L);have H2:=Za c
   have b0:n<=8:=by have:=(Yq D.o).2;omega
   have P:l.length<=8:=by
    unfold R6 at c
    split at c
    ·injection c with e2
     injection e2 with e3 e4;rw[<-e3,z5];omega
    cases c
   obtain⟨S,Q⟩:∃S:ByteArray,(⟨l.toArray⟩:ByteArray)=S:=⟨_,rfl⟩
   have c0:S.size<=8:=by rw[<-Q];exact P
   have m:E ((if WC S then J (S,k)else I)=N):=by show _=_;rw[<-y.o];unfold UG;rw[D.o];simp only[H2.o,Q]
   have HI:=Za (Ev S w2 (by omega))
   have HC:E (∀W,G U 96 #[H S] W fun e w'=>e=R (H S)/\F0 W w'):=fun W=>VD S W (by omega)
   rw[Q];go_wp2_with fail;refine HI.o.mono ?_;rintro e w3 ⟨rfl,p⟩;have q:=Za (O.o.trans (p.mono));have T:=Za (M.o.fr p)
   cases Z:WC S with
   |false=>
    have d:N=I:=by rw[<-m.o,Z];rfl
    subst d;go_wp2_with fail;refine(Wu _).mono ?_;rintro e w4 ⟨b,f⟩;replace f:=f.symm;subst f;unfold Te at b;subst b;exact⟨rfl,rfl,q.o⟩
   |true=>
    have d:N=J (S,k):=by rw[<-m.o,Z];rfl
    subst d;go_wp2_with fail;refine(WT _).mono ?_;rintro e w4 ⟨rfl,f⟩;replace f:=f.symm;subst f;go_wp2_with fail;refine(HC.o _).mono ?_;rintro e w4 ⟨rfl,r⟩;have V:=Za (q.o.trans (r.mono));have X:=Za (T.o.fr r);go_wp2_with fail;go_ret;exact⟨⟨_,rfl,rfl⟩,X.o,V.o⟩
theorem Yh.set {w B i b s}(h:Yh w B s i b){X}(o v)(a:X≠B):Yh (w.setCell ⟨X,o,I⟩ v) B s i b:=
 h.fr (S:=fun k=>k=X) ((Fr.refl (fun k=>k=X) w).setCell (p:=⟨X,o,I⟩) (x8 rfl) v) (fun e=>a e.symm)
def uf (x:Zf):y1:=x7 #[H x.name,Y Z (x.base:Nat),Y Z (x.rate:Nat)]
theorem Ew (w B s i C)(h:Yh w B s i C):
  G U 120 #[K (J ⟨B,0,I⟩)] w (P2 w B s C (Vx s.data.toList i) fun _ v x=>v=uf x):=by
 obtain⟨f,g⟩:∃f,(w.alloc (D #[H ⟨#[]⟩,Y Z 0,Y Z 0] 148)).alloc (D #[H ⟨#[]⟩,Y Z 0,Y Z 0] 148)=f:=⟨_,rfl⟩;obtain⟨P,X⟩:∃P,w.heap.size=P:=⟨_,rfl⟩
 have m0:B<P:=by rw[<-X];exact(iA.1 h.bx).1
 have l:E (Fr (fun k=>k=B) w f):=by show Fr _ _ _;rw[<-g];exact(Zt.alloc _).alloc _
 have a0:E (f.heap[P]?=J (D #[H ⟨#[]⟩,Y Z 0,Y Z 0] 148)):=by
  show _=_
  rw[<-g,<-X];exact((Fr.refl (fun _=>False) _).alloc _).whole (aN w _)
 have b0:E (f.heap[P+1]?=J (D #[H ⟨#[]⟩,Y Z 0,Y Z 0] 148)):=by
  show _=_
  rw[<-g,<-X];have e:=aN (w.alloc (D #[H ⟨#[]⟩,Y Z 0,Y Z 0] 148)) (D #[H ⟨#[]⟩,Y Z 0,Y Z 0] 148)
  simpa using e
 have d0:E (Yh f B s i C):=by show Yh _ _ _ _ _;rw[<-g];exact h.fr (S:=fun _=>False) ((Zt.alloc _).alloc _)
 have n:=Za X;obtain⟨N,hN⟩:∃N,Vx s.data.toList i=N:=⟨_,rfl⟩;rw[hN];have HN:=Za hN;go_enter Tryz.func120,Tryz.ntmps120;go_upto_region 2 with fail;go_wp2_with fail;refine(KO f B s i C d0.o).mono ?_;intro e w1 b
 cases h1:UG s.data.toList i with
 |none=>
  rw[h1]at b;obtain⟨q,F⟩:=b
  have r:N=I:=by rw[<-HN.o];unfold Vx;rw[h1]
  subst r;unfold Te at q;subst q;exact⟨rfl,rfl,l.o.monoNew (F) (fun k a=>by first|exact .inl a|exact a.imp id (fun h=>by rw[n.o];omega))⟩
 |some nj=>
  obtain⟨t,j⟩:=nj;rw[h1]at b;obtain⟨⟨v,rfl,rfl⟩,e0,u⟩:=b;have H1:=Za h1;have n0:=Za u;have c:=u.whole b0.o (by show¬P+1=B;omega);have c0:=Zc c 0;have z0:=bF c 0;have d:=heap_setCell_same w1 (P+1) 0 _ _ (H t) c;have f0:=Za (e0.set 0 (H t) (show P+1≠B by omega));have g0:=Za d;have L:E (Fr (fun k=>k=B\/P+1=k) f (w1.setCell ⟨P+1,0,I⟩ (H t))):=(u.mono (fun k a=>.inl a)).setCell (p:=⟨P+1,0,I⟩) (.inl (.inr rfl)) _;go_upto_region 3 with fail;generalize w1.setCell ⟨P+1,0,I⟩ (H t)=W1 at*;go_wp2_with fail;refine(Z2 W1 B s j C 4 4 0 1000000 f0.o (by decide) rfl).mono ?_;intro e w2 b
  cases h2:Y4 s.data.toList 4 0 1000000 j with
  |none=>
   rw[h2]at b;obtain⟨q,F⟩:=b
   have r:N=I:=by rw[<-HN.o];unfold Vx;rw[H1.o];simp only[h2]
   subst r;unfold Te at q;subst q;exact⟨rfl,rfl,l.o.monoNew (L.o.trans (F.mono (fun k a=>.inl a))) (fun k a=>by first|exact .inl a|exact a.imp id (fun h=>by rw[n.o];omega))⟩
  |some xk=>
   obtain⟨x,k⟩:=xk;rw[h2]at b;obtain⟨⟨v,rfl,rfl⟩,h0,O⟩:=b;have H2:=Za h2;have c:=O.whole g0.o (by show¬P+1=B;omega);have c1:=Zc c 1;have z1:=bF c 1;have d:=heap_setCell_same w2 (P+1) 1 _ _ (Y Z (x:Nat)) c;have i0:=Za (h0.set 1 (Y Z (x:Nat)) (show P+1≠B by omega));have Q:=Za d;have R:E (Fr (fun k=>k=B\/P+1=k) f (w2.setCell ⟨P+1,1,I⟩ (Y Z (x:Nat)))):=(L.o.trans (O.mono (fun k a=>.inl a))).setCell (p:=⟨P+1,1,I⟩) (.inl (.inr rfl)) _;go_upto_region 4 with fail;generalize w2.setCell ⟨P+1,1,I⟩ (Y Z (x:Nat))=W2 at*;go_wp2_with fail;refine(Z2 W2 B s k C 4 4 0 1000 i0.o (by decide) rfl).mono ?_;intro e w3 b
   cases h3:Y4 s.data.toList 4 0 1000 k with
   |none=>
    rw[h3]at b;obtain⟨q,F⟩:=b
    have r:N=I:=by rw[<-HN.o];unfold Vx;rw[H1.o];simp only[H2.o,h3]
    subst r;unfold Te at q;subst q;exact⟨rfl,rfl,l.o.monoNew (R.o.trans (F.mono (fun k a=>.inl a))) (fun k a=>by first|exact .inl a|exact a.imp id (fun h=>by rw[n.o];omega))⟩
   |some ym=>
    obtain⟨y,m⟩:=ym;rw[h3]at b;obtain⟨⟨v,rfl,rfl⟩,j0,V⟩:=b
    have r:N=J (⟨t,x,y⟩,m):=by rw[<-HN.o];unfold Vx;rw[H1.o];simp only[H2.o,h3]
    subst r;have c:=V.whole Q.o (by show¬P+1=B;omega);have c2:=Zc c 2;have z2:=bF c 2;have d:=heap_setCell_same w3 (P+1) 2 _ _ (Y Z (y:Nat)) c;have k0:=Za (j0.set 2 (Y Z (y:Nat)) (show P+1≠B by omega));have z:=Za d;have W:E (Fr (fun k=>k=B\/P+1=k) f (w3.setCell ⟨P+1,2,I⟩ (Y Z (y:Nat)))):=(R.o.trans (V.mono (fun k a=>.inl a))).setCell (p:=⟨P+1,2,I⟩) (.inl (.inr rfl)) _;go_upto_region 5 with fail;generalize w3.setCell ⟨P+1,2,I⟩ (Y Z (y:Nat))=W3 at*;have A:=W.o.whole a0.o (by show¬(P=B\/P+1=P);omega);have q0:=Zc z.o 0;have q1:=Zc z.o 1;have q2:=Zc z.o 2;have o0:=Zc A 0;have o1:=Zc A 1;have o2:=Zc A 2;have p0:=bF A 0;have r0:=bF A 1;have t0:=bF A 2;have l0:=Za A;go_wp2_with fail;have e3:=JK (v0:=H t) (v1:=Y Z (x:Nat)) (v2:=Y Z (y:Nat)) l0.o;have s0:=Zc e3 0;have s1:=Zc e3 1;have s2:=Zc e3 2;refine bodyPost_ret (v:=x7 #[H t,Y Z (x:Nat),Y Z (y:Nat)]) (by simp[results,Tryz.results120,go_sem,s0,s1,s2]) rfl ⟨⟨_,rfl,rfl⟩,((k0.o.set 0 _ (show P≠B by omega)).set 1 _ (show P≠B by omega)).set 2 _ (show P≠B by omega),?_⟩;refine l.o.monoNew (T:=fun k=>k=B\/P<=k) ?_ (fun k a=>a.imp id (fun h=>by rw[n.o];exact h));exact(((W.o.mono (T:=fun k=>k=B\/P<=k) (fun k a=>a.imp id (fun h=>by omega))).setCell (p:=⟨P,0,I⟩) (.inl (.inr (M _))) _).setCell (p:=⟨P,1,I⟩) (.inl (.inr (M _))) _).setCell (p:=⟨P,2,I⟩) (.inl (.inr (M _))) _
def YH {α:Type}(one:Rd α)(a:List α)(m j:Nat):Option (List α×Nat):=(WS one m j).map fun p=>(a++p.1,p.2)
theorem UQ {α}{one:Rd α}{a m j}(h:one j=I):YH one a (m+1) j=I:=by unfold YH;simp only[WS,h,Option.map_none]
theorem UR {α one a m j k}{x:α}(h:one j=J (x,k)):YH one a (m+1) j=YH one (a++[x]) m k:=by
 unfold YH;simp only[WS,h]
 cases WS one m k with
 |none=>rfl
 |some p=>simp
theorem T0 {α}{one:Rd α}{a j}:YH one a 0 j=J (a,j):=by simp[YH,WS]
theorem T1 {α b lo hi}{one:Rd α}{i n j}(h:Y4 b 1 lo hi i=J (n,j)):YN b lo hi one i=YH one [] n j:=by
 unfold YN YH;rw[h]
 show WS one n j=_
 cases WS one n j<;>simp
theorem T2 {α b lo hi}{one:Rd α}{i}(h:Y4 b 1 lo hi i=I):YN b lo hi one i=I:=by
 unfold YN;rw[h]
theorem Pp:(U.info? 9).map (fun i=>(i.zero,i.size,i.bytes))=J (J (H ByteArray.empty),1,16):=by kernel_rfl
theorem JX:(U.info? 148).map (fun i=>(i.zero,i.size,i.bytes))=J (J (x7 #[H ByteArray.empty,Y Z 0,Y Z 0]),3,32):=by kernel_rfl
theorem JY:(U.info? 3).map (fun i=>(i.zero,i.size,i.bytes))=J (J (Y Z 0),1,8):=by kernel_rfl
def WU (l:List ByteArray):List y1:=l.map Value.string
theorem Gm (l x):WU (l++[x])=WU l++[H x]:=by simp[WU]
theorem Gn (l x):Yi (l++[x])=Yi l++[H x.name,Y Z (x.base:Nat),Y Z (x.rate:Nat)]:=by simp[Yi,Sb]
theorem JZ (l x):Zg (l++[x])=Zg l++[Y Z (x:Nat)]:=by simp[Zg]
theorem Gp (w B s i g lo hi one)(Q:A->Prop)(hQ:∀W W',Q W->Fr (fun k=>k=B) W W'->Q W')(h:Yh w B s i g)(h0:Q w)(r0:hi<=255)(HO:E (∀W i,Yh W B s i g->Q W->G U 122 #[K (J ⟨B,0,I⟩)] W (P2 W B s g (one i) fun _ v x=>v=H x))):
  G U 121 #[K (J ⟨B,0,I⟩),Y Z lo,Y Z hi,.func (.func 122) #[K (J ⟨B,0,I⟩)] #[]] w (P2 w B s g (YN s.data.toList lo hi one i) fun w' v a=>w'.ownsRow w.heap.size 9 1 v a.length (WU a)):=by
 obtain⟨ij,X,a0,b0,c0⟩:=info_parts Pp;have HH:=Za (Z2 w B s i g 1 1 lo hi h (by decide) rfl);have s0:B<w.heap.size:=(iA.1 h.bx).1;have HQ:=Za hQ;have d0:=Za h0;obtain⟨N,hN⟩:∃N,YN s.data.toList lo hi one i=N:=⟨_,rfl⟩;rw[hN];have HN:=Za hN;go_enter Tryz.func121,Tryz.ntmps121;go_wp2_with fail;refine HH.o.mono ?_;intro e w1 c
 cases h1:Y4 s.data.toList 1 lo hi i with
 |none=>
  rw[h1]at c;obtain⟨r,hf⟩:=c
  have t:N=I:=by rw[<-HN.o];exact T2 h1
  subst t;unfold Te at r;subst r;exact⟨rfl,rfl,hf⟩
 |some nj=>
  obtain⟨n,j⟩:=nj;rw[h1]at c;obtain⟨⟨v,rfl,rfl⟩,e0,f0⟩:=c;have g0:=Za e0;have i0:=Za f0
  have hn:n<=255:=by have:=(Yq h1).2;omega
  have j0:E (YH one [] n j=N):=by show _=_;rw[<-HN.o];exact(T1 h1).symm
  go_wp2_with fail
  go_loopg [9,14] n (fun m ov kv wr=>∃(k:Nat)(a:List ByteArray)(l:Nat),k<=n/\m=n-k/\kv=Y Z (k:Nat)/\a.length=k/\E (Yh wr B s l g)/\E (wr.ownsRow w.heap.size 9 1 ov k (WU a))/\E (YH one a (n-k) l=N)/\E (Fr (fun k=>k=B) w wr))
  case atStart=>exact⟨0,[],j,by omega,rfl,rfl,rfl,g0,oZ _ _ _ _,j0,i0⟩
  obtain⟨k,a,l,u,rfl,rfl,y,HR,p,z,d⟩:=hrel;obtain⟨oa,oc,T⟩:=oL p.o;subst T;by_cases t0:k<n
  ·have k0:(k:Int)<(n:Int):=by omega
   have F:E (YH one a (n-(k+1)+1) l=N):=by show _=_;rw[show n-(k+1)+1=n-k from by omega];exact z.o
   go_wp2_with fail;refine(HO.o wr l HR.o (HQ.o _ _ d0.o d.o)).mono ?_;intro e w2 c
   cases h2:one l with
   |none=>
    rw[h2]at c;obtain⟨r,hf⟩:=c
    have t:N=I:=by rw[<-F.o];exact UQ h2
    subst t;unfold Te at r;subst r;exact⟨rfl,rfl,d.o.trans hf⟩
   |some xj=>
    obtain⟨x,j3⟩:=xj;rw[h2]at c;obtain⟨⟨v,rfl,rfl⟩,l0,M⟩:=c;have m0:=Za l0;have P:=Za (d.o.trans M);have q:=Za (oF p.o M (fun k u=>by omega))
    have n0:E (YH one (a++[x]) (n-(k+1)) j3=N):=by show _=_;rw[<-F.o];exact(UR h2).symm
    go_wp2_with (at_builtin;refine wpList_append_lies _ rfl (.tmp 16) (.tmp 19) 28 rfl w.heap.size 9 ij _ 1 16 Tryz.underlying28 X a0 b0 c0 rfl (by decide) (O oa k oc) k (WU a) rfl ?h1 ⟨w2.heap.size,0,I⟩ 1 1 [H x] rfl rfl ?h2 ?h3 (by decide) ?h4 ?h5 ?h6 _ rfl ?h7)
    case h1=>exact q.o.alloc _
    try case h2=>exact L (aN w2 (D #[H x] 9))
    case h3=>simp[C]
    case h4=>unfold maxLen;omega
    case h5=>omega
    case h6=>have:=P.o.size;simp;omega
    intro g2 R V S b v0 _;have o0:E (Fr (fun k=>k=B) w V):=(P.o.alloc _).grown b (fun k u=>z7 (q.o.lt k u).1)
    have p0:E (Yh V B s j3 g):=by
     have f:Fr (fun k'=>(z9 oa k oc).ownBlock=J k') w2 V:=(Zt.alloc _).grown b (fun k u=>.inl u);exact m0.o.fr f (fun hb=>by have:=(q.o.lt B hb).1;omega)
    have q0:E (V.ownsRow w.heap.size 9 1 (O (J ⟨g2,0,I⟩) (k+1) R) (k+1) (WU (a++[x]))):=by
     show y8 _ _ _ _ _ _ _
     rw[Gm];exact S
    go_wp2_with fail;go_roundg (n-(k+1))
    case measure=>omega
    exact⟨k+1,a++[x],j3,by omega,rfl,by go_num,by simp[y],p0,q0,n0,o0⟩
  have k0:¬(k:Int)<(n:Int):=by omega
  have t:N=J (a,l):=by
   have e:=z.o;rw[show n-k=0 from by omega,T0]at e;exact e.symm
  subst t;go_wp2_with fail;go_ret;have T:=p.o;rw[<-y]at T ⊢;exact⟨⟨_,rfl,T⟩,HR.o,d.o⟩
theorem LT (w B s i g lo hi one)(Q:A->Prop)(hQ:∀W W',Q W->Fr (fun k=>k=B) W W'->Q W')(h:Yh w B s i g)(h0:Q w)(r0:hi<=255)(HO:E (∀W i,Yh W B s i g->Q W->G U 120 #[K (J ⟨B,0,I⟩)] W (P2 W B s g (one i) fun _ v x=>v=uf x))):
  G U 119 #[K (J ⟨B,0,I⟩),Y Z lo,Y Z hi,.func (.func 120) #[K (J ⟨B,0,I⟩)] #[]] w (P2 w B s g (YN s.data.toList lo hi one i) fun w' v a=>w'.ownsRow w.heap.size 148 3 v a.length (Yi a)):=by
 obtain⟨ij,X,a0,b0,c0⟩:=info_parts JX;have HH:=Za (Z2 w B s i g 1 1 lo hi h (by decide) rfl);have s0:B<w.heap.size:=(iA.1 h.bx).1;have HQ:=Za hQ;have d0:=Za h0;obtain⟨N,hN⟩:∃N,YN s.data.toList lo hi one i=N:=⟨_,rfl⟩;rw[hN];have HN:=Za hN;go_enter Tryz.func119,Tryz.ntmps119;go_wp2_with fail;refine HH.o.mono ?_;intro e w1 c
 cases h1:Y4 s.data.toList 1 lo hi i with
 |none=>
  rw[h1]at c;obtain⟨r,hf⟩:=c
  have t:N=I:=by rw[<-HN.o];exact T2 h1
  subst t;unfold Te at r;subst r;exact⟨rfl,rfl,hf⟩
 |some nj=>
  obtain⟨n,j⟩:=nj;rw[h1]at c;obtain⟨⟨v,rfl,rfl⟩,e0,f0⟩:=c;have g0:=Za e0;have i0:=Za f0
  have hn:n<=255:=by have:=(Yq h1).2;omega
  have j0:E (YH one [] n j=N):=by show _=_;rw[<-HN.o];exact(T1 h1).symm
  go_wp2_with fail
  go_loopg [9,14] n (fun m ov kv wr=>∃(k:Nat)(a:List Zf)(l:Nat),k<=n/\m=n-k/\kv=Y Z (k:Nat)/\a.length=k/\E (Yh wr B s l g)/\E (wr.ownsRow w.heap.size 148 3 ov k (Yi a))/\E (YH one a (n-k) l=N)/\E (Fr (fun k=>k=B) w wr))
  case atStart=>exact⟨0,[],j,by omega,rfl,rfl,rfl,g0,oZ _ _ _ _,j0,i0⟩
  obtain⟨k,a,l,u,rfl,rfl,y,HR,p,z,d⟩:=hrel;obtain⟨oa,oc,T⟩:=oL p.o;subst T;by_cases t0:k<n
  ·have k0:(k:Int)<(n:Int):=by omega
   have F:E (YH one a (n-(k+1)+1) l=N):=by show _=_;rw[show n-(k+1)+1=n-k from by omega];exact z.o
   go_wp2_with fail;refine(HO.o wr l HR.o (HQ.o _ _ d0.o d.o)).mono ?_;intro e w2 c
   cases h2:one l with
   |none=>
    rw[h2]at c;obtain⟨r,hf⟩:=c
    have t:N=I:=by rw[<-F.o];exact UQ h2
    subst t;unfold Te at r;subst r;exact⟨rfl,rfl,d.o.trans hf⟩
   |some xj=>
    obtain⟨x,j3⟩:=xj;rw[h2]at c;obtain⟨⟨v,rfl,rfl⟩,l0,M⟩:=c;have m0:=Za l0;have P:=Za (d.o.trans M);have q:=Za (oF p.o M (fun k u=>by omega))
    have n0:E (YH one (a++[x]) (n-(k+1)) j3=N):=by show _=_;rw[<-F.o];exact(UR h2).symm
    unfold uf
    go_wp2_with (at_builtin;refine wpList_append_lies _ rfl (.tmp 16) (.tmp 19) 86 rfl w.heap.size 148 ij _ 3 32 Tryz.underlying86 X a0 b0 c0 rfl (by decide) (O oa k oc) k (Yi a) rfl ?h1 ⟨w2.heap.size,0,I⟩ 1 1 [H x.name,Y Z (x.base:Nat),Y Z (x.rate:Nat)] rfl rfl ?h2 ?h3 (by decide) ?h4 ?h5 ?h6 _ rfl ?h7)
    case h1=>exact q.o.alloc _
    try case h2=>exact L (aN w2 (D #[H x.name,Y Z (x.base:Nat),Y Z (x.rate:Nat)] 148))
    case h3=>simp[C]
    case h4=>unfold maxLen;omega
    case h5=>omega
    case h6=>have:=P.o.size;simp;omega
    intro g2 R V S b v0 _;have o0:E (Fr (fun k=>k=B) w V):=(P.o.alloc _).grown b (fun k u=>z7 (q.o.lt k u).1)
    have p0:E (Yh V B s j3 g):=by
     have f:Fr (fun k'=>(z9 oa k oc).ownBlock=J k') w2 V:=(Zt.alloc _).grown b (fun k u=>.inl u);exact m0.o.fr f (fun hb=>by have:=(q.o.lt B hb).1;omega)
    have q0:E (V.ownsRow w.heap.size 148 3 (O (J ⟨g2,0,I⟩) (k+1) R) (k+1) (Yi (a++[x]))):=by
     show y8 _ _ _ _ _ _ _
     rw[Gn];exact S
    go_wp2_with fail;go_roundg (n-(k+1))
    case measure=>omega
    exact⟨k+1,a++[x],j3,by omega,rfl,by go_num,by simp[y],p0,q0,n0,o0⟩
  have k0:¬(k:Int)<(n:Int):=by omega
  have t:N=J (a,l):=by
   have e:=z.o;rw[show n-k=0 from by omega,T0]at e;exact e.symm
  subst t;go_wp2_with fail;go_ret;have T:=p.o;rw[<-y]at T ⊢;exact⟨⟨_,rfl,T⟩,HR.o,d.o⟩
theorem Gq (w B s i g lo hi b1 b2 one)(Q:A->Prop)(hQ:∀W W',Q W->Fr (fun k=>k=B) W W'->Q W')(h:Yh w B s i g)(h0:Q w)(q0:hi<=255)(HO:E (∀W i,Yh W B s i g->Q W->G U 247 #[K (J ⟨b1,0,I⟩),K (J ⟨b2,0,I⟩)] W (P2 W B s g (one i) fun _ v x=>v=Y Z (x:Nat)))):
  G U 246 #[K (J ⟨B,0,I⟩),Y Z lo,Y Z hi,.func (.func 247) #[] #[K (J ⟨b1,0,I⟩),K (J ⟨b2,0,I⟩)]] w (P2 w B s g (YN s.data.toList lo hi one i) fun w' v a=>w'.ownsRow w.heap.size 3 1 v a.length (Zg a)):=by
 obtain⟨ij,V,X,a0,b0⟩:=info_parts JY;have HH:=Za (Z2 w B s i g 1 1 lo hi h (by decide) rfl);have r0:B<w.heap.size:=(iA.1 h.bx).1;have HQ:=Za hQ;have c0:=Za h0;obtain⟨N,hN⟩:∃N,YN s.data.toList lo hi one i=N:=⟨_,rfl⟩;rw[hN];have HN:=Za hN;go_enter Tryz.func246,Tryz.ntmps246;go_wp2_with fail;refine HH.o.mono ?_;intro e w1 c
 cases h1:Y4 s.data.toList 1 lo hi i with
 |none=>
  rw[h1]at c;obtain⟨r,hf⟩:=c
  have t:N=I:=by rw[<-HN.o];exact T2 h1
  subst t;unfold Te at r;subst r;exact⟨rfl,rfl,hf⟩
 |some nj=>
  obtain⟨n,j⟩:=nj;rw[h1]at c;obtain⟨⟨v,rfl,rfl⟩,d0,e0⟩:=c;have f0:=Za d0;have g0:=Za e0
  have hn:n<=255:=by have:=(Yq h1).2;omega
  have i0:E (YH one [] n j=N):=by show _=_;rw[<-HN.o];exact(T1 h1).symm
  go_wp2_with fail
  go_loopg [9,14] n (fun m ov kv wr=>∃(k:Nat)(a:List Nat)(l:Nat),k<=n/\m=n-k/\kv=Y Z (k:Nat)/\a.length=k/\E (Yh wr B s l g)/\E (wr.ownsRow w.heap.size 3 1 ov k (Zg a))/\E (YH one a (n-k) l=N)/\E (Fr (fun k=>k=B) w wr))
  case atStart=>exact⟨0,[],j,by omega,rfl,rfl,rfl,f0,oZ _ _ _ _,i0,g0⟩
  obtain⟨k,a,l,u,rfl,rfl,y,HR,p,z,d⟩:=hrel;obtain⟨oa,oc,S⟩:=oL p.o;subst S;by_cases s0:k<n
  ·have j0:(k:Int)<(n:Int):=by omega
   have F:E (YH one a (n-(k+1)+1) l=N):=by show _=_;rw[show n-(k+1)+1=n-k from by omega];exact z.o
   go_wp2_with fail;refine(HO.o wr l HR.o (HQ.o _ _ c0.o d.o)).mono ?_;intro e w2 c
   cases h2:one l with
   |none=>
    rw[h2]at c;obtain⟨r,hf⟩:=c
    have t:N=I:=by rw[<-F.o];exact UQ h2
    subst t;unfold Te at r;subst r;exact⟨rfl,rfl,d.o.trans hf⟩
   |some xj=>
    obtain⟨x,j3⟩:=xj;rw[h2]at c;obtain⟨⟨v,rfl,rfl⟩,k0,H⟩:=c;have l0:=Za k0;have M:=Za (d.o.trans H);have q:=Za (oF p.o H (fun k u=>by omega))
    have m0:E (YH one (a++[x]) (n-(k+1)) j3=N):=by show _=_;rw[<-F.o];exact(UR h2).symm
    go_wp2_with (at_builtin;refine wpList_append_lies _ rfl (.tmp 16) (.tmp 19) 25 rfl w.heap.size 3 ij _ 1 8 Tryz.underlying25 V X a0 b0 rfl (by decide) (O oa k oc) k (Zg a) rfl ?h1 ⟨w2.heap.size,0,I⟩ 1 1 [Y Z (x:Nat)] rfl rfl ?h2 ?h3 (by decide) ?h4 ?h5 ?h6 _ rfl ?h7)
    case h1=>exact q.o.alloc _
    try case h2=>exact L (aN w2 (D #[Y Z (x:Nat)] 3))
    case h3=>simp[C]
    case h4=>unfold maxLen;omega
    case h5=>omega
    case h6=>have:=M.o.size;simp;omega
    intro g2 P T R b t0 _;have n0:E (Fr (fun k=>k=B) w T):=(M.o.alloc _).grown b (fun k u=>z7 (q.o.lt k u).1)
    have o0:E (Yh T B s j3 g):=by
     have f:Fr (fun k'=>(z9 oa k oc).ownBlock=J k') w2 T:=(Zt.alloc _).grown b (fun k u=>.inl u);exact l0.o.fr f (fun hb=>by have:=(q.o.lt B hb).1;omega)
    have p0:E (T.ownsRow w.heap.size 3 1 (O (J ⟨g2,0,I⟩) (k+1) P) (k+1) (Zg (a++[x]))):=by
     show y8 _ _ _ _ _ _ _
     rw[JZ];exact R
    go_wp2_with fail;go_roundg (n-(k+1))
    case measure=>omega
    exact⟨k+1,a++[x],j3,by omega,rfl,by go_num,by simp[y],o0,p0,m0,n0⟩
  have j0:¬(k:Int)<(n:Int):=by omega
  have t:N=J (a,l):=by
   have e:=z.o;rw[show n-k=0 from by omega,T0]at e;exact e.symm
  subst t;go_wp2_with fail;go_ret;have S:=p.o;rw[<-y]at S ⊢;exact⟨⟨_,rfl,S⟩,HR.o,d.o⟩
theorem Bv (w B s i a)(h:Yh w B s i a):
  G U 215 #[K (J ⟨B,0,I⟩)] w (P2 w B s a (Y4 s.data.toList 1 1 255 i) fun _ v x=>v=Y Z (x:Nat)):=by
 have c:=Za (Z2 w B s i a 1 1 1 255 h (by decide) rfl);obtain⟨N,g⟩:∃N,Y4 s.data.toList 1 1 255 i=N:=⟨_,rfl⟩;rw[g]at c ⊢;go_enter Tryz.func215,Tryz.ntmps215;go_wp2_with fail;refine(c.o).mono ?_;intro e q d
 cases N with
 |none=>
  obtain⟨f,b⟩:=d;unfold Te at f;subst f;exact⟨rfl,rfl,b⟩
 |some k=>
  obtain⟨x,j⟩:=k;obtain⟨⟨v,rfl,l⟩,m,b⟩:=d
  try subst l
  have n:=Za m;have p:=Za b;go_wp2_with fail;go_ret;exact⟨⟨_,rfl,rfl⟩,n.o,p.o⟩
theorem Bw (w B s i b k a l)(h:Yh w B s i b)(u:w.cell? ⟨b,1,I⟩=J (O k a l))(y:a<=8):
  G U 218 #[K (J ⟨B,0,I⟩)] w (P2 w B s b (Y4 s.data.toList 1 0 ((a:Int)-1) i) fun _ v x=>v=Y Z (x:Nat)):=by
 have d:=Za (Z2 w B s i b 1 1 0 ((a:Int)-1) h (by decide) rfl);have z:=Zc h.bx 2;have A:z8.wrap ((a:Int)-1)=(a:Int)-1:=IntWalk.i64_in _ (by constructor<;>omega);obtain⟨N,m⟩:∃N,Y4 s.data.toList 1 0 ((a:Int)-1) i=N:=⟨_,rfl⟩;rw[m]at d ⊢;go_enter Tryz.func218,Tryz.ntmps218;go_wp2_with fail;refine(d.o).mono ?_;intro e C f
 cases N with
 |none=>
  obtain⟨g,c⟩:=f;unfold Te at g;subst g;exact⟨rfl,rfl,c⟩
 |some n=>
  obtain⟨x,j⟩:=n;obtain⟨⟨v,rfl,p⟩,q,c⟩:=f
  try subst p
  have r:=Za q;have t:=Za c;go_wp2_with fail;go_ret;exact⟨⟨_,rfl,rfl⟩,r.o,t.o⟩
theorem Ex (w B s i a c d hi)(h:Yh w B s i a)(t:w.cell? ⟨c,0,I⟩=J (K (J ⟨B,0,I⟩)))(u:w.cell? ⟨d,0,I⟩=J (Y Z hi)):
  G U 247 #[K (J ⟨c,0,I⟩),K (J ⟨d,0,I⟩)] w (P2 w B s a (Y4 s.data.toList 2 0 hi i) fun _ v x=>v=Y Z (x:Nat)):=by
 have f:=Za (Z2 w B s i a 2 2 0 hi h (by decide) rfl);obtain⟨N,l⟩:∃N,Y4 s.data.toList 2 0 hi i=N:=⟨_,rfl⟩;rw[l]at f ⊢;go_enter Tryz.func247,Tryz.ntmps247;go_wp2_with fail;refine(f.o).mono ?_;intro e y g
 cases N with
 |none=>
  obtain⟨k,b⟩:=g;unfold Te at k;subst k;exact⟨rfl,rfl,b⟩
 |some m=>
  obtain⟨x,j⟩:=m;obtain⟨⟨v,rfl,n⟩,p,b⟩:=g
  try subst n
  have q:=Za p;have r:=Za b;go_wp2_with fail;go_ret;exact⟨⟨_,rfl,rfl⟩,q.o,r.o⟩
theorem P3 (w B s i c hi)(h:Yh w B s i c):
  G U 216 #[K (J ⟨B,0,I⟩),Y Z hi] w (P2 w B s c (OE s.data.toList hi i) fun w' v f=>w'.ownsRow w.heap.size 3 1 v f.length (Zg f)):=by
 have F:∀(fn:Fn)(first cap:Array y1)(w:A),(Instr.makeFunc fn first cap).run U w=.ok (.func fn first cap) w:=fun _ _ _ _=>rfl
 obtain⟨W,l⟩:∃W,(w.alloc (D #[K (J ⟨B,0,I⟩)] 156)).alloc (D #[Y Z hi] 3)=W:=⟨_,rfl⟩;obtain⟨P,g⟩:∃P,w.heap.size=P:=⟨_,rfl⟩
 have H:B<P:=by rw[<-g];exact(iA.1 h.bx).1
 have a:E (Fr (fun k=>k=B) w W):=by show Fr _ _ _;rw[<-l];exact(Zt.alloc _).alloc _
 have m:E (Yh W B s i c):=by show Yh _ _ _ _ _;rw[<-l];exact h.fr (S:=fun _=>False) ((Zt.alloc _).alloc _)
 have c1:W.cell? ⟨P,0,I⟩=J (K (J ⟨B,0,I⟩)):=by
  rw[<-l,<-g];exact bC (((Fr.refl (fun _=>False) _).alloc _).whole (aN w _)) 0 _ rfl
 have L:W.cell? ⟨P+1,0,I⟩=J (Y Z hi):=by
  rw[<-l,<-g];have e:=aN (w.alloc (D #[K (J ⟨B,0,I⟩)] 156)) (D #[Y Z hi] 3);exact Zc (by simpa using e) 0
 have n:E (W.cell? ⟨P,0,I⟩=J (K (J ⟨B,0,I⟩))/\W.cell? ⟨P+1,0,I⟩=J (Y Z hi)):=⟨c1,L⟩
 have q:P<=W.heap.size:=by rw[<-g];exact a.o.size
 have u:E (G U 246 #[K (J ⟨B,0,I⟩),Y Z 1,Y Z 4,.func (.func 247) #[] #[K (J ⟨P,0,I⟩),K (J ⟨P+1,0,I⟩)]] W (P2 W B s c (OE s.data.toList hi i) fun w' v f=>w'.ownsRow W.heap.size 3 1 v f.length (Zg f))):=
  Gq W B s i c 1 4 P (P+1) (Y4 s.data.toList 2 0 hi) (fun W=>W.cell? ⟨P,0,I⟩=J (K (J ⟨B,0,I⟩))/\W.cell? ⟨P+1,0,I⟩=J (Y Z hi))
   (fun W V b d=>⟨(d.cell (p:=⟨P,0,I⟩) (bL W _ b.1) (by show¬P=B;omega)).trans b.1,(d.cell (p:=⟨P+1,0,I⟩) (bL W _ b.2) (by show¬P+1=B;omega)).trans b.2⟩)
   m.o n.o (by omega) (fun W i r b=>Ex W B s i c P (P+1) hi r b.1 b.2)
 obtain⟨N,M⟩:∃N,OE s.data.toList hi i=N:=⟨_,rfl⟩;rw[M]at u ⊢;go_enter Tryz.func216,Tryz.ntmps216;go_upto_region 1 with fail;have t:=Za g;go_wp2_with fail;refine(u.o).mono ?_;intro e X y
 cases N with
 |none=>
  obtain⟨z,d⟩:=y;unfold Te at z;subst z;exact⟨rfl,rfl,(a.o.trans d)⟩
 |some xj=>
  obtain⟨x,j⟩:=xj;obtain⟨⟨v,rfl,C⟩,r,d⟩:=y
  try subst C
  have Q:=Za r;have R:=Za d;have T:=Za C;go_wp2_with fail;go_ret;exact⟨⟨_,rfl,oS T.o (by rw[t.o];exact q)⟩,Q.o,a.o.trans R.o⟩
def MY (b:List UInt8)(hi:Int):Rd (List Nat):=fun i=>match Y4 b 4 0 hi i with
 |none=>I
 |some (y,k)=>match Y4 b 4 y hi k with
  |none=>I
  |some (z,l)=>J ([y,z],l)
theorem xJ (w:A)(y z):(w.alloc (D #[Y Z (y:Nat),Y Z (z:Nat)] 3)).ownsRow w.heap.size 3 1 (O (J ⟨w.heap.size,0,I⟩) 2 2) 2 (Zg [y,z]):=
 ⟨rfl,.inr ⟨w.heap.size,2,#[Y Z (y:Nat),Y Z (z:Nat)],rfl,M _,heap_alloc_new w _,M _,by unfold maxLen;simp,by simp,by simp[Zg]⟩⟩
theorem Bz (w B s i g hi)(h:Yh w B s i g):
  G U 217 #[K (J ⟨B,0,I⟩),Y Z hi] w (P2 w B s g (MY s.data.toList hi i) fun w' v C=>w'.ownsRow w.heap.size 3 1 v C.length (Zg C)):=by
 have F:=Za (Z2 w B s i g 4 4 0 hi h (by decide) rfl);obtain⟨N,D⟩:∃N,MY s.data.toList hi i=N:=⟨_,rfl⟩;rw[D];have n:=Za D;go_enter Tryz.func217,Tryz.ntmps217;go_wp2_with fail;refine F.o.mono ?_;intro e H a
 cases j:Y4 s.data.toList 4 0 hi i with
 |none=>
  rw[j]at a;obtain⟨b,p⟩:=a
  have c:N=I:=by rw[<-n.o];unfold MY;rw[j]
  subst c;unfold Te at b;subst b;exact⟨rfl,rfl,p⟩
 |some yk=>
  obtain⟨y,k⟩:=yk;rw[j]at a;obtain⟨⟨v,rfl,rfl⟩,q,r⟩:=a;have d:=Za r;have E:=Za j;have t:=Za (Z2 H B s k g 4 4 y hi q (by decide) rfl);go_wp2_with fail;refine t.o.mono ?_;intro e w2 a
  cases m:Y4 s.data.toList 4 y hi k with
  |none=>
   rw[m]at a;obtain⟨b,p⟩:=a
   have c:N=I:=by rw[<-n.o];unfold MY;rw[E.o];simp only[m]
   subst c;unfold Te at b;subst b;exact⟨rfl,rfl,d.o.trans p⟩
  |some zl=>
   obtain⟨z,l⟩:=zl;rw[m]at a;obtain⟨⟨v,rfl,rfl⟩,u,x⟩:=a
   have c:N=J ([y,z],l):=by rw[<-n.o];unfold MY;rw[E.o];simp only[m]
   subst c;have A:=Za u;have f:=Za (d.o.trans x);go_wp2_with fail;go_ret;exact⟨⟨_,rfl,oS (xJ w2 y z) f.o.size⟩,A.o.fr (S:=fun _=>False) (Zt.alloc _),f.o.alloc _⟩
structure zR (w wx:A)(B X:Nat)(s:ByteArray)(j TT:Nat)(c0 c1 c2 c3:y1):Prop where
 rd:Yh wx B s j TT
 bx:wx.heap[X]?=J (D #[c0,c1,c2,c3] 208)
 bp:wx.heap[w.heap.size]?=J (D #[Y F 0,O I 0 0,Y Z 0,Y Z 0] 208)
 fr:Fr (fun k=>k=B) w wx
 ne:w.heap.size<X
 lt:B<w.heap.size
theorem zR.call {w d a B X j e b s f c1 g i}(h:zR w d B X s j b f c1 g i)(l:Yh a B s e b)(c:Fr (fun k=>k=B) d a):zR w a B X s e b f c1 g i:=by
 have m:=h.ne;have n:=h.lt;exact⟨l,c.whole h.bx (by show¬X=B;omega),c.whole h.bp (by show¬w.heap.size=B;omega),h.fr.trans c,m,n⟩
theorem zR.set {w a B X j c s d c1 g i l m n q}(h:zR w a B X s j c d c1 g i)(o v)(e:(#[d,c1,g,i]:Array y1).setIfInBounds o v=#[l,m,n,q]):zR w (a.setCell ⟨X,o,I⟩ v) B X s j c l m n q:=by
 have r:=h.ne;have t:=h.lt;have f:=(Fr.refl (fun k=>k=X) a).setCell (p:=⟨X,o,I⟩) (x8 rfl) v;have b:=heap_setCell_same a X o _ _ v h.bx;rw[e]at b;exact⟨h.rd.fr f (by show¬B=X;omega),b,f.whole h.bp (by show¬w.heap.size=X;omega),h.fr.setCell (p:=⟨X,o,I⟩) (z7 (by show w.heap.size<=X;omega)) v,r,t⟩
theorem Rc {w:A}{base X v n i j}(h:w.ownsRow base 3 1 v n i)(l:w.heap[X]?=J (D j 208))(o u):(w.setCell ⟨X,o,I⟩ u).ownsRow base 3 1 v n i:=by
 refine⟨h.1,?_⟩;rcases h.2 with m|⟨g,cap,c,rfl,d,a,b⟩
 ·exact .inl m
 refine .inr ⟨g,cap,c,rfl,d,?_,b⟩
 have f:g≠X:=fun e=>by subst e;rw[l]at a;injection a with e;injection e with _ q;exact absurd q (by decide)
 exact((Fr.refl (fun k=>k=X) w).setCell (p:=⟨X,o,I⟩) (x8 rfl) u).whole a f
def KP (b:List UInt8):Rd Zl:=fun i=>match Y4 b 1 1 255 i with
 |none=>I
 |some (x,j)=>match MY b 1000000000 j with
  |none=>I
  |some (l,k)=>J (⟨1,l,0,x⟩,k)
theorem xK (b i):Gk b i=KP b i:=by
 unfold Gk KP MY
 cases Y4 b 1 1 255 i with
 |none=>rfl
 |some p=>
  obtain⟨x,j⟩:=p
  dsimp only
  cases Y4 b 4 0 1000000000 j with
  |none=>rfl
  |some q=>
   obtain⟨y,k⟩:=q
   dsimp only
   cases Y4 b 4 y 1000000000 k<;>rfl
def BA (a b c:Nat)(d:Option Addr)(e f:Nat):y1:=x7 #[Y F (a:Nat),O d e f,Y Z (b:Nat),Y Z (c:Nat)]
theorem uA {w:A}{b t u0 u1 u2 u3 v0 v1 v2 v3}(h:w.heap[b]?=J (D #[u0,u1,u2,u3] t)):
    ((((w.setCell ⟨b,0,I⟩ v0).setCell ⟨b,1,I⟩ v1).setCell ⟨b,2,I⟩ v2).setCell ⟨b,3,I⟩ v3).heap[b]?=J (D #[v0,v1,v2,v3] t):=by
  have e:=heap_setCell_same _ b 3 _ _ v3 (heap_setCell_same _ b 2 _ _ v2 (heap_setCell_same _ b 1 _ _ v1 (heap_setCell_same w b 0 _ _ v0 h)))
  simpa using e
theorem zR.fin {w b B X j c s g c1 i l}(h:zR w b B X s j c g c1 i l){v n d}(m:b.ownsRow w.heap.size 3 1 v n d)(u0 u1 u2 u3):
    Yh ((((b.setCell ⟨w.heap.size,0,I⟩ u0).setCell ⟨w.heap.size,1,I⟩ u1).setCell ⟨w.heap.size,2,I⟩ u2).setCell ⟨w.heap.size,3,I⟩ u3) B s j c/\((((b.setCell ⟨w.heap.size,0,I⟩ u0).setCell ⟨w.heap.size,1,I⟩ u1).setCell ⟨w.heap.size,2,I⟩ u2).setCell ⟨w.heap.size,3,I⟩ u3).ownsRow w.heap.size 3 1 v n d/\Fr (fun k=>k=B) w ((((b.setCell ⟨w.heap.size,0,I⟩ u0).setCell ⟨w.heap.size,1,I⟩ u1).setCell ⟨w.heap.size,2,I⟩ u2).setCell ⟨w.heap.size,3,I⟩ u3):=by
  have a:w.heap.size≠B:=by have:=h.lt;omega
  have e:=heap_setCell_same b w.heap.size 0 _ _ u0 h.bp;have f:=heap_setCell_same _ w.heap.size 1 _ _ u1 e;have o:=heap_setCell_same _ w.heap.size 2 _ _ u2 f
  exact⟨(((h.rd.set 0 u0 a).set 1 u1 a).set 2 u2 a).set 3 u3 a,Rc (Rc (Rc (Rc m h.bp 0 u0) e 1 u1) f 2 u2) o 3 u3,
    (((h.fr.setCell (p:=⟨w.heap.size,0,I⟩) (z7 (M _)) u0).setCell (p:=⟨w.heap.size,1,I⟩) (z7 (M _)) u1).setCell (p:=⟨w.heap.size,2,I⟩) (z7 (M _)) u2).setCell (p:=⟨w.heap.size,3,I⟩) (z7 (M _)) u3⟩
theorem zS {w f B X m i c d e s a b l}(h:zR w f B X s m i (Y F (c:Nat)) (O a l.length b) (Y Z (d:Nat)) (Y Z (e:Nat)))(j:f.ownsRow w.heap.size 3 1 (O a l.length b) l.length (Zg l)){t}(k:t[2]?=J (K (J ⟨w.heap.size,0,I⟩))):
    bodyPost U Tryz.f179 (P2 w B s i (J ((⟨c,l,d,e⟩:Zl),m)) fun w' v (x:Zl)=>∃(a:Option Addr)(b:Nat),v=BA x.sort x.rule x.skip a x.nums.length b/\w'.ownsRow w.heap.size 3 1 (O a x.nums.length b) x.nums.length (Zg x.nums)) .ret ⟨t,[]⟩
      ((((f.setCell ⟨w.heap.size,0,I⟩ (Y F (c:Nat))).setCell ⟨w.heap.size,1,I⟩ (O a l.length b)).setCell ⟨w.heap.size,2,I⟩ (Y Z (d:Nat))).setCell ⟨w.heap.size,3,I⟩ (Y Z (e:Nat))):=by
  obtain⟨g1,g2,g3⟩:=h.fin j (Y F (c:Nat)) (O a l.length b) (Y Z (d:Nat)) (Y Z (e:Nat));have g:=uA (v0:=Y F (c:Nat)) (v1:=O a l.length b) (v2:=Y Z (d:Nat)) (v3:=Y Z (e:Nat)) h.bp;have n:=Zc g 0;have o:=Zc g 1;have p:=Zc g 2;have q:=Zc g 3;generalize(((f.setCell ⟨w.heap.size,0,I⟩ (Y F (c:Nat))).setCell ⟨w.heap.size,1,I⟩ (O a l.length b)).setCell ⟨w.heap.size,2,I⟩ (Y Z (d:Nat))).setCell ⟨w.heap.size,3,I⟩ (Y Z (e:Nat))=W at*;exact bodyPost_ret (v:=BA c d e a l.length b) (by simp[results,Tryz.results179,go_sem,k,n,o,p,q,BA]) rfl ⟨⟨_,rfl,a,b,rfl,g2⟩,g1,g3⟩
theorem P2.cases {α w B a s}{r:Option (α×Nat)}{V e w'}(h:P2 w B s a r V e w'):(r=I/\e=.panicked [{v:=.iface 223 (x7 #[]),recovered:=false}]/\Fr (fun k=>k=B) w w')\/∃x j v,r=J (x,j)/\e=R v/\V w' v x/\Yh w' B s j a/\Fr (fun k=>k=B) w w':=by
 match r,h with
 |none,h=>exact .inl ⟨rfl,h⟩
 |some (x,j),⟨⟨v,h1,h2⟩,h3,h4⟩=>exact .inr ⟨x,j,v,rfl,h1,h2,h3,h4⟩
theorem BB (w B s i c ra q rc na z nc)(h:Yh w B s i c)(Q:c≠B)(h0:w.cell? ⟨c,0,I⟩=J (O ra q rc))(A:w.cell? ⟨c,1,I⟩=J (O na z nc))(n0:q<=6)(b0:z<=8):
  G U 179 #[K (J ⟨B,0,I⟩)] w (P2 w B s c (V9 s.data.toList q z i) fun w' v x=>∃(f:Option Addr)(g:Nat),v=BA x.sort x.rule x.skip f x.nums.length g/\w'.ownsRow w.heap.size 3 1 (O f x.nums.length g) x.nums.length (Zg x.nums)):=by
 obtain⟨M,C⟩:∃M,w.alloc (D #[Y F 0,O I 0 0,Y Z 0,Y Z 0] 208)=M:=⟨_,rfl⟩;have c0:B<w.heap.size:=(iA.1 h.bx).1
 have H:E (F0 w M):=by show Fr _ _ _;rw[<-C];exact Zt.alloc _
 have d0:E (M.heap[w.heap.size]?=J (D #[Y F 0,O I 0 0,Y Z 0,Y Z 0] 208)):=by show _=_;rw[<-C];exact aN w _
 have e0:=Za (h.fr H.o)
 have HT:E (∀W,Fr (fun k=>k=B) w W->W.cell? ⟨c,0,I⟩=J (O ra q rc)/\W.cell? ⟨c,1,I⟩=J (O na z nc)):=fun W u=>⟨(u.cell (p:=⟨c,0,I⟩) (bL w _ h0) Q).trans h0,(u.cell (p:=⟨c,1,I⟩) (bL w _ A) Q).trans A⟩
 obtain⟨N,hN⟩:∃N,V9 s.data.toList q z i=N:=⟨_,rfl⟩;rw[hN];have R:=Za hN
 have o0:w.heap.size<M.heap.size:=by rw[<-C];simp
 go_enter Tryz.func179,Tryz.ntmps179;go_upto_region 1 with fail;go_wp2_with fail;refine(Z2 M B s i c 1 1 0 6 e0.o (by decide) rfl).mono ?_;intro e T V;rcases V.cases with⟨A,rfl,u⟩|⟨x,j,_,A,rfl,rfl,f0,L⟩
 ·have eN:N=I:=by rw[<-R.o];unfold V9;rw[A]
  subst eN;exact⟨rfl,rfl,(H.o.mono).trans u⟩
 have r0:x<=6:=by have:=(Yq A).2;omega
 have s0:q6.wrap (x:Int)=(x:Int):=IntWalk.u8_in _ (by constructor<;>omega)
 have P:E ((if x=0 then U9 s.data.toList 0 9999 j else if x=1 then KP s.data.toList j else if x=2 then U9 s.data.toList 2 999 j else if x=6 then J (⟨6,[],0,0⟩,j)else JW s.data.toList x q z j)=N):=by
  show _=_
  rw[<-R.o];unfold V9;rw[A,<-xK]
 have d:E (zR w (T.alloc (D #[Y F (x:Nat),O I 0 0,Y Z 0,Y Z 0] 208)) B T.heap.size s j c (Y F (x:Nat)) (O I 0 0) (Y Z 0) (Y Z 0)):=
  ⟨f0.fr (S:=fun _=>False) (Zt.alloc _),aN T _,((Fr.refl (fun _=>False) _).alloc _).whole (L.whole d0.o (by show¬w.heap.size=B;omega)),((H.o.mono).trans L).alloc _,by have:=L.size;omega,c0⟩
 go_upto_region 2 with fail;generalize T.alloc _=W1 at*;generalize T.heap.size=X at*;have z0:=Zc d.o.bx 0
 go_upto_block 0 with fail
 go_cut [] (fun wx=>E (∃(so ru sk m:Nat)(l:List Nat)(f:Option Addr)(g:Nat),N=J (⟨so,l,ru,sk⟩,m)/\zR w wx B X s m c (Y F (so:Nat)) (O f l.length g) (Y Z (ru:Nat)) (Y Z (sk:Nat))/\wx.ownsRow w.heap.size 3 1 (O f l.length g) l.length (Zg l)))
 case rest=>
  obtain⟨so,ru,sk,m,l,f,g,rfl,hS,hV⟩:=hcut.o;have a:=Za hS;have r:=Za hV;have q0:=Zc a.o.bx 0;have q1:=Zc a.o.bx 1;have q2:=Zc a.o.bx 2;have q3:=Zc a.o.bx 3;have p0:=Zc a.o.bp 0;have p1:=Zc a.o.bp 1;have p2:=Zc a.o.bp 2;have p3:=Zc a.o.bp 3;have g0:=bF a.o.bp;go_wp2_with fail;exact zS a.o r.o rfl
 have h7:x=0\/x=1\/x=2\/x=3\/x=4\/x=5\/x=6:=by omega
 rcases h7 with rfl|rfl|rfl|rfl|rfl|rfl|rfl
 all_goals go_wp2_with fail
 iterate 3
  refine(Bv _ B s j c d.o.rd).mono ?_
  rotate_left
 iterate 3
  refine(Bw _ B s j c na z nc d.o.rd (HT.o _ d.o.fr).2 b0).mono ?_
  rotate_left
 ·go_meet
  exact⟨6,0,0,j,[],I,0,P.o.symm,d.o,oZ _ _ _ _⟩
 all_goals
  intro e w2 V;rcases V.cases with⟨h2,rfl,u⟩|⟨y,k,_,h2,rfl,rfl,i0,j0⟩
  ·have eN:N=I:=by rw[<-P.o];simp[U9,KP,JW,h2]
   subst eN;exact⟨rfl,rfl,d.o.fr.trans u⟩
  have H2:=Za h2;have n:=Za (d.o.call i0 j0);have z2:=Zc n.o.bx 2;have z3:=Zc n.o.bx 3;have ff:=bF n.o.bx;have a0:=Za (n.o.set 2 (Y Z (y:Nat)) rfl);have k0:=Za (n.o.set 3 (Y Z (y:Nat)) rfl)
 iterate 3
  focus
   go_wp2_with fail;generalize w2.setCell ⟨X,3,I⟩ (Y Z (y:Nat))=W2 at*;have b:=k0
   first|refine(Bz W2 B s k c 1000000000 b.o.rd).mono ?_|refine(P3 W2 B s k c 9999 b.o.rd).mono ?_|refine(P3 W2 B s k c 999 b.o.rd).mono ?_
  rotate_left
 ·go_wp2_with fail
  go_meet;exact⟨3,y,0,k,[],I,0,by rw[<-P.o];simp[JW,H2.o],a0.o,World.ownsRow_nil _ _ _ _⟩
 iterate 2
  focus
   go_upto_region 17 with fail;generalize w2.setCell ⟨X,2,I⟩ (Y Z (y:Nat))=W2 at*;have b:=a0;have b2:=Zc b.o.rd.bx 2;have t0:=(HT.o _ b.o.fr).1;have v0:z8.wrap ((q:Int)-1)=(q:Int)-1:=IntWalk.i64_in _ (by constructor<;>omega);go_wp2_with fail;refine(P3 W2 B s k c ((q:Int)-1) b.o.rd).mono ?_
  rotate_left
 all_goals
  intro e w3 V;rcases V.cases with⟨h3,rfl,u⟩|⟨l,m,v,h3,rfl,hv,l0,m0⟩
  ·have eN:N=I:=by rw[<-P.o];simp[U9,KP,JW,H2.o,h3]
   subst eN;exact⟨rfl,rfl,b.o.fr.trans u⟩
  have H3:=Za h3;have t:=Za (b.o.call l0 m0);have HV:=Za (oS hv b.o.fr.size);obtain⟨f,g,e1⟩:=oL hv;subst e1;have z1:=Zc t.o.bx 1;have f1:=bF t.o.bx 1;have a:=Za (t.o.set 1 (O f l.length g) rfl);have r:=Za (Rc HV.o t.o.bx 1 (O f l.length g));go_wp2_with fail;go_meet
  first|exact⟨_,0,y,m,l,f,g,by rw[<-P.o];simp[U9,KP,H2.o,H3.o],a.o,r.o⟩|exact⟨_,y,0,m,l,f,g,by rw[<-P.o];simp[JW,H2.o,H3.o],a.o,r.o⟩
theorem J0 (w B s i b lo hi ra r rc na t nc)(h:Yh w B s i b)(u:b≠B)(c0:w.cell? ⟨b,0,I⟩=J (O ra r rc))(c1:w.cell? ⟨b,1,I⟩=J (O na t nc))(f0:r<=6)(g0:t<=8)(D0:hi<=255):
  G U 178 #[K (J ⟨B,0,I⟩),Y Z lo,Y Z hi,.func (.func 179) #[K (J ⟨B,0,I⟩)] #[]] w (P2 w B s b (YN s.data.toList lo hi (V9 s.data.toList r t) i) fun w' v c=>Z3 w.heap.size w' w.heap.size v c):=by
 obtain⟨ij,h0,i0,j0,k0⟩:=info_parts TE;have HH:=Za (Z2 w B s i b 1 1 lo hi h (by decide) rfl);have E0:B<w.heap.size:=(iA.1 h.bx).1
 have HO:E (∀W i,Fr (fun k=>k=B) w W->Yh W B s i b->G U 179 #[K (J ⟨B,0,I⟩)] W (P2 W B s b (V9 s.data.toList r t i) fun w' v x=>∃(H:Option Addr)(M:Nat),v=BA x.sort x.rule x.skip H x.nums.length M/\w'.ownsRow W.heap.size 3 1 (O H x.nums.length M) x.nums.length (Zg x.nums))):=fun W i P hR=>BB W B s i b ra r rc na t nc hR u ((P.cell (p:=⟨b,0,I⟩) (bL w _ c0) u).trans c0) ((P.cell (p:=⟨b,1,I⟩) (bL w _ c1) u).trans c1) f0 g0
 obtain⟨N,hN⟩:∃N,YN s.data.toList lo hi (V9 s.data.toList r t) i=N:=⟨_,rfl⟩;rw[hN];have HN:=Za hN;generalize V9 s.data.toList r t=one at*;go_enter Tryz.func178,Tryz.ntmps178;go_wp2_with fail;refine HH.o.mono ?_;intro e w1 l
 cases h1:Y4 s.data.toList 1 lo hi i with
 |none=>
  rw[h1]at l;obtain⟨R,P⟩:=l
  have S:N=I:=by rw[<-HN.o];exact T2 h1
  subst S;unfold Te at R;subst R;exact⟨rfl,rfl,P⟩
 |some nj=>
  obtain⟨n,j⟩:=nj;rw[h1]at l;obtain⟨⟨v,rfl,rfl⟩,l0,m0⟩:=l;have n0:=Za l0;have o0:=Za m0
  have hn:n<=255:=by have:=(Yq h1).2;omega
  have p0:E (YH one [] n j=N):=by show _=_;rw[<-HN.o];exact(T1 h1).symm
  go_wp2_with fail
  go_loopg [9,14] n (fun m ov kv wr=>∃(k:Nat)(c:List Zl)(y:Nat),k<=n/\m=n-k/\kv=Y Z (k:Nat)/\c.length=k/\E (Yh wr B s y b)/\E (Z3 w.heap.size wr w.heap.size ov c)/\E (YH one c (n-k) y=N)/\E (Fr (fun k=>k=B) w wr))
  case atStart=>exact⟨0,[],j,by omega,rfl,rfl,rfl,n0,⟨[],oZ _ _ _ _,rfl⟩,p0,o0⟩
  obtain⟨k,c,y,Q,rfl,rfl,d,HR,T,V,g⟩:=hrel;obtain⟨ys,z,q0⟩:=T.o;rw[d]at z;obtain⟨oa,oc,ho⟩:=oL z;subst ho;have r0:=Za z;have s0:=Za q0;by_cases F0:k<n
  ·have t0:(k:Int)<(n:Int):=by omega
   have X:E (YH one c (n-(k+1)+1) y=N):=by show _=_;rw[show n-(k+1)+1=n-k from by omega];exact V.o
   go_wp2_with fail;refine(HO.o wr y g.o HR.o).mono ?_;intro e w2 l
   cases h2:one y with
   |none=>
    rw[h2]at l;obtain⟨R,P⟩:=l
    have S:N=I:=by rw[<-X.o];exact UQ h2
    subst S;unfold Te at R;subst R;exact⟨rfl,rfl,g.o.trans P⟩
   |some xj=>
    obtain⟨x,j3⟩:=xj;rw[h2]at l;obtain⟨⟨v,rfl,H,M,rfl,v0⟩,w0,A⟩:=l;have x0:=Za (oS v0 g.o.size);have y0:=Za w0;have a0:=Za (g.o.trans A);have q:=Za (oF r0.o A (fun k Q=>by omega));have b0:=Za (s0.o.keep (fun v n ys hv=>oF hv A (fun k Q=>by omega)))
    have z0:E (YH one (c++[x]) (n-(k+1)) j3=N):=by show _=_;rw[<-X.o];exact(UR h2).symm
    unfold BA
    go_wp2_with (at_builtin;refine wpList_append_lies _ rfl (.tmp 16) (.tmp 19) 129 rfl w.heap.size 208 ij _ 4 48 Tryz.underlying129 h0 i0 j0 k0 rfl (by decide) (O oa k oc) k ys rfl ?h1 ⟨w2.heap.size,0,I⟩ 1 1 [Y F (x.sort:Nat),O H x.nums.length M,Y Z (x.rule:Nat),Y Z (x.skip:Nat)] rfl rfl ?h2 ?h3 (by decide) ?h4 ?h5 ?h6 _ rfl ?h7)
    case h1=>exact q.o.alloc _
    try case h2=>exact L (aN w2 (D #[Y F (x.sort:Nat),O H x.nums.length M,Y Z (x.rule:Nat),Y Z (x.skip:Nat)] 208))
    case h3=>simp[C]
    case h4=>unfold maxLen;omega
    case h5=>omega
    case h6=>have:=a0.o.size;simp;omega
    intro g2 d0 w8 e0 a G0 _;have A0:E (Fr (fun k=>k=B) w w8):=(a0.o.alloc _).grown a (fun k Q=>z7 (q.o.lt k Q).1)
    have B0:E (Yh w8 B s j3 b):=by
     have f:Fr (fun k'=>(z9 oa k oc).ownBlock=J k') w2 w8:=(Zt.alloc _).grown a (fun k Q=>.inl Q);exact y0.o.fr f (fun hb=>by have:=(q.o.lt B hb).1;omega)
    have C0:E (Z3 w.heap.size w8 w.heap.size (O (J ⟨g2,0,I⟩) (k+1) d0) (c++[x])):=by
     have ha:∀v n zs,w2.ownsRow w.heap.size 3 1 v n zs->(w2.alloc (D #[Y F (x.sort:Nat),O H x.nums.length M,Y Z (x.rule:Nat),Y Z (x.skip:Nat)] 208)).ownsRow w.heap.size 3 1 v n zs:=fun v n zs hv=>hv.alloc _
     have e:=Z3.grown (l':=[x]) (by rw[d];exact q.o.alloc _) (b0.o.keep ha) ((Xm.one ⟨_,rfl,x0.o⟩).keep ha) a (by rw[d];exact e0);rw[d]at e;exact e
    go_wp2_with fail;go_roundg (n-(k+1))
    case measure=>omega
    exact⟨k+1,c++[x],j3,by omega,rfl,by go_num,by simp[d],B0,C0,z0,A0⟩
  have t0:¬(k:Int)<(n:Int):=by omega
  have S:N=J (c,y):=by
   have e:=V.o;rw[show n-k=0 from by omega,T0]at e;exact e.symm
  subst S;go_wp2_with fail;go_ret;exact⟨⟨_,rfl,T.o⟩,HR.o,g.o⟩
theorem Ey {l}(h:∀k s,l[k]?=J s->k+s.skip<l.length):OF l=true:=by
 unfold OF;rw[y3];intro k b
 cases a:l[k]? with
 |none=>rfl
 |some s=>simpa using h k s a
theorem Gr {l k s}(a:l[k]?=J s)(h:¬k+s.skip<l.length):OF l=false:=by
 cases e:OF l with
 |false=>rfl
 |true=>
  have:=y3.1 e k (x4.2 (iG.1 a).1);rw[a]at this;exact absurd (by simpa using this) h
theorem J1 (w B s i H ra u rc na y nc)(h:Yh w B s i H)(a0:H≠B)(c0:w.cell? ⟨H,0,I⟩=J (O ra u rc))(c1:w.cell? ⟨H,1,I⟩=J (O na y nc))(b0:u<=6)(f0:y<=8):
  G U 126 #[K (J ⟨B,0,I⟩)] w (P2 w B s H (Ta s.data.toList u y i) fun w' v l=>Z3 w.heap.size w' w.heap.size v l):=by
 have p0:∀(fn:Fn)(first cap:Array y1)(w:A),(Instr.makeFunc fn first cap).run U w=.ok (.func fn first cap) w:=fun _ _ _ _=>rfl
 have HM:=Za (J0 w B s i H 1 255 ra u rc na y nc h a0 c0 c1 b0 f0 (by omega));obtain⟨N,V⟩:∃N,Ta s.data.toList u y i=N:=⟨_,rfl⟩;rw[V];unfold Ta at V;obtain⟨r,hr⟩:∃r,YN s.data.toList 1 255 (V9 s.data.toList u y) i=r:=⟨_,rfl⟩
 have HL:E (∀l j,r=J (l,j)->l.length<=255/\∀q,q∈l->q.skip<=255):=fun l j e=>by
  rw[e]at hr;obtain⟨_,e2,e3⟩:=Wg (P:=Et u y) (fun i x j hx=>MW hx) hr;exact⟨by omega,fun q hq=>(e3 q hq).sk⟩
 rw[hr]at HM V;have HN:=Za V;go_enter Tryz.func126,Tryz.ntmps126;go_wp2_with fail;refine HM.o.mono ?_;intro e w1 hp
 cases r with
 |none=>
  obtain⟨L,hf⟩:=hp;have Q:=HN.o.symm;subst Q;unfold Te at L;subst L;exact⟨rfl,rfl,hf⟩
 |some lj=>
  obtain⟨l,j⟩:=lj;obtain⟨⟨v,rfl,hv⟩,hR,hf⟩:=hp;have HR:=Za hR;have HF:=Za hf;have HV:=Za hv;obtain⟨hl,g0⟩:=HL.o l j rfl;have h0:=Za g0;have i0:=hv;obtain⟨xs,hx,_⟩:=i0;obtain⟨pa,pc,e1⟩:=oL hx;subst e1;have j0:=Za (Mv.of hv (M w1.heap.size));have R:=Za HN;obtain⟨n,hn⟩:∃n,l.length=n:=⟨_,rfl⟩;have z:=Za hn;rw[hn]at hl ⊢;rw[hn]at HV;go_wp2_with fail
  go_loopg [12] n (fun m kv wr=>∃k:Nat,k<=n/\m=n-k/\kv=Y Z (k:Nat)/\E (∀q a,q<k->l[q]?=J a->q+a.skip<n)/\E (F0 w1 wr))
  case atStart=>exact⟨0,by omega,rfl,rfl,fun q _ h=>by omega,Zt⟩
  obtain⟨k,hk,rfl,rfl,HA,b⟩:=hrel;by_cases q0:k<n
  ·have k0:(k:Int)<(n:Int):=by omega
   obtain⟨a,c⟩:∃a,l[k]?=J a:=⟨_,gE (by have:=z.o;omega)⟩;obtain⟨g,qa,qc,rfl,_,d0,d1,d2,d3,_,_⟩:=j0.o k a c;have d:=bL w1 _ d0;have e0:=(b.o.cell (p:=⟨g,k*4,I⟩) d).trans d0;have e1:=(b.o.cell (p:=⟨g,k*4+1,I⟩) d).trans d1;have e2:=(b.o.cell (p:=⟨g,k*4+2,I⟩) d).trans d2;have e3:=(b.o.cell (p:=⟨g,k*4+3,I⟩) d).trans d3;have l0:=h0.o a (mG c);have S:=Za (b.o.alloc (D #[Y F (a.sort:Nat),O qa a.nums.length qc,Y Z (a.rule:Nat),Y Z (a.skip:Nat)] 208));have m0:=(VA wr (D #[Y F (a.sort:Nat),O qa a.nums.length qc,Y Z (a.rule:Nat),Y Z (a.skip:Nat)] 208)).2;go_upto_region 5 with fail;generalize wr.alloc _=W at*;generalize wr.heap.size=X at*;have x3:=Zc m0.o 3;by_cases T:k+a.skip<n
   ·have n0:(k:Int)+(a.skip:Int)<(n:Int):=by omega
    have o0:E (∀q a,q<k+1->l[q]?=J a->q+a.skip<n):=fun q t hq f=>by
     by_cases e:q=k
     ·subst e;rw[c]at f;injection f with f;subst f;exact T
     exact HA.o q t (by omega) f
    go_wp2_with fail;refine(WT _).mono ?_;rintro e w2 ⟨rfl,C⟩;replace C:=C.symm;subst C;go_wp2_with fail;go_roundg (n-(k+1))
    case measure=>omega
    exact⟨k+1,by omega,rfl,by go_num,o0,S⟩
   have n0:¬(k:Int)+(a.skip:Int)<(n:Int):=by omega
   have Q:N=I:=by rw[<-R.o,Gr c (by rw[z.o];exact T)];rfl
   subst Q;go_wp2_with fail;refine(Wu _).mono ?_;rintro e w2 ⟨L,C⟩;replace C:=C.symm;subst C;unfold Te at L;subst L;exact⟨rfl,rfl,HF.o.trans (S.o.mono)⟩
  have k0:¬(k:Int)<(n:Int):=by omega
  have Q:N=J (l,j):=by
   rw[<-R.o,Ey (fun q t f=>by
    have hq:=(iG.1 f).1;have hl:=z.o;rw[hl]at hq ⊢
    exact HA.o q t (by omega) f)]
   rfl
  subst Q;go_wp2_with fail;go_ret;exact⟨⟨_,rfl,Q6 HV.o b.o⟩,HR.o.fr b.o,HF.o.trans (b.o.mono)⟩
theorem J3:(U.info? 129).map (fun i=>(i.zero,i.size,i.bytes))=J (J (O I 0 0),1,24):=by kernel_rfl
theorem Xm.base {b a:Nat}{w:A}(d:a<=b):∀{l:List Zl}{f:List y1},Xm b w l f->Xm a w l f
 |[],_,h=>h
 |_::_,_,⟨c,rest,e,⟨vn,e1,h1⟩,h2⟩=>⟨c,rest,e,⟨vn,e1,oS h1 d⟩,Xm.base d h2⟩
theorem Z3.base {b a w v l}(h:Z3 b w b v l)(c:a<=b):Z3 a w a v l:=by
 obtain⟨d,e,f⟩:=h;exact⟨d,oS e c,f.base c⟩
def Pq (base:Nat)(w:A)(v:y1)(a:List (List Zl)):Prop:=∃b,w.ownsRow base 129 1 v a.length b/\∀(j:Nat)(l:List Zl),a[j]?=J l->∃c,b[j]?=J c/\Z3 base w base c l
theorem J4 (w B s i b lo hi ra y rc na z nc)(h:Yh w B s i b)(A:b≠B)(c0:w.cell? ⟨b,0,I⟩=J (O ra y rc))(c1:w.cell? ⟨b,1,I⟩=J (O na z nc))(i0:y<=6)(j0:z<=8)(H0:hi<=255):
  G U 125 #[K (J ⟨B,0,I⟩),Y Z lo,Y Z hi,.func (.func 126) #[K (J ⟨B,0,I⟩)] #[]] w (P2 w B s b (YN s.data.toList lo hi (Ta s.data.toList y z) i) fun w' v c=>Pq w.heap.size w' v c):=by
 obtain⟨ij,k0,l0,m0,n0⟩:=info_parts J3;have HH:=Za (Z2 w B s i b 1 1 lo hi h (by decide) rfl);have I0:B<w.heap.size:=(iA.1 h.bx).1
 have HO:E (∀W i,Fr (fun k=>k=B) w W->Yh W B s i b->G U 126 #[K (J ⟨B,0,I⟩)] W (P2 W B s b (Ta s.data.toList y z i) fun w' v x=>Z3 W.heap.size w' W.heap.size v x)):=fun W i Q hR=>J1 W B s i b ra y rc na z nc hR A ((Q.cell (p:=⟨b,0,I⟩) (bL w _ c0) A).trans c0) ((Q.cell (p:=⟨b,1,I⟩) (bL w _ c1) A).trans c1) i0 j0
 obtain⟨N,hN⟩:∃N,YN s.data.toList lo hi (Ta s.data.toList y z) i=N:=⟨_,rfl⟩;rw[hN];have HN:=Za hN;generalize Ta s.data.toList y z=one at*;go_enter Tryz.func125,Tryz.ntmps125;go_wp2_with fail;refine HH.o.mono ?_;intro e w1 q
 cases h1:Y4 s.data.toList 1 lo hi i with
 |none=>
  rw[h1]at q;obtain⟨S,Q⟩:=q
  have T:N=I:=by rw[<-HN.o];exact T2 h1
  subst T;unfold Te at S;subst S;exact⟨rfl,rfl,Q⟩
 |some nj=>
  obtain⟨n,j⟩:=nj;rw[h1]at q;obtain⟨⟨v,rfl,rfl⟩,o0,p0⟩:=q;have q0:=Za o0;have r0:=Za p0
  have hn:n<=255:=by have:=(Yq h1).2;omega
  have s0:E (YH one [] n j=N):=by show _=_;rw[<-HN.o];exact(T1 h1).symm
  go_wp2_with fail
  go_loopg [9,14] n (fun m ov kv wr=>∃(k:Nat)(c:List (List Zl))(F:Nat),k<=n/\m=n-k/\kv=Y Z (k:Nat)/\c.length=k/\E (Yh wr B s F b)/\E (Pq w.heap.size wr ov c)/\E (YH one c (n-k) F=N)/\E (Fr (fun k=>k=B) w wr))
  case atStart=>exact⟨0,[],j,by omega,rfl,rfl,rfl,q0,⟨[],oZ _ _ _ _,fun j l h=>by simp at h⟩,s0,r0⟩
  obtain⟨k,c,F,r,rfl,rfl,t,HR,V,X,d⟩:=hrel;obtain⟨ys,H,t0⟩:=V.o;rw[t]at H;obtain⟨oa,oc,ho⟩:=oL H;subst ho;have v0:=Za H;have w0:=Za t0;by_cases J0:k<n
  ·have x0:(k:Int)<(n:Int):=by omega
   have a0:E (YH one c (n-(k+1)+1) F=N):=by show _=_;rw[show n-(k+1)+1=n-k from by omega];exact X.o
   go_wp2_with fail;refine(HO.o wr F d.o HR.o).mono ?_;intro e w2 q
   cases h2:one F with
   |none=>
    rw[h2]at q;obtain⟨S,Q⟩:=q
    have T:N=I:=by rw[<-a0.o];exact UQ h2
    subst T;unfold Te at S;subst S;exact⟨rfl,rfl,d.o.trans Q⟩
   |some xj=>
    obtain⟨x,j3⟩:=xj;rw[h2]at q;obtain⟨⟨v,rfl,b0⟩,y0,P⟩:=q;obtain⟨zs,z0,_⟩:=id b0;obtain⟨qa,qc,e1⟩:=oL z0;subst e1;have A0:=Za (b0.base d.o.size);have B0:=Za y0;have d0:=Za (d.o.trans P);have g:=Za (oF v0.o P (fun k r=>by omega))
    have e0:E (∀(j:Nat)(l:List Zl),c[j]?=J l->∃R,ys[j]?=J R/\Z3 w.heap.size w2 w.heap.size R l):=fun j l u=>by
     obtain⟨R,e1,e2⟩:=w0.o j l u;exact⟨R,e1,Rp e2 (M _) P (fun k r=>by omega)⟩
    have C0:E (YH one (c++[x]) (n-(k+1)) j3=N):=by show _=_;rw[<-a0.o];exact(UR h2).symm
    go_wp2_with (at_builtin;refine wpList_append_lies _ rfl (.tmp 16) (.tmp 19) 130 rfl w.heap.size 129 ij _ 1 24 Tryz.underlying130 k0 l0 m0 n0 rfl (by decide) (O oa k oc) k ys rfl ?h1 ⟨w2.heap.size,0,I⟩ 1 1 [O qa x.length qc] rfl rfl ?h2 ?h3 (by decide) ?h4 ?h5 ?h6 _ rfl ?h7)
    case h1=>exact g.o.alloc _
    try case h2=>exact L (aN w2 (D #[O qa x.length qc] 129))
    case h3=>simp[C]
    case h4=>unfold maxLen;omega
    case h5=>omega
    case h6=>have:=d0.o.size;simp;omega
    intro g2 f0 w8 g0 a K0 _;have D0:E (Fr (fun k=>k=B) w w8):=(d0.o.alloc _).grown a (fun k r=>z7 (g.o.lt k r).1)
    have E0:E (Yh w8 B s j3 b):=by
     have f:Fr (fun k'=>(z9 oa k oc).ownBlock=J k') w2 w8:=(Zt.alloc _).grown a (fun k r=>.inl r);exact B0.o.fr f (fun hb=>by have:=(g.o.lt B hb).1;omega)
    have F0:E (Pq w.heap.size w8 (O (J ⟨g2,0,I⟩) (k+1) f0) (c++[x])):=by
     have r:∀v l,Z3 w.heap.size w2 w.heap.size v l->Z3 w.heap.size w8 w.heap.size v l:=fun v l hs=>by
      obtain⟨us,u1,u2⟩:=hs;have o1:(w2.alloc (D #[O qa x.length qc] 129)).ownsRow w.heap.size 129 1 (O oa k oc) k ys:=g.o.alloc _;exact⟨us,(u1.alloc _).kept a (WL (u1.alloc _) o1 (by decide)),u2.keep (fun v n zs hv=>(hv.alloc _).kept a (WL (hv.alloc _) o1 (by decide)))⟩
     refine⟨ys++[O qa x.length qc],by rw[lA,t];exact g0,fun j l u=>?_⟩
     have G0:ys.length=k:=by have e:=g.o.1;simpa using e
     by_cases L0:j<k
     ·rw[y2 (by omega)]at u
      obtain⟨R,e1,e2⟩:=e0.o j l u;exact⟨R,by rw[y2 (by omega)];exact e1,r _ _ e2⟩
     rw[aR (by omega),t]at u
     have h0:j-k=0:=by
      have:=(iG.1 u).1;simp at this;omega
     rw[h0]at u;simp at u;subst u;exact⟨_,by rw[aR (by omega),G0,h0];rfl,r _ _ A0.o⟩
    go_wp2_with fail;go_roundg (n-(k+1))
    case measure=>omega
    exact⟨k+1,c++[x],j3,by omega,rfl,by go_num,by simp[t],E0,F0,C0,D0⟩
  have x0:¬(k:Int)<(n:Int):=by omega
  have T:N=J (c,F):=by
   have e:=X.o;rw[show n-k=0 from by omega,T0]at e;exact e.symm
  subst T;go_wp2_with fail;go_ret;exact⟨⟨_,rfl,V.o⟩,HR.o,d.o⟩
