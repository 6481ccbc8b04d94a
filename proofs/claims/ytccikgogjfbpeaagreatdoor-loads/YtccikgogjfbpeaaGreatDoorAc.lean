import Derived.Test.YtccikgogjfbpeaaGreatDoorAb
open Option renaming none->I,some->J
open Go.Value renaming int->P,string->Z,pointer->U,oneCell'->K,slice->O
open Go.IntKind renaming i64->S
open List renaming eq_nil_of_length_eq_zero->V
open Go.RowKit renaming Hid->Y
namespace Go.Proofs.YtccikgogjfbpeaaGreatDoor
set_option maxRecDepth 30000
set_option maxHeartbeats 8000000
open Go.RowKit
structure Zf where
 name:ByteArray
 base:Nat
 rate:Nat
def Sb (r:Zf):List Value:=[Z r.name,P S r.base,P S r.rate]
def Yi (rs:List Zf):List Value:=rs.flatMap Sb
theorem Nx (rs r):Yi (rs++[r])=Yi rs++Sb r:=by simp[Yi]
theorem TM:∀(rs:List Zf)(j:Nat)(r:Zf),rs[j]?=J r->(Yi rs)[j*3]?=J (Z r.name)/\(Yi rs)[j*3+1]?=J (P S r.base)/\(Yi rs)[j*3+2]?=J (P S r.rate)
 |[],j,t,h=>by simp at h
 |x::r,0,t,h=>by simp at h;subst h;exact⟨rfl,rfl,rfl⟩
 |x::r,j+1,t,h=>by
  have:=TM r j t (by simpa using h)
  have e:Yi (x::r)=Sb x++Yi r:=by simp[Yi]
  have l:(Sb x).length=3:=rfl;rw[e];refine⟨?_,?_,?_⟩
  ·rw[aR (by omega),l,show(j+1)*3-3=j*3 from by omega];exact this.1
  ·rw[aR (by omega),l,show(j+1)*3+1-3=j*3+1 from by omega];exact this.2.1
  rw[aR (by omega),l,show(j+1)*3+2-3=j*3+2 from by omega];exact this.2.2
theorem U0 {w:World}{base v rs}(h:w.ownsRow base 148 3 v rs.length (Yi rs))(f:0<rs.length):
  ∃g cap,v=O (J ⟨g,0,I⟩) rs.length cap/\base<=g/\g<w.heap.size/\∀j r,rs[j]?=J r->w.cell? ⟨g,j*3,I⟩=J (Z r.name)/\w.cell? ⟨g,j*3+1,I⟩=J (P S r.base)/\w.cell? ⟨g,j*3+2,I⟩=J (P S r.rate):=by
 obtain⟨g,cap,rfl,i,l⟩:=h.form f;refine⟨g,cap,rfl,i,l,fun j t m=>?_⟩;obtain⟨a,b,c⟩:=TM rs j t m
 have d:∀k,(⟨g,0,I⟩:Addr).add k=⟨g,k,I⟩:=fun k=>by unfold Addr.add;split<;>simp_all
 have e:=h.cells (g:=g) rfl;exact⟨by have:=e _ _ a;rwa [d]at this,by have:=e _ _ b;rwa [d]at this,by have:=e _ _ c;rwa [d]at this⟩
def Zk (a:ByteArray):Nat->List Zf->Int
 |_,[]=> -1
 |i,r::rs=>if(r.name.toList==a.toList)=true then(i:Int)else Zk a (i+1) rs
theorem Ny (w B base v rs b)(H:w.cell? ⟨B,0,I⟩=J v)(h:w.ownsRow base 148 3 v rs.length (Yi rs))(t:rs.length<=6):
  Calls Tryz.prog 315 #[U (J ⟨B,0,I⟩),Z b] w fun e w'=>e=.returned (P S (Zk b 0 rs))/\F0 w w':=by
 by_cases y:0<rs.length
 ·obtain⟨g,cap,rfl,K,l,f⟩:=U0 h y
  have z:=Za f;go_enter Tryz.func315,Tryz.ntmps315;go_wp2_with fail
  go_loopg [5,6,12] rs.length (fun m _ _ c wr=>∃j,j<=rs.length/\m=rs.length-j/\c=P S j/\Y (F0 w wr)/\Y (Zk b 0 rs=Zk b j (rs.drop j)))
  case atStart=>exact⟨0,Nat.zero_le _,rfl,rfl,Zt,rfl⟩
  obtain⟨j,L,rfl,rfl,d,n⟩:=hrel;by_cases q:j<rs.length
  ·obtain⟨r,u⟩:∃r,rs[j]?=J r:=⟨_,gE q⟩
   obtain⟨A,C,D⟩:=z.o j r u;rw[<-d.o.cell (p:=⟨g,j*3,I⟩) l (by simp)]at A;rw[<-d.o.cell (p:=⟨g,j*3+1,I⟩) l (by simp)]at C;rw[<-d.o.cell (p:=⟨g,j*3+2,I⟩) l (by simp)]at D
   have s:(j:Int)<(rs.length:Int):=by omega
   have a:Y (rs.drop j=r::rs.drop (j+1)):=by
    obtain⟨i,E⟩:=iG.1 u
    show _=_
    rw[dC i,E]
   cases x:(r.name.toList==b.toList)with
   |true=>
    have k:Y (Zk b 0 rs=(j:Int)):=by show _=_;rw[n.o,a.o];simp only[Zk];rw[if_pos x]
    go_wp2;go_ret;exact⟨ZP k.o.symm,d.o.alloc _⟩
   |false=>
    have k:Y (Zk b 0 rs=Zk b (j+1) (rs.drop (j+1))):=by show _=_;rw[n.o,a.o];simp only[Zk];rw[if_neg (by simp[x])]
    go_wp2;go_roundg (rs.length-(j+1))
    case measure=>omega
    exact⟨j+1,by omega,rfl,by go_num,d.o.alloc _,k⟩
  have s:¬(j:Int)<(rs.length:Int):=by omega
  have k:Y (Zk b 0 rs= -1):=by show _=_;rw[n.o,dL (by omega)];rfl
  go_wp2;go_ret;exact⟨ZP k.o.symm,d.o⟩
 have F:rs=[]:=V (by omega)
 subst F;rcases h.2 with⟨rfl,_⟩|⟨g,cap,G,rfl,_⟩
 all_goals
  go_enter Tryz.func315,Tryz.ntmps315;go_wp2_with fail
  go_loopg [5,6,12] 1 (fun m _ _ c wr=>m=1/\c=P S 0/\wr=w)
  case atStart=>exact⟨rfl,rfl,rfl⟩
  obtain⟨rfl,rfl,rfl⟩:=hrel;go_wp2;go_ret;exact⟨rfl,Zt⟩
theorem St (a:ByteArray):∀(rs:List Zf)(i:Nat),Zk a i rs= -1\/((i:Int)<=Zk a i rs/\Zk a i rs<(i:Int)+rs.length)
 |[],_=>.inl rfl
 |r::rs,i=>by
  simp only[Zk]
  split
  ·right;simp;omega
  rcases St a rs (i+1)with h|h
  ·exact .inl h
  right
  simp at h ⊢;omega
def Zw (rs:List Zf):Nat->List Tk->Except (Nat×Nat) (List Nat)
 |_,[]=>.ok []
 |i,t::r=>if i=4 then .error (6,t.line)else if Zk t.text 0 rs<0 then .error (4,t.line)else
  match Zw rs (i+1) r with
  | .error f=>.error f
  | .ok ns=>.ok ((Zk t.text 0 rs).toNat::ns)
def W7 (rs:List Zf)(a:List Nat)(i:Nat)(l:List Tk):Except (Nat×Nat) (List Nat):=
 match Zw rs i l with
 | .error f=>.error f
 | .ok ns=>.ok (a++ns)
theorem Iu (rs a i):W7 rs a i []=.ok a:=by simp[W7,Zw]
theorem Jl {rs a t r}:W7 rs a 4 (t::r)=.error (6,t.line):=by simp[W7,Zw]
theorem Iv {rs a i t r}(h:i≠4)(b:Zk t.text 0 rs<0):W7 rs a i (t::r)=.error (4,t.line):=by simp[W7,Zw,h,b]
theorem Fi {rs a i t r}(h:i≠4)(b:¬Zk t.text 0 rs<0):W7 rs a i (t::r)=W7 rs (a++[(Zk t.text 0 rs).toNat]) (i+1) r:=by
 simp only[W7,Zw,if_neg h,if_neg b]
 cases Zw rs (i+1) r<;>simp
theorem Fj (w B base f v X ts rs)(hB:w.cell? ⟨B,0,I⟩=J X)(z:w.ownsRow f 148 3 X rs.length (Yi rs))(s:rs.length<=6)(h:w.ownsRow base 263 3 v ts.length (Ys ts))(g0:ts.length<=4000):
  Calls Tryz.prog 323 #[U (J ⟨B,0,I⟩),v] w (Wx (Zw rs 0 ts) w):=by
 have HM:Y (Zw rs 0 ts=W7 rs [] 0 ts):=by show _=_;unfold W7;cases Zw rs 0 ts<;>simp
 have A:B<w.heap.size:=bL w _ hB
 have HP:Y (∀W N,F0 w W->Calls Tryz.prog 315 #[U (J ⟨B,0,I⟩),Z N] W fun e w'=>e=.returned (P S (Zk N 0 rs))/\F0 W w'):=
  fun W N i=>Ny W B f X rs N (by rw[i.cell (p:=⟨B,0,I⟩) A];exact hB) (oF z i) s
 have H6:=Za s;clear hB z A s;obtain⟨ii,hi,a0,b0,c0⟩:=info_parts Y3;by_cases y:0<ts.length
 ·obtain⟨g,cap,rfl,hb,hl,b⟩:=Od h y
  have HR:=Za b;clear h b y;go_enter Tryz.func323,Tryz.ntmps323;go_wp2_with fail
  go_loopg [5,6,7,8,11] ts.length (fun m o _ _ _ c wr=>∃j a,j<=ts.length/\m=ts.length-j/\c=P S j/\Y (wr.ownsRow w.heap.size 3 1 o a.length (Zg a))/\Y (a.length=j)/\Y (F0 w wr)/\Y (Zw rs 0 ts=W7 rs a j (ts.drop j)))
  case atStart=>exact⟨0,[],Nat.zero_le _,rfl,rfl,oZ _ _ _ _,rfl,Zt,HM.o⟩
  obtain⟨j,a,hj,rfl,rfl,HO,HA,u,Q⟩:=hrel;by_cases d0:j<ts.length
  ·obtain⟨t,ht⟩:∃t,ts[j]?=J t:=⟨_,gE d0⟩
   obtain⟨r0,r1,r2⟩:=HR.o j t ht;rw[<-u.o.cell (p:=⟨g,j*3,I⟩) hl (by simp)]at r0;rw[<-u.o.cell (p:=⟨g,j*3+1,I⟩) hl (by simp)]at r1;rw[<-u.o.cell (p:=⟨g,j*3+2,I⟩) hl (by simp)]at r2
   have C:(j:Int)<(ts.length:Int):=by omega
   have d:Y (ts.drop j=t::ts.drop (j+1)):=O3 ht;clear ht;by_cases h4:j=4
   ·have D:((j:Int)==4)=true:=by simp;omega
    have R:=Za h4;clear h4;go_wp2_with fail;refine(YE t 6 _ _ (by rfl)).mono ?_;rintro e E ⟨F,i⟩;unfold Zj at F;subst F;exact⟨rfl,(Wx.err (by rw[Q.o,d.o,R.o];exact Jl)).2 ⟨rfl,(u.o.alloc _).trans i⟩⟩
   have D:((j:Int)==4)=false:=by simp;omega
   have R:=Za h4;clear h4;go_wp2_with fail;refine(HP.o _ t.text (by exact u.o.alloc _)).mono ?_;rintro e E ⟨rfl,i⟩;have x:Y (F0 w E):=(u.o.alloc _).trans i;have G:Y (E.ownsRow w.heap.size 3 1 u5 a.length (Zg a)):=oF (HO.o.alloc _) i;have T:=i.whole (aN wr (.cells #[P S t.sort,Z t.text,P S t.line] 263));clear r0 r1 r2 i;have t0:=Zc T 0;have t1:=Zc T 1;have t2:=Zc T 2;clear T;have H:=St t.text rs 0;by_cases hv:Zk t.text 0 rs<0
   ·have HQ:Y (Zw rs 0 ts=.error (4,t.line)):=Q.o.trans (by rw[d.o];exact Iv R.o hv)
    generalize Zk t.text 0 rs=q at*;clear H;go_wp2_with fail;refine(YE t 4 _ _ (by rfl)).mono ?_;rintro e w4 ⟨F,i⟩;unfold Zj at F;subst F;exact⟨rfl,(Wx.err HQ.o).2 ⟨rfl,x.o.trans i⟩⟩
   have L:Y (Zw rs 0 ts=W7 rs (a++[(Zk t.text 0 rs).toNat]) (j+1) (ts.drop (j+1))):=Q.o.trans (by rw[d.o];exact Fi R.o hv)
   obtain⟨n,y⟩:∃n:Nat,Zk t.text 0 rs=(n:Int):=⟨(Zk t.text 0 rs).toNat,by omega⟩
   have h0:a.length<=ts.length:=by have:=HA.o;omega
   have j0:=x.o.size;clear H t0 t1 t2 hv;rw[y,Int.toNat_natCast]at L;rw[y];clear y
   have k0:¬(n:Int)<0:=by omega
   clear D C
   go_wp2_with (at_builtin;refine wpList_append_lies _ rfl (.tmp 28) (.tmp 30) 25 rfl w.heap.size 3 ii _ 1 8 Tryz.underlying25 hi a0 b0 c0 rfl (by decide) u5 a.length (Zg a) rfl ?h1 ⟨E.heap.size,0,I⟩ 1 1 [P S n] rfl rfl ?h2 ?h3 (by decide) ?h4 ?h5 ?h6 _ rfl ?h7)
   case h1=>exact G.o.alloc _
   case h2=>exact World.news_of_block (aN E _)
   case h3=>simp[K]
   case h4=>unfold maxLen;omega
   case h5=>omega
   case h6=>simp;omega
   intro g2 i0 w4 r l _ _
   have b:∀k,u5.ownBlock=J k->w.heap.size<=k:=fun k hk=>(G.o.lt k hk).1
   have e0:=Za r;have f0:=Za ((x.o.alloc _).grown l (fun k hk=>Or.inr (b k hk)));clear l r b;go_wp2;go_roundg (ts.length-(j+1))
   case measure=>omega
   refine⟨j+1,a++[n],by omega,rfl,by go_num,?_,?_,f0,L⟩
   ·show World.ownsRow _ _ _ _ _ _ _
    rw[XZ,lA];exact e0.o
   show _=_
   have:=HA.o;simp;omega
  have C:¬(j:Int)<(ts.length:Int):=by omega
  have M:Y (Wx (Zw rs 0 ts) w (.returned u5) wr):=by
   show Wx _ _ _ _
   refine(Wx.ok (ns:=a) ?_).2 ⟨⟨u5,rfl,HO.o⟩,u.o⟩;rw[Q.o,dL (by omega)];exact Iu _ _ _
  go_wp2;go_ret;exact M.o
 have hz:ts=[]:=V (by omega)
 subst hz;rcases h.2 with⟨rfl,_⟩|⟨g,cap,l0,rfl,_⟩
 all_goals
  clear h;go_enter Tryz.func323,Tryz.ntmps323;go_wp2_with fail
  go_loopg [5,6,7,8,11] 1 (fun m o _ _ _ c wr=>m=1/\o=O I 0 0/\c=P S 0/\wr=w)
  case atStart=>exact⟨rfl,rfl,rfl,rfl⟩
  obtain⟨rfl,rfl,rfl,rfl⟩:=hrel;go_wp2;go_ret;exact(Wx.ok (ns:=[]) rfl).2 ⟨⟨_,rfl,oZ _ _ _ _⟩,Zt⟩
