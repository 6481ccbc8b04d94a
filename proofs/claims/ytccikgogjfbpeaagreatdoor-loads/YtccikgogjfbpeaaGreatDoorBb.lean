import Derived.Test.YtccikgogjfbpeaaGreatDoorAz
import Derived.Lib.LaidTab
import Derived.Lib.AppendStr
import Derived.Lib.UnsafeStr
open Option renaming none->I,some->V
open Go.Value renaming pointer->J,slice->Z,int->U,string->H,bool->y4,agg->q6,slice->q9,oneCell'->j8
open Go.Proofs.Tryz renaming prog->Y
open List renaming append_assoc->E,length_append->z4,take_of_length_le->z5,range->z9,getElem?_map->x4,map_id'->x7,take_add_one->x8,map_append->q4,flatMap_append->q7,getD->q8,length_take->j0,flatMap_def->j1,take_left'->j3,drop_left'->j4,nil_append->j5,mem_range->j7
open Go.Obj renaming cells->D
open Go.Ending renaming returned->G
open Go.RowKit renaming Hid->M
open UInt8 renaming ofNat->R,toNat_ofNat'->z8
open Go.AllReadyH renaming nil->C
open Go.IntKind renaming i64->F,u8->x5,u32->q5,u8->j2,signed->j6,wrap->j9,bits->v3,i64->v5
open Go renaming Calls->z3,World->z6,Value->x6
open Nat renaming add_assoc->z7,le_refl->y5,le_of_eq->y6,zero_le->y8,xor_lt_two_pow->y9,mod_eq_of_lt->x9,le_trans->q3,zero_add->v4
open Or renaming inl->y7,inr->v6
namespace Go.Proofs.YtccikgogjfbpeaaGreatDoor
set_option maxRecDepth 30000
set_option maxHeartbeats 8000000
open Go.RowKit
def zI:List Int:=No.map fun(n:Nat)=>(n:Int)
def LP (w:z6):Prop:=Lib.TabIs Y w "junction/seal.halves" .u32 zI
theorem LP.fr {w w'}(h:LP w)(a:F0 w w'):LP w':=Lib.tabBelow_of_tabIs h w' (a.below (y5 _))
theorem ur:Y.globalNamed "junction/seal.halves" =V 0:=by kernel_rfl
theorem LP.cell {w}(h:LP w)(i)(hi:i<16):w.cell? ⟨0,i,I⟩=V (U .u32 ((No.getD i 0:Nat):Int)):=by
 have e:=Lib.TabIs.cell h ur i (by simpa[zI,No]using hi);rw[e]
 congr 2
 unfold zI;rw[q8,x4,q8]
 cases No[i]?<;>rfl
theorem Uj (a b:Nat)(e:a<4294967296)(f:b<4294967296):bits .xor .u32 (a:Int) (b:Int)=((a^^^b:Nat):Int):=by
 have g:a^^^b<2^32:=y9 (by omega) (by omega)
 have c:(BitVec.ofInt 32 (a:Int)).toNat=a:=by
  rw[BitVec.ofInt_natCast,BitVec.toNat_ofNat];exact x9 (by omega)
 have d:(BitVec.ofInt 32 (b:Int)).toNat=b:=by
  rw[BitVec.ofInt_natCast,BitVec.toNat_ofNat];exact x9 (by omega)
 show q5.wrap ((BitVec.ofInt 32 (a:Int)^^^BitVec.ofInt 32 (b:Int)).toNat:Int)=_
 rw[BitVec.toNat_xor,c,d];exact IntWalk.u32_in _ (by constructor<;>omega)
theorem Sy (a:Nat)(c:a<4294967296):bits .and .u32 (a:Int) 15=((a % 16:Nat):Int):=by
 have b:(BitVec.ofInt 32 (a:Int)).toNat=a:=by
  rw[BitVec.ofInt_natCast,BitVec.toNat_ofNat];exact x9 (by omega)
 show q5.wrap ((BitVec.ofInt 32 (a:Int)&&& BitVec.ofInt 32 15).toNat:Int)=_
 rw[BitVec.toNat_and,b,show(BitVec.ofInt 32 15).toNat=2^4-1 from by decide,Nat.and_two_pow_sub_one_eq_mod];exact IntWalk.u32_in _ (by constructor<;>omega)
theorem zJ:∀(l:List UInt8){r:Nat},r<4294967296->BS r l<4294967296
 |[],_,h=>h
 |c::l,r,h=>zJ l (ES 8 (y9 (n:=32) h (by have:c.toNat<256:=c.toNat_lt;omega)))
theorem zK (l c):∀r,BS r (l++[c])=tn 8 (BS r l^^^c.toNat):=by
 induction l with
 |nil=>intro r;rfl
 |cons d l a=>intro r;exact a _
theorem xB (i)(hi:i<16):No.getD i 0<4294967296:=by
 have:i=0\/i=1\/i=2\/i=3\/i=4\/i=5\/i=6\/i=7\/i=8\/i=9\/i=10\/i=11\/i=12\/i=13\/i=14\/i=15:=by omega
 rcases this with h|h|h|h|h|h|h|h|h|h|h|h|h|h|h|h<;>rw[h]<;>decide
theorem KH {W}(h:LP W)(y)(a:y<4294967296):∃v:Nat,W.cell? ⟨0,y % 16,I⟩=V (U .u32 (v:Nat))/\bits .xor .u32 ((y:Int)/16) (v:Int)=((tn 4 y:Nat):Int):=by
 refine⟨No.getD (y % 16) 0,h.cell _ (by omega),?_⟩;rw[show((y:Int)/16)=((y/16:Nat):Int)from by simp,Uj _ _ (by omega) (xB _ (by omega)),yF]
def Qr (l:List UInt8):Nat:=4294967295^^^BS 4294967295 l
theorem Gd (s w)(hs:s.size<=200000)(C:LP w):
  z3 Y 118 #[H s] w fun e w'=>e=G (U .u32 (Qr s.data.toList:Nat))/\F0 w w':=by
 have p:=fun w=>Lib.run_convert_string_bytes (P:=Y) w 9 50 5 s Tryz.underlying9 Tryz.underlying50 Tryz.underlying5
 have D:=Za C;obtain⟨l,h⟩:∃l,s.data.toList=l:=⟨_,rfl⟩;have O:=Za h
 have Q:l.length=s.size:=by rw[<-h];simp
 rw[h];clear h;clear C;go_enter Tryz.func118,Tryz.ntmps118;go_wp2_with fail;have E:M (F0 w (Lib.bytesWorld w 5 s)):=Wk _ _ _;have f:=Za (D.o.fr E.o)
 have a:∀j,j<s.size->(Lib.bytesWorld w 5 s).cell? ⟨w.heap.size,j,I⟩=V (U x5 (ZC s j)):=fun j R=>by
  have:=Lib.bytesWorld_cell w 5 s j R
  simpa[ZC]using this
 have S:=Za a;clear a p D;generalize Lib.bytesWorld w 5 s=W at*;generalize grownCap _ _ _ _=cap at*
 go_loop [3,5,9] (fun T _ i=>∃(k r:Nat),k<=s.size/\i=U F k/\T=U .u32 (r:Nat)/\r<4294967296/\M (r=BS 4294967295 (l.take k))) (fun _ _ i=>s.size-(intOf i).toNat)
 case atStart=>exact⟨0,4294967295,y8 _,rfl,rfl,by omega,rfl⟩
 obtain⟨k,r,hk,rfl,rfl,J,m⟩:=hrel;by_cases t:k<s.size
 ·have X:=S.o k t
  have u:(k:Int)<(s.size:Int):=by omega
  obtain⟨c,b⟩:∃c,l[k]?=V c:=⟨_,gE (by omega)⟩
  have g:ZC s k=(c.toNat:Int):=by unfold ZC;rw[O.o];simp[q8,b]
  rw[g]at X;have Z:=c.toNat_lt
  have K:M (BS 4294967295 (l.take (k+1))=tn 8 (r^^^c.toNat)):=by
   show _=_
   rw[x8,b,m.o];exact zK _ _ _
  generalize c.toNat=v at*;have x1:=Uj r v J (by omega);have d:r^^^v<4294967296:=y9 (n:=32) (by omega) (by omega);generalize r^^^v=y at*;have a1:=Sy y d;obtain⟨v1,c1,x2⟩:=KH f.o y d;have x:=ES 4 d;have L:=Za (G8 4 4 y);generalize tn 4 y=z at*;have a2:=Sy z x;obtain⟨v2,c2,x3⟩:=KH f.o z x;have A:=ES 4 x
  have B:M (tn 4 z=BS 4294967295 (l.take (k+1))):=by show _=_;rw[K.o,L.o]
  generalize tn 4 z=z2 at*
  have m1:((y:Int)% 16)<16:=by omega
  have m2:((z:Int)% 16)<16:=by omega
  have m3:0<=((y:Int)% 16):=by omega
  have m4:0<=((z:Int)% 16):=by omega
  clear b g K L m;go_wp2_with fail;exact⟨⟨k+1,z2,by omega,by go_num,rfl,A,B⟩,by simp[intOf];omega⟩
 have u:¬(k:Int)<(s.size:Int):=by omega
 have N:r=BS 4294967295 l:=by rw[m.o,z5 (by omega)]
 have x1:bits .xor .u32 q5.max (r:Int)=((4294967295^^^r:Nat):Int):=Uj 4294967295 r (by omega) J
 have HS:M (4294967295^^^r=Qr l):=by show _=_;rw[N];rfl
 clear N m;generalize 4294967295^^^r=q at*;go_wp2_with fail;go_ret;rw[HS.o];exact⟨rfl,E.o⟩
def Xy (n:Nat):List UInt8:=[R n,R (n/256),R (n/65536),R (n/16777216)]
theorem Rr (n w)(k:n<4294967296):
  z3 Y 117 #[U .u32 (n:Nat)] w fun e w'=>e=G (H ⟨(Xy n).toArray⟩)/\F0 w w':=by
 have f:∀x:Nat,j2.wrap (x:Int)=(((R x).toNat:Nat):Int):=fun x=>by
  rw[z8];simp[j9,v3,j6]
 have w0:=f n
 have l:(n:Int)/256 % 256=(((R (n/256)).toNat:Nat):Int):=by rw[z8];omega
 have w2:(n:Int)/65536 % 256=(((R (n/65536)).toNat:Nat):Int):=by rw[z8];omega
 have m:(n:Int)/16777216=(((R (n/16777216)).toNat:Nat):Int):=by rw[z8];omega
 have g:M (Xy n=[R n,R (n/256),R (n/65536),R (n/16777216)]):=rfl;generalize Xy n=p at*;generalize R n=a at*;generalize R (n/256)=b at*;generalize R (n/65536)=c at*;generalize R (n/16777216)=d at*
 have h:(convert 50 9 (Z (V ⟨w.heap.size,0,I⟩) 4 4)).run Y (w.alloc (D #[U x5 (a.toNat:Nat),U x5 (b.toNat:Nat),U x5 (c.toNat:Nat),U x5 (d.toNat:Nat)] 5))=.ok (H ⟨#[a,b,c,d]⟩) (w.alloc (D #[U x5 (a.toNat:Nat),U x5 (b.toNat:Nat),U x5 (c.toNat:Nat),U x5 (d.toNat:Nat)] 5)):=by
  have e:=run_convert_bytes_back (P:=Y) (w.alloc (D #[U x5 (a.toNat:Nat),U x5 (b.toNat:Nat),U x5 (c.toNat:Nat),U x5 (d.toNat:Nat)] 5)) 50 9 5 ⟨w.heap.size,0,I⟩ 4 [a,b,c,d] Tryz.underlying50 Tryz.underlying5 Tryz.underlying9 (by
   intro j i
   have:j=0\/j=1\/j=2\/j=3:=by simp at i;omega
   rcases this with rfl|rfl|rfl|rfl<;>rw[Yc]<;>exact bC (aN w _) _ _ rfl)
  simpa using e
 clear f;go_enter Tryz.func117,Tryz.ntmps117;go_wp2_with fail;go_ret;rw[g.o];exact⟨rfl,Zt.alloc _⟩
def S0 (l:List UInt8):Option (List UInt8):=if 8<=l.length/\l.length<=200000 then(if l.take 4=Xy l.length/\l.drop (l.length-4)=Xy (Qr (l.take (l.length-4)))then V ((l.take (l.length-4)).drop 4)else I)else I
def zL:Option (List UInt8)->x6
 |none=>.tuple #[H ⟨#[]⟩,y4 false]
 |some l=>.tuple #[H ⟨l.toArray⟩,y4 true]
theorem KI (a:ByteArray)(l):(a.toList==(⟨l.toArray⟩:ByteArray).toList)=decide (a.data.toList=l):=by
 rw[ByteArray.toList_eq,ByteArray.toList_eq];by_cases h:a.data.toList=l
 ·simp[h]
 simp[h]
theorem Dz (l):Qr l<4294967296:=y9 (n:=32) (by omega) (zJ l (by omega))
theorem Pi (s:ByteArray)(i j):(s.extract i j).data.toList=(s.data.toList.take j).drop i:=by
 rw[ByteArray.data_extract,Array.toList_extract];simp[List.extract_eq_take_drop,List.drop_take]
theorem Bu (s w)(hs:s.size<=9223372036854775807)(a:LP w):
  z3 Y 75 #[H s] w fun e w'=>e=G (zL (S0 s.data.toList))/\F0 w w':=by
 have N:=Za a
 have g:s.data.toList.length=s.size:=by simp
 obtain⟨O,q⟩:∃O,S0 s.data.toList=O:=⟨_,rfl⟩;rw[q];have P:v5.wrap ((s.size:Int)-4)=(s.size:Int)-4:=IntWalk.i64_in _ (by constructor<;>omega);by_cases Q:8<=s.size
 ·by_cases R:s.size<=200000
  ·have u:(if s.data.toList.take 4=Xy s.size/\s.data.toList.drop (s.size-4)=Xy (Qr (s.data.toList.take (s.size-4)))then V ((s.data.toList.take (s.size-4)).drop 4)else I)=O:=by
    rw[<-q];unfold S0;rw[g,if_pos (show 8<=s.size/\s.size<=200000 from⟨Q,R⟩)]
   have r:=Za u
   have E:¬(s.size:Int)-4<4:=by omega
   have T:¬(200000:Int)<(s.size:Int):=by omega
   obtain⟨en,x⟩:∃en,s.size-4=en:=⟨_,rfl⟩
   have X:(s.size:Int)-4=(en:Int):=by omega
   have Z:en<=s.size:=by omega
   have l4:(4:Int)<=(s.size:Int):=by omega
   have l5:(en:Int)<=(s.size:Int):=by omega
   have l6:(4:Int)<=(en:Int):=by omega
   have hu:q5.wrap (s.size:Int)=(s.size:Int):=IntWalk.u32_in _ (by constructor<;>omega);rw[x]at r;have i:M (F0 w w.drew):=Zt.drew
   have y:M ((s.extract 0 4).data.toList=s.data.toList.take 4):=by show _=_;rw[Pi];simp
   have z:M ((s.extract en s.size).data.toList=s.data.toList.drop en):=by show _=_;rw[Pi,z5 (by omega)]
   have A:M ((s.extract 0 en).data.toList=s.data.toList.take en):=by show _=_;rw[Pi];simp
   have j:M (∀W,z3 Y 117 #[U .u32 (s.size:Nat)] W fun e w'=>e=G (H ⟨(Xy s.size).toArray⟩)/\F0 W w'):=fun W=>Rr s.size W (by omega)
   have n:M (∀W,F0 w W->z3 Y 118 #[H (s.extract 0 en)] W fun e w'=>e=G (U .u32 (Qr (s.data.toList.take en):Nat))/\F0 W w'):=fun W b=>by
    have e:=Gd (s.extract 0 en) W (by rw[ByteArray.size_extract];omega) (N.o.fr b);rw[A.o]at e;exact e
   have p:M (∀W,z3 Y 117 #[U .u32 (Qr (s.data.toList.take en):Nat)] W fun e w'=>e=G (H ⟨(Xy (Qr (s.data.toList.take en))).toArray⟩)/\F0 W w'):=fun W=>Rr _ W (Dz _)
   have B:=KI (s.extract 0 4) (Xy s.size);have D:=KI (s.extract en s.size) (Xy (Qr (s.data.toList.take en)));rw[y.o]at B;rw[z.o]at D;generalize Qr (s.data.toList.take en)=F at*;generalize(⟨(Xy s.size).toArray⟩:ByteArray)=J at*;generalize(⟨(Xy F).toArray⟩:ByteArray)=K at*;by_cases c1:s.data.toList.take 4=Xy s.size
   ·have e1:((s.extract 0 4).toList==J.toList)=true:=by rw[B];simpa using c1
    by_cases t:s.data.toList.drop en=Xy F
    ·have e2:((s.extract en s.size).toList==K.toList)=true:=by rw[D];simpa using t
     have f:O=V ((s.data.toList.take en).drop 4):=by rw[<-r.o,if_pos ⟨c1,t⟩]
     subst f;go_enter Tryz.func75,Tryz.ntmps75;go_wp2_with fail;refine wp_region_held_drew (S:=fun _=>True) (by kernel_rfl) trivial (fun a=>?_)
     iterate 5 (refine YO 0 a ?_;try go_frame)
     refine Xz [5] ?_;refine Zb rfl (fun m d=>?_) C
     try rw[if_pos (by rfl)]
     go_simp;refine(j.o _).mono ?_;rintro e L ⟨rfl,b⟩;have c:=Za (i.o.trans b);refine d.out _ _ trivial (fun a=>?_)
     try go_frame
     iterate 8 (refine YO 0 a ?_;try go_frame)
     refine Xz [14] ?_;refine Zb rfl (fun m d=>?_) C
     try rw[if_pos (by rfl)]
     go_simp;refine(n.o _ c.o).mono ?_;rintro e wb ⟨rfl,b⟩;have k:=Za (c.o.trans b);refine d.out _ _ trivial (fun a=>?_)
     try go_frame
     refine Xz [15] ?_;refine Zb rfl (fun m d=>?_) C
     try rw[if_pos (by rfl)]
     go_simp;refine(p.o _).mono ?_;rintro e wc ⟨rfl,b⟩;have l:=Za (k.o.trans b);refine d.out _ _ trivial (fun a=>?_)
     try go_frame
     iterate 2 (refine YO 0 a ?_;try go_frame)
     refine wpAnyH_done (by kernel_rfl) ?_ _;go_wp2_with fail;refine bodyPost_ret (v:=.tuple #[H (s.extract 4 en),y4 true]) (by simp[results,Tryz.results75,go_sem]) rfl ⟨?_,l.o⟩
     have ee:s.extract 4 en=⟨((s.data.toList.take en).drop 4).toArray⟩:=by
      apply ByteArray.ext;apply Array.toList_inj.1;rw[Pi]
     rw[ee];rfl
    have e2:((s.extract en s.size).toList==K.toList)=false:=by rw[D];simpa using t
    have f:O=I:=by rw[<-r.o,if_neg (fun h=>t h.2)]
    subst f;go_enter Tryz.func75,Tryz.ntmps75;go_wp2_with fail;refine wp_region_held_drew (S:=fun _=>True) (by kernel_rfl) trivial (fun a=>?_)
    iterate 5 (refine YO 0 a ?_;try go_frame)
    refine Xz [5] ?_;refine Zb rfl (fun m d=>?_) C
    try rw[if_pos (by rfl)]
    go_simp;refine(j.o _).mono ?_;rintro e L ⟨rfl,b⟩;have c:=Za (i.o.trans b);refine d.out _ _ trivial (fun a=>?_)
    try go_frame
    iterate 8 (refine YO 0 a ?_;try go_frame)
    refine Xz [14] ?_;refine Zb rfl (fun m d=>?_) C
    try rw[if_pos (by rfl)]
    go_simp;refine(n.o _ c.o).mono ?_;rintro e wb ⟨rfl,b⟩;have k:=Za (c.o.trans b);refine d.out _ _ trivial (fun a=>?_)
    try go_frame
    refine Xz [15] ?_;refine Zb rfl (fun m d=>?_) C
    try rw[if_pos (by rfl)]
    go_simp;refine(p.o _).mono ?_;rintro e wc ⟨rfl,b⟩;have l:=Za (k.o.trans b);refine d.out _ _ trivial (fun a=>?_)
    try go_frame
    iterate 2 (refine YO 0 a ?_;try go_frame)
    refine wpAnyH_done (by kernel_rfl) ?_ _;go_wp2_with fail;exact bodyPost_ret (v:=.tuple #[H ⟨#[]⟩,y4 false]) (by simp[results,Tryz.results75,go_sem]) rfl ⟨rfl,l.o⟩
   have e1:((s.extract 0 4).toList==J.toList)=false:=by rw[B];simpa using c1
   have f:O=I:=by rw[<-r.o,if_neg (fun h=>c1 h.1)]
   subst f;go_enter Tryz.func75,Tryz.ntmps75;go_wp2_with fail;refine wp_region_held_drew (S:=fun _=>True) (by kernel_rfl) trivial (fun a=>?_)
   iterate 5 (refine YO 0 a ?_;try go_frame)
   refine Xz [5] ?_;refine Zb rfl (fun m d=>?_) C
   try rw[if_pos (by rfl)]
   go_simp;refine(j.o _).mono ?_;rintro e L ⟨rfl,b⟩;have c:=Za (i.o.trans b);refine d.out _ _ trivial (fun a=>?_)
   try go_frame
   iterate 2 (refine YO 0 a ?_;try go_frame)
   refine WY 8 rfl (by kernel_rfl) (by kernel_rfl) (by kernel_rfl) (fun _ _ _ h=>h) rfl a ?_
   try go_frame
   refine WY 9 rfl (by kernel_rfl) (by kernel_rfl) (by kernel_rfl) (fun _ _ _ h=>h) rfl a ?_
   try go_frame
   refine WY 10 rfl (by kernel_rfl) (by kernel_rfl) (by kernel_rfl) (fun _ _ _ h=>h) rfl a ?_
   try go_frame
   refine WY 11 rfl (by kernel_rfl) (by kernel_rfl) (by kernel_rfl) (fun _ _ _ h=>h) rfl a ?_
   try go_frame
   refine WY 12 rfl (by kernel_rfl) (by kernel_rfl) (by kernel_rfl) (fun _ _ _ h=>h) rfl a ?_
   try go_frame
   refine WY 13 rfl (by kernel_rfl) (by kernel_rfl) (by kernel_rfl) (fun _ _ _ h=>h) rfl a ?_
   try go_frame
   refine WY 14 rfl (by kernel_rfl) (by kernel_rfl) (by kernel_rfl) (fun _ _ _ h=>h) rfl a ?_
   try go_frame
   refine WY 15 rfl (by kernel_rfl) (by kernel_rfl) (by kernel_rfl) (fun _ _ _ h=>h) rfl a ?_
   try go_frame
   refine WY 16 rfl (by kernel_rfl) (by kernel_rfl) (by kernel_rfl) (fun _ _ _ h=>h) rfl a ?_
   try go_frame
   refine ZX 17 a ?_
   try go_frame
   refine wpAnyH_done (by kernel_rfl) ?_ _;go_wp2_with fail;exact bodyPost_ret (v:=.tuple #[H ⟨#[]⟩,y4 false]) (by simp[results,Tryz.results75,go_sem]) rfl ⟨rfl,c.o⟩
  have f:O=I:=by rw[<-q];unfold S0;rw[g,if_neg (by omega)]
  subst f
  have T:(200000:Int)<(s.size:Int):=by omega
  have E:¬(s.size:Int)-4<4:=by omega
  go_enter Tryz.func75,Tryz.ntmps75;go_wp2_with fail;exact bodyPost_ret (v:=.tuple #[H ⟨#[]⟩,y4 false]) (by simp[results,Tryz.results75,go_sem]) rfl ⟨rfl,Zt⟩
 have f:O=I:=by rw[<-q];unfold S0;rw[g,if_neg (by omega)]
 subst f
 have E:decide ((s.size:Int)-4<4)=true:=by simp;omega
 go_enter Tryz.func75,Tryz.ntmps75;go_wp2_with fail;exact bodyPost_ret (v:=.tuple #[H ⟨#[]⟩,y4 false]) (by simp[results,Tryz.results75,go_sem]) rfl ⟨rfl,Zt⟩
def RY (l:List UInt8):Option LK:=match S0 l with
 |none=>I
 |some b=>Oy b
def sT (w:z6)(r:Option LK)(e:Ending)(w':z6):Prop:=match r with
 |none=>e=Tb/\F0 w w'
 |some t=>(∃b a c d,e=G (J (V ⟨a,0,I⟩))/\w.heap.size<=a/\a<=b/\Eo b w' a t c d)/\F0 w w'
theorem Bv (s w)(hs:s.size<=9223372036854775807)(z:LP w):
  z3 Y 42 #[H s] w (sT w (RY s.data.toList)):=by
 have HO:=Za (Bu s w hs z);obtain⟨N,A⟩:∃N,RY s.data.toList=N:=⟨_,rfl⟩;rw[A];unfold RY at A
 have HB:M (∀b,S0 s.data.toList=V b->b.length<=200000):=fun b c=>by
  unfold S0 at c
  split at c
  ·split at c
   ·injection c with c
    rw[<-c,List.length_drop,j0];omega
   cases c
  cases c
 have HN:=Za A;go_enter Tryz.func42,Tryz.ntmps42;go_wp2_with fail;refine HO.o.mono ?_;rintro e a ⟨rfl,B⟩;have g:=Za B
 cases C:S0 s.data.toList with
 |none=>
  have h:N=I:=by rw[<-HN.o,C]
  subst h;rw[show zL I=.tuple #[H ⟨#[]⟩,y4 false]from rfl];go_wp2_with fail;refine(Wo _).mono ?_;rintro e w2 ⟨f,i⟩;replace i:=i.symm;subst i;unfold Tb at f;subst f;exact⟨rfl,rfl,g.o⟩
 |some b=>
  have c:=HB.o b C
  have E:M (Oy b=N):=by show _=_;rw[<-HN.o,C]
  rw[show zL (V b)=.tuple #[H ⟨b.toArray⟩,y4 true]from rfl];obtain⟨S,K⟩:∃S:ByteArray,(⟨b.toArray⟩:ByteArray)=S:=⟨_,rfl⟩
  have m:S.data.toList=b:=by rw[<-K]
  have L:S.size<=200000:=by rw[<-K];exact c
  rw[K];obtain⟨O,n,_⟩:=SA a (D #[Z I 0 0,Z I 0 0,Z I 0 0,J I,U F 0] 135) (D #[H S,U F 0,J (V ⟨a.heap.size,0,I⟩)] 158)
  have P:M (Yg ((a.alloc (D #[Z I 0 0,Z I 0 0,Z I 0 0,J I,U F 0] 135)).alloc (D #[H S,U F 0,J (V ⟨a.heap.size,0,I⟩)] 158)) (a.heap.size+1) S 0 a.heap.size):=by
   have e:=aN (a.alloc (D #[Z I 0 0,Z I 0 0,Z I 0 0,J I,U F 0] 135)) (D #[H S,U F 0,J (V ⟨a.heap.size,0,I⟩)] 158);rw[show(a.alloc (D #[Z I 0 0,Z I 0 0,Z I 0 0,J I,U F 0] 135)).heap.size=a.heap.size+1 from by simp]at e;exact⟨e,by omega,L⟩
  go_wp2_with fail;refine(WP _).mono ?_;rintro e w2 ⟨rfl,i⟩;replace i:=i.symm;subst i;go_upto_region 4 with fail;generalize(a.alloc _).alloc _=W2 at*;have Q:=g.o.size;generalize a.heap.size=j at*;have p:=Za (Bt W2 (j+1) S j P.o n.o (by omega));rw[m]at p;have q:=Za (g.o.trans O.o);have R:M (j<=W2.heap.size):=Nat.le_of_lt (iA.1 n.o).1;go_wp2_with fail;refine p.o.mono ?_;intro e w3 x;have r:=Za ((zH b).symm.trans E.o)
  cases y:RX b with
  |none=>
   rw[y]at x;obtain⟨f,hf⟩:=x
   have h:N=I:=by rw[<-r.o,y]
   subst h;unfold Tb at f;subst f;exact⟨rfl,rfl,q.o.monoNew hf (fun k hk=>.inr (by omega))⟩
  |some tl=>
   obtain⟨t,l⟩:=tl;rw[y]at x;obtain⟨rfl,d,⟨ra,rc,T⟩,X⟩:=x;have b0:=Za d;have a0:=Za T;have u:=Za (q.o.monoNew X (fun k hk=>.inr (by omega)))
   have v:M ((if l=b.length then V t else I)=N):=by show _=_;rw[<-r.o,y]
   have d0:b.length=S.size:=by rw[<-m];simp
   have c0:=Zc d.bx 0;have c1:=Zc d.bx 1;have c2:=Zc d.bx 2;by_cases hl:l=b.length
   ·have h:N=V t:=by rw[<-v.o,if_pos hl]
    subst h
    have hd:((l:Int)==(S.size:Int))=true:=by simp;omega
    have HI:M (∀W,z3 Y 76 #[y4 true] W fun e w'=>e=G (.tuple #[])/\w'=W):=fun W=>WP W
    go_wp2_with fail
    go_quiet ((go_at_call 76;exact Calls.quiet_of_same (HI.o _)))
    go_wp2_with fail;go_ret;exact⟨⟨_,j,ra,rc,rfl,Q,R.o,a0.o.fr (S:=fun _=>False) ⟨rfl,rfl,rfl,y5 _,fun _ _ _=>rfl⟩ (by simp)⟩,u.o.trans ⟨rfl,rfl,rfl,y5 _,fun _ _ _=>rfl⟩⟩
   have h:N=I:=by rw[<-v.o,if_neg hl]
   subst h
   have hd:((l:Int)==(S.size:Int))=false:=by simp;omega
   go_wp2_with fail;refine wp_region_held_drew (S:=fun W=>W.cell? ⟨j+1,0,I⟩=V (H S)/\W.cell? ⟨j+1,1,I⟩=V (U F (l:Nat))) (by kernel_rfl) ⟨by simpa using c0,by simpa using c1⟩ (fun z=>?_)
   iterate 10 (refine YO 0 z ?_;try go_frame)
   refine Vv 10 (fun K2 hK=>?_);go_simp;refine(Wo _).mono ?_;rintro e w4 ⟨f,rfl⟩;unfold Tb at f;subst f;exact⟨rfl,rfl,u.o.drew⟩
theorem PY (a b v0 v1 w)(i:w.cell? ⟨a,0,I⟩=V v0)(k:w.cell? ⟨b,0,I⟩=V v1)(t:w.frozen? ⟨a,0,I⟩=false)(z:w.frozen? ⟨b,0,I⟩=false)(d:¬a=b)(f:¬b=a):
  CallsD Y 41 #[J (V ⟨a,0,I⟩),J (V ⟨b,0,I⟩)] (.panicking [{v:=.iface 223 (q6 #[]),recovered:=false}]) w fun e m w'=>
   e=G (.tuple #[])/\m=.panicking [{v:=.iface 223 (q6 #[]),recovered:=true}]/\w'.cell? ⟨a,0,I⟩=V (J I)/\w'.cell? ⟨b,0,I⟩=V (y4 false)/\Fr (fun j=>j=a\/j=b) w w':=by
 refine callsD_of_wpS Tryz.func41 rfl fun n q r=>?_
 have s:(#[J (V ⟨a,0,I⟩),J (V ⟨b,0,I⟩)]++Array.replicate (Tryz.f41.ntmps-(#[J (V ⟨a,0,I⟩),J (V ⟨b,0,I⟩)]:Array x6).size) undef:Array x6)=#[J (V ⟨a,0,I⟩),J (V ⟨b,0,I⟩),undef,undef]:=by
  rw[Tryz.ntmps41];rfl
 rw[s];refine Oe (v:=.iface 223 (q6 #[])) (cs':={n with mode:=.panicking [{v:=.iface 223 (q6 #[]),recovered:=true}]}::q) (w':=w) (o:=?o) (l:=?l) ?ho ?hw ?hx ?hr ?hno ?main
 case ho=>rfl
 case hw=>kernel_rfl
 case hx=>rfl
 case hr=>simp only[recoverD,r]
 case hno=>intro a w g;obtain⟨u,g,_⟩:=g;cases g
 show wpList Y _ _ _ {tmps:=#[J (V ⟨a,0,I⟩),J (V ⟨b,0,I⟩),.iface 223 (q6 #[]),undef],defers:=[]} w
 go_wp2
 have c:∀(v:z6)(x y:Nat)(u:x6),¬x=y->(v.setCell ⟨x,0,I⟩ u).cell? ⟨y,0,I⟩=v.cell? ⟨y,0,I⟩:=fun v x y u h=>cO _ _ _ _ (fun e=>h (by injection e))
 refine⟨rfl,_,rfl,.tuple #[],results_none rfl _ _ _,rfl,rfl,?_,?_,?_⟩
 ·exact(c _ b a _ f).trans (cS _ _ _ i)
 ·exact cS _ _ _ ((c _ a b _ d).trans k)
 exact(Zt.setCell (p:=⟨a,0,I⟩) (y7 (y7 rfl)) _).setCell (p:=⟨b,0,I⟩) (y7 (v6 rfl)) _
theorem Ge (a b w):
  CallsD Y 41 #[J (V ⟨a,0,I⟩),J (V ⟨b,0,I⟩)] .returning w fun e f w'=>e=G (.tuple #[])/\f=.returning/\F0 w w':=by
 refine callsD_of_wpS Tryz.func41 rfl fun i j d=>?_
 have g:(#[J (V ⟨a,0,I⟩),J (V ⟨b,0,I⟩)]++Array.replicate (Tryz.f41.ntmps-(#[J (V ⟨a,0,I⟩),J (V ⟨b,0,I⟩)]:Array x6).size) undef:Array x6)=#[J (V ⟨a,0,I⟩),J (V ⟨b,0,I⟩),undef,undef]:=by
  rw[Tryz.ntmps41];rfl
 rw[g];refine QM (w':=w) (o:=?o) (l:=?l) ?ho ?hw ?hx ?hr ?hno ?main
 case ho=>rfl
 case hw=>kernel_rfl
 case hx=>rfl
 case hr=>simp only[recoverD,d]
 case hno=>intro a w c;obtain⟨u,c,_⟩:=c;cases c
 show wpList Y _ _ _ {tmps:=#[J (V ⟨a,0,I⟩),J (V ⟨b,0,I⟩),.nilIface,undef],defers:=[]} w
 have h:=Za d;go_wp2;exact⟨rfl,.returning,by rw[<-h.o],.tuple #[],results_none rfl _ _ _,rfl,rfl,Zt⟩
def sU (w:z6)(r:Option LK)(e:Ending)(w':z6):Prop:=match r with
 |none=>e=G (.tuple #[J I,y4 false])/\F0 w w'
 |some t=>(∃T b c a d f,e=G (.tuple #[J (V ⟨T,0,I⟩),y4 true])/\w'.cell? ⟨T,0,I⟩=V (J (V ⟨b,0,I⟩))/\w'.cell? ⟨T,1,I⟩=V (J (V ⟨a,0,I⟩))/\w'.heap[b]?=V (D #[Z I 0 0,Z I 0 0] 89)/\Eo c w' a t d f/\w.heap.size<=a/\a<=c/\w.heap.size<=T/\w.heap.size<=b)/\F0 w w'
theorem zM (s w)(hs:s.size<=9223372036854775807)(hH:LP w):z3 Y 24 #[H s] w (sU w (RY s.data.toList)):=by
 have b0:∀(fn:Fn)(first cap:Array x6)(w:z6),(Instr.makeFunc fn first cap).run Y w=.ok (.func fn first cap) w:=fun _ _ _ _=>rfl
 obtain⟨N,hN⟩:∃N,RY s.data.toList=N:=⟨_,rfl⟩
 have R:=fun W (c:F0 w W)=>Bv s W hs (hH.fr c)
 rw[hN]at R ⊢;have A:=Za R;obtain⟨B,q0,q1,q2⟩:=B7 w (D #[J I] 31) (D #[y4 false] 4) (D #[Z I 0 0,Z I 0 0] 89);have d:=Za B;have g:=Za q0;have i:=Za q1;have n:=Za q2
 go_enter_defers Tryz.func24,Tryz.ntmps24
 go_wp2_with fail;refine(A.o _ d.o).mono ?_;intro e b S;generalize((w.alloc _).alloc _).alloc _=w0 at*
 cases N with
 |none=>
  obtain⟨T,c⟩:=S;unfold Tb at T;subst T;refine leaves_cons (f:=41) (args:=#[J (V ⟨w.heap.size,0,I⟩),J (V ⟨w.heap.size+1,0,I⟩)]) (by simp) (by simp[go_sem]) ?_;refine(PY w.heap.size (w.heap.size+1) _ _ b (bC (c.whole g.o) 0 _ rfl) (bC (c.whole i.o) 0 _ rfl) (bF (c.whole g.o) 0) (bF (c.whole i.o) 0) (by omega) (by omega)).mono ?_;rintro e u' w2 ⟨rfl,rfl,C,E,a⟩;have hB:=(d.o.trans c).monoNew a (fun k U=>.inr (by omega));simp[Leaves,settle,results,Tryz.results24,go_sem,C,E];exact⟨rfl,hB⟩
 |some t=>
  obtain⟨⟨zb,m,ra,rc,rfl,F,G,K⟩,c⟩:=S;have e0:w.heap.size+1+1<w0.heap.size:=(iA.1 n.o).1;have L:=Za K;have q:=Za c;have l:=c.alloc (D #[J (V ⟨w.heap.size+1+1,0,I⟩),J (V ⟨m,0,I⟩)] 80);have c0:=bC (l.whole g.o) 0 _ rfl;have c1:=bC (l.whole i.o) 0 _ rfl;have z0:=bF (l.whole g.o) 0;have z1:=bF (l.whole i.o) 0;have f0:w.heap.size+1+1<b.heap.size:=nL (iA.1 n.o).1 c.size;go_wp2_with fail
  have r:∀(v:z6)(x y o:Nat)(u:x6),¬x=y->(v.setCell ⟨x,0,I⟩ u).cell? ⟨y,o,I⟩=v.cell? ⟨y,o,I⟩:=fun v x y o u h=>cO _ _ _ _ (fun e=>h (by injection e))
  have M:=aN b (D #[J (V ⟨w.heap.size+1+1,0,I⟩),J (V ⟨m,0,I⟩)] 80);have z:Fr (fun j=>j=w.heap.size\/j=w.heap.size+1) (b.alloc (D #[J (V ⟨w.heap.size+1+1,0,I⟩),J (V ⟨m,0,I⟩)] 80)) (((b.alloc (D #[J (V ⟨w.heap.size+1+1,0,I⟩),J (V ⟨m,0,I⟩)] 80)).setCell ⟨w.heap.size,0,I⟩ (J (V ⟨b.heap.size,0,I⟩))).setCell ⟨w.heap.size+1,0,I⟩ (y4 true)):=(Zt.setCell (p:=⟨w.heap.size,0,I⟩) (y7 (y7 rfl)) _).setCell (p:=⟨w.heap.size+1,0,I⟩) (y7 (v6 rfl)) _;have X:=(r _ (w.heap.size+1) w.heap.size 0 (y4 true) (by omega)).trans (cS _ _ (J (V ⟨b.heap.size,0,I⟩)) c0);have d1:=cS _ _ (y4 true) ((r _ w.heap.size (w.heap.size+1) 0 (J (V ⟨b.heap.size,0,I⟩)) (by omega)).trans c1);have bT:=z.whole M (by show¬(b.heap.size=w.heap.size\/b.heap.size=w.heap.size+1);omega);have O:=(Lp b (D #[J (V ⟨w.heap.size+1+1,0,I⟩),J (V ⟨m,0,I⟩)] 80)).1;have bB:=z.whole (O.whole (q.o.whole n.o)) (by show¬(w.heap.size+1+1=w.heap.size\/w.heap.size+1+1=w.heap.size+1);omega);have P:=(L.o.fr O (by simp)).fr z (fun k U=>by omega) (by show¬(m=w.heap.size\/m=w.heap.size+1);omega);have Q:=((d.o.trans q.o).trans O).monoNew z (fun k U=>.inr (by omega));generalize((b.alloc _).setCell ⟨w.heap.size,0,I⟩ (J (V ⟨b.heap.size,0,I⟩))).setCell ⟨w.heap.size+1,0,I⟩ (y4 true)=W at*;refine leaves_cons (f:=41) (args:=#[J (V ⟨w.heap.size,0,I⟩),J (V ⟨w.heap.size+1,0,I⟩)]) (by simp) (by simp[go_sem]) ?_;refine(Ge w.heap.size (w.heap.size+1) W).mono ?_;rintro e u' w3 ⟨rfl,rfl,a⟩;have C:=(a.cell (p:=⟨w.heap.size,0,I⟩) (bL W _ X)).trans X;have E:=(a.cell (p:=⟨w.heap.size+1,0,I⟩) (bL W _ d1)).trans d1
  have eT:=a.whole bT;simp[Leaves,settle,results,Tryz.results24,go_sem,C,E];exact⟨⟨_,_,zb,m,ra,rc,rfl,Zc eT 0,Zc eT 1,a.whole bB,P.fr a (by simp),q3 d.o.size F,G,(d.o.trans q.o).size,by omega⟩,Q.trans a⟩
theorem ut {t:LK}(h:t.Ok):ze t.rts t.nms t.prs t.root:=by
 refine⟨fun r c=>?_,h.r6,fun s a=>?_,fun l d=>?_,h.dp⟩
 ·have:=h.rt r c
  exact⟨by omega,by omega,by omega⟩
 ·have:=h.nm s a
  omega
 obtain⟨e,f,b,g⟩:=h.pr l d
 exact⟨by omega,fun s a _=>⟨by have:=(b s a).nl;omega,(b s a).sk,(b s a).am⟩⟩
def ZA:Nat->Nat->List UInt8
 |0,_=>[]
 |k+1,n=>R n::ZA k (n/256)
theorem Zi:∀k n,(ZA k n).length=k
 |0,_=>rfl
 |k+1,n=>by simp[ZA,Zi k]
theorem Gf:∀k n,n<256^k->Pp (ZA k n)=n
 |0,n,h=>by simp[ZA,Pp]at*;omega
 |k+1,n,h=>by
  simp only[ZA,Pp,z8];rw[Gf k (n/256) (by rw[Nat.pow_succ]at h;omega)];omega
theorem Gg:∀k n i,i<k->(ZA k n)[i]?=V (R (n/2^(8*i)))
 |k+1,n,0,_=>by simp[ZA]
 |k+1,n,i+1,h=>by
  simp only[ZA,List.getElem?_cons_succ];rw[Gg k (n/256) i (by omega),Nat.div_div_eq_div_mul,show 8*(i+1)=8+8*i from by omega,Nat.pow_add]
def Wx (s:ByteArray):List UInt8:=ZA 1 s.size++s.data.toList
def WR (r:Zf):List UInt8:=Wx r.name++(ZA 4 r.base++ZA 4 r.rate)
def Ts (l:List Nat):List UInt8:=ZA 1 l.length++l.flatMap (ZA 2)
def Y0 (s:Zl):List UInt8:=ZA 1 s.sort++(if s.sort=0\/s.sort=2 then ZA 1 s.skip++Ts s.nums else if s.sort=1 then ZA 1 s.skip++(ZA 4 (s.nums.getD 0 0)++ZA 4 (s.nums.getD 1 0))else if s.sort=3 then ZA 1 s.rule else if s.sort=4\/s.sort=5 then ZA 1 s.rule++Ts s.nums else[])
def U8 (l:List Zl):List UInt8:=ZA 1 l.length++l.flatMap Y0
def Tr.wr:Tr->List UInt8
 | .leaf p=>ZA 1 (1+p)
 | .node k=>ZA 1 0++(z9 10).flatMap fun d=>(k d).wr
def XF (t:LK):List UInt8:=(ZA 1 t.rts.length++t.rts.flatMap WR)++((ZA 1 t.nms.length++t.nms.flatMap Wx)++((ZA 1 t.prs.length++t.prs.flatMap U8)++t.root.wr))
def Tr.norm:Tr->Tr
 | .leaf p=>.leaf p
 | .node k=>.node fun d=>((z9 10).map fun d=>(k d).norm).getD d (.leaf 0)
theorem DA {α}(f)(a:α){d}(h:d<10):((z9 10).map f).getD d a=f d:=by
 rw[q8,x4,List.getElem?_range h];rfl
theorem KJ {dg:Nat->Nat}(a:∀n,dg n<10):∀(t:Tr)(n:Nat),t.norm.find dg n=t.find dg n
 | .leaf _,_=>rfl
 | .node k,n=>by
  show(((z9 10).map fun d=>(k d).norm).getD (dg n) (.leaf 0)).find dg (n+1)=(k (dg n)).find dg (n+1)
  rw[DA (fun d=>(k d).norm) _ (a n)];exact KJ a (k (dg n)) (n+1)
theorem DB:∀(t:Tr),t.norm.wr=t.wr
 | .leaf _=>rfl
 | .node k=>by
  show ZA 1 0++(z9 10).flatMap (fun d=>(((z9 10).map fun d=>(k d).norm).getD d (.leaf 0)).wr)=ZA 1 0++(z9 10).flatMap fun d=>(k d).wr
  congr 1
  rw[j1,j1]
  congr 1
  refine List.map_congr_left fun d a=>?_
  rw[DA (fun d=>(k d).norm) _ (j7.1 a)];exact DB (k d)
def KK (b:List UInt8)(i:Nat)(l:List UInt8):Prop:=∃p r,b=p++(l++r)/\p.length=i
theorem KK.left {b i l m}(h:KK b i (l++m)):KK b i l:=by
 obtain⟨p,r,e,a⟩:=h;exact⟨p,m++r,by rw[e,E],a⟩
theorem KK.right {b i l m}(h:KK b i (l++m)):KK b (i+l.length) m:=by
 obtain⟨p,r,e,a⟩:=h;exact⟨p++l,r,by rw[e];simp,by simp[a]⟩
theorem Gh {b i l n}(h:KK b i l)(a:l.length=n):RR b n i=V (l,i+n):=by
 obtain⟨p,r,e,c⟩:=h;subst a c;unfold RR;rw[if_pos (by rw[e];simp),e];simp
theorem Xj {b i k n}{lo hi:Int}(h:KK b i (ZA k n))(a:n<256^k)(c:lo<=n)(d:(n:Int)<=hi):Y3 b k lo hi i=V (n,i+k):=by
 unfold Y3;rw[Gh h (Zi k n)]
 dsimp only
 rw[Gf k n a,if_pos ⟨c,d⟩]
theorem PZ {α β:Type}{b:List UInt8}{one:Rd β}{W:α->List UInt8}{f:α->β}:∀(l:List α)(i:Nat),(∀x,x∈l->∀i,KK b i (W x)->one i=V (f x,i+(W x).length))->KK b i (l.flatMap W)->WO one l.length i=V (l.map f,i+(l.flatMap W).length)
 |[],i,_,_=>by simp[WO]
 |x::l,i,ho,h=>by
  rw[List.flatMap_cons]at h;simp only[List.length_cons,WO];rw[ho x (by simp) i h.left]
  dsimp only
  rw[PZ l _ (fun y a=>ho y (by simp[a])) h.right];simp[z7]
theorem Ra {α:Type}{β b}{one:Rd β}{W f}{lo hi:Int}{l:List α}{i:Nat}(a:∀x,x∈l->∀i,KK b i (W x)->one i=V (f x,i+(W x).length))(h:KK b i (ZA 1 l.length++l.flatMap W))(g:l.length<=255)(c:lo<=l.length)(d:(l.length:Int)<=hi):
  YM b lo hi one i=V (l.map f,i+(ZA 1 l.length++l.flatMap W).length):=by
 unfold YM;rw[Xj h.left (by omega) c d]
 dsimp only
 have e:=h.right;rw[Zi]at e;rw[PZ l _ a e,lA,Zi,z7]
theorem MT {s}(h:Ww s=true):1<=s.size/\s.size<=8:=by
 unfold Ww at h;simp only[Bool.and_eq_true,decide_eq_true_eq]at h;exact⟨h.1,h.2.1⟩
theorem Gi {b i s}(a:Ww s=true)(h:KK b i (Wx s)):UD b i=V (s,i+(Wx s).length):=by
 have c:=MT a;unfold UD;rw[Xj h.left (by omega) (by omega) (by omega)]
 dsimp only
 have e:=h.right;rw[Zi]at e;rw[Gh e (by simp)]
 dsimp only
 rw[show(⟨s.data.toList.toArray⟩:ByteArray)=s from by rw[Array.toArray_toList],if_pos a];simp[Wx,Zi,z7]
theorem Bw {b i r}(a:Ww r.name=true/\r.base<=1000000/\r.rate<=1000)(h:KK b i (WR r)):Vu b i=V (r,i+(WR r).length):=by
 unfold Vu;rw[Gi a.1 h.left]
 dsimp only
 rw[Xj h.right.left (by omega) (by omega) (by omega)]
 dsimp only
 have e:=h.right.right;rw[Zi]at e;rw[Xj e (by omega) (by omega) (by omega)];simp[WR,Zi,z7]
theorem Gj {b i l hi}(d:1<=l.length)(g:l.length<=4)(a:∀x:Nat,x∈l->(x:Int)<=hi/\x<65536)(h:KK b i (Ts l)):Ow b hi i=V (l,i+(Ts l).length):=by
 unfold Ow;have e:=Ra (b:=b) (one:=Y3 b 2 0 hi) (W:=ZA 2) (f:=fun x=>x) (lo:=1) (hi:=4) (l:=l) (i:=i) (fun x c i hi=>by rw[Zi];exact Xj hi (by have:=a x c;omega) (by omega) (a x c).1) h (by omega) (by omega) (by omega);rw[e,x7];rfl
def vM (c b:Nat)(s:Zl):Prop:=
 (∃(a hi:Nat)(l:List Nat)(k:Nat),(a=0/\hi=9999\/a=2/\hi=999)/\s=⟨a,l,0,k⟩/\1<=k/\k<=255/\1<=l.length/\l.length<=4/\∀x,x∈l->x<=hi)\/
 (∃x y k:Nat,s=⟨1,[x,y],0,k⟩/\1<=k/\k<=255/\x<=y/\y<=1000000000)\/
 (∃i:Nat,s=⟨3,[],i,0⟩/\i<b)\/
 (∃(a:Nat)(l:List Nat)(i:Nat),(a=4\/a=5)/\s=⟨a,l,i,0⟩/\i<b/\1<=l.length/\l.length<=4/\∀x,x∈l->x<c)\/s=⟨6,[],0,0⟩
theorem zN {b m n i s}(B:m<=6)(C:n<=8)(v:vM m n s)(h:KK b i (Y0 s)):V2 b m n i=V (s,i+(Y0 s).length):=by
 rcases v with⟨d,hi,l,k,f,rfl,w,z,o,p,q⟩|⟨x,y,k,rfl,w,z,A,D⟩|⟨j,rfl,g⟩|⟨d,l,j,f,rfl,g,o,p,q⟩|rfl
 ·have e:Y0 ⟨d,l,0,k⟩=ZA 1 d++(ZA 1 k++Ts l):=by unfold Y0;dsimp only;rw[if_pos (by omega)]
  rw[e]at h ⊢;have a:=h.right;rw[Zi]at a;have c:=a.right;rw[Zi]at c
  have t:∀g:Int,(hi:Int)=g->U5 b d g (i+1)=V (⟨d,l,0,k⟩,i+(ZA 1 d++(ZA 1 k++Ts l)).length):=fun g E=>by
   unfold U5;rw[Xj a.left (by omega) (by omega) (by omega)]
   dsimp only
   rw[Gj o p (fun x r=>by have:=q x r;omega) c];simp[Zi,z7];omega
  unfold V2;rw[Xj h.left (by omega) (by omega) (by omega)]
  dsimp only
  rcases f with⟨rfl,rfl⟩|⟨rfl,rfl⟩
  ·rw[if_pos rfl]
   exact t _ rfl
  rw[if_neg (by omega),if_neg (by omega),if_pos rfl]
  exact t _ rfl
 ·have e:Y0 ⟨1,[x,y],0,k⟩=ZA 1 1++(ZA 1 k++(ZA 4 x++ZA 4 y)):=rfl
  rw[e]at h ⊢;have a:=h.right;rw[Zi]at a;have c:=a.right;rw[Zi]at c;have u:=c.right;rw[Zi]at u;unfold V2;rw[Xj h.left (by omega) (by omega) (by omega)]
  dsimp only
  rw[if_neg (by omega),if_pos rfl];unfold Hi;rw[Xj a.left (by omega) (by omega) (by omega)]
  dsimp only
  rw[Xj c.left (by omega) (by omega) (by omega)]
  dsimp only
  rw[Xj u (by omega) (by omega) (by omega)];simp[Zi,z7]
 ·have e:Y0 ⟨3,[],j,0⟩=ZA 1 3++ZA 1 j:=rfl
  rw[e]at h ⊢;have a:=h.right;rw[Zi]at a;unfold V2;rw[Xj h.left (by omega) (by omega) (by omega)]
  dsimp only
  rw[if_neg (by omega),if_neg (by omega),if_neg (by omega),if_neg (by omega)];unfold JK;rw[Xj a (by omega) (by omega) (by omega)];simp[Zi,z7]
 ·have e:Y0 ⟨d,l,j,0⟩=ZA 1 d++(ZA 1 j++Ts l):=by unfold Y0;dsimp only;rw[if_neg (by omega),if_neg (by omega),if_neg (by omega),if_pos f]
  rw[e]at h ⊢;have a:=h.right;rw[Zi]at a;have c:=a.right;rw[Zi]at c;unfold V2;rw[Xj h.left (by omega) (by omega) (by omega)]
  dsimp only
  rw[if_neg (by omega),if_neg (by omega),if_neg (by omega),if_neg (by omega)];unfold JK;rw[Xj a.left (by omega) (by omega) (by omega)]
  dsimp only
  rw[if_neg (by omega),Gj o p (fun x r=>by have:=q x r;omega) c];simp[Zi,z7];omega
 have e:Y0 ⟨6,[],0,0⟩=ZA 1 6++[]:=rfl
 rw[e]at h ⊢;unfold V2;rw[Xj h.left (by omega) (by omega) (by omega)]
 dsimp only
 rw[if_neg (by omega),if_neg (by omega),if_neg (by omega),if_pos rfl];simp[Zi]
theorem Gk {b:List UInt8}{np:Nat}(l:np<=255):∀(t:Tr)(n i:Nat),n<=6->t.deep n->t.lows np->KK b i t.wr->Xw b np (7-n) i=V (t.norm,i+t.wr.length)
 | .leaf p,n,i,h6,_,a,h=>by
  have a:p<np:=a;have h:KK b i (ZA 1 (1+p)):=h;rw[show 7-n=(6-n)+1 from by omega,Xw]
  dsimp only
  rw[Xj h (by omega) (by omega) (by omega),Nat.add_comm 1 p];simp[Tr.norm,Tr.wr,Zi]
 | .node k,n,i,h6,g,a,h=>by
  have h:KK b i (ZA 1 0++(z9 10).flatMap fun d=>(k d).wr):=h;have g:n<6/\∀d,d<10->(k d).deep (n+1):=g;have a:∀d,d<10->(k d).lows np:=a;have j:=h.right;rw[Zi]at j
  have e:=PZ (b:=b) (one:=Xw b np (6-n)) (W:=fun d=>(k d).wr) (f:=fun d=>(k d).norm) (z9 10) (i+1) (fun d m i hi=>by
   have c:=j7.1 m;have:=Gk l (k d) (n+1) i (by omega) (g.2 d c) (a d c) hi;rw[show 7-(n+1)=6-n from by omega]at this
   exact this) j
  rw[List.length_range]at e;rw[show 7-n=(6-n)+1 from by omega,Xw]
  dsimp only
  rw[Xj h.left (by omega) (by omega) (by omega)]
  dsimp only
  rw[if_neg (by omega),e];simp[Tr.norm,Tr.wr,Zi,z7]
structure LK.Wr (t:LK):Prop where
 r6:t.rts.length<=6
 rt:∀r,r∈t.rts->Ww r.name=true/\r.base<=1000000/\r.rate<=1000
 n8:t.nms.length<=8
 nm:∀s,s∈t.nms->Ww s=true
 df:(YN (t.rts.map Zf.name)&&YN t.nms)=true
 pl:1<=t.prs.length/\t.prs.length<=255
 pr:∀l,l∈t.prs->1<=l.length/\l.length<=255/\(∀s,s∈l->vM t.rts.length t.nms.length s)/\Ox l=true
 dp:t.root.deep 0
 lf:t.root.lows t.prs.length
theorem zO {t}(h:t.Wr):Oy (XF t)=V ⟨t.rts,t.nms,t.prs,t.root.norm⟩:=by
 have a:KK (XF t) 0 ((ZA 1 t.rts.length++t.rts.flatMap WR)++((ZA 1 t.nms.length++t.nms.flatMap Wx)++((ZA 1 t.prs.length++t.prs.flatMap U8)++t.root.wr))):=⟨[],[],by simp[XF],rfl⟩;have c:=h.r6;have d:=h.n8;have k:=h.pl
 have g:(XF t).length=0+(ZA 1 t.rts.length++t.rts.flatMap WR).length+(ZA 1 t.nms.length++t.nms.flatMap Wx).length+(ZA 1 t.prs.length++t.prs.flatMap U8).length+t.root.wr.length:=by
  unfold XF;simp only[z4];omega
 generalize XF t=b at*;unfold Oy;rw[Ra (W:=WR) (f:=fun x=>x) (fun r j i hi=>Bw (h.rt r j) hi) a.left (by omega) (by omega) (by omega)]
 dsimp only
 rw[x7,Ra (W:=Wx) (f:=fun x=>x) (fun r j i hi=>Gi (h.nm r j) hi) a.right.left (by omega) (by omega) (by omega)]
 dsimp only
 rw[x7,if_pos h.df,Ra (W:=U8) (f:=fun x=>x) (fun l g i hi=>by
  obtain⟨p,q,m,n⟩:=h.pr l g;unfold U6;have e:=Ra (b:=b) (one:=V2 b t.rts.length t.nms.length) (W:=Y0) (f:=fun x=>x) (lo:=1) (hi:=255) (l:=l) (i:=i) (fun s o i hi=>zN c d (m s o) hi) hi (by omega) (by omega) (by omega);rw[e,x7]
  dsimp only
  rw[if_pos n]
  rfl) a.right.right.left (by omega) (by omega) (by omega)]
 dsimp only
 rw[x7];have e:=Gk (np:=t.prs.length) (by omega) t.root 0 _ (by omega) h.dp h.lf a.right.right.right;rw[e]
 dsimp only
 rw[if_pos g.symm]
def WS (b:List UInt8):List UInt8:=(Xy (8+b.length)++b)++Xy (Qr (Xy (8+b.length)++b))
theorem TY (n):(Xy n).length=4:=rfl
theorem KL (b):(WS b).length=8+b.length:=by
 unfold WS;simp[TY];omega
theorem Ep {b}(h:b.length<=199992):S0 (WS b)=V b:=by
 have a:=KL b
 have c:(WS b).take 4=Xy (8+b.length):=by
  unfold WS;rw[E,j3 (TY _)]
 have d:(WS b).take (4+b.length)=Xy (8+b.length)++b:=by
  unfold WS;rw[j3 (by simp[TY])]
 have e:(WS b).drop (4+b.length)=Xy (Qr (Xy (8+b.length)++b)):=by
  unfold WS;rw[j4 (by simp[TY])]
 unfold S0;rw[a,if_pos ⟨by omega,by omega⟩,show 8+b.length-4=4+b.length from by omega,c,d,e,if_pos ⟨rfl,rfl⟩,j4 (TY _)]
theorem Eq {t}(h:t.Wr)(a:(XF t).length<=199992):RY (WS (XF t))=V ⟨t.rts,t.nms,t.prs,t.root.norm⟩:=by
 unfold RY;rw[Ep a];exact zO h
def Rb (l:List UInt8):List x6:=l.map fun c=>U x5 (c.toNat:Nat)
theorem strCells_eq (s):Lib.strCells s=Rb s.data.toList:=by
 unfold Rb;simp[Lib.strCells]
structure Y6 (w:z6)(B:Nat)(l:List UInt8):Prop where
 bx:∃v,w.heap[B]?=V (D #[v] 145)/\w.ownsRow (B+1) 5 1 v l.length (Rb l)
 sz:l.length<=1000000
theorem RZ:(Y.info? 5).map (fun i=>(i.zero,i.size,i.bytes))=V (V (U x5 0),1,1):=by kernel_rfl
def sd (w:z6)(B k:Nat):Prop:=k=B\/(B<k/\∃a,w.heap[k]?=V (D a 5))
def Wf (w:z6)(B:Nat)(w':z6):Prop:=Fr (sd w B) w w'
theorem Wf.of {w w' B}(h:F0 w w'):Wf w B w':=Fr.mono h
theorem Wf.trans {w a w2 B}(b:Wf w B a)(d:Wf a B w2):Wf w B w2:=by
 refine Fr.monoNew b d (fun k f=>?_);by_cases g:k<w.heap.size
 ·by_cases c:sd w B k
  ·exact .inl c
  refine .inl ?_
  rcases f with e|⟨h,i,j⟩
  ·exact .inl e
  exact .inr ⟨h,i,by
   have e:=Fr.block b k g c;rw[<-e]
   exact j⟩
 exact .inr (by omega)
theorem Wf.up {w w' B}(h:Wf w B w'):Fr (fun k=>B<=k) w w':=Fr.mono h (fun k a=>by rcases a with e|⟨e,_⟩<;>show B<=k<;>omega)
theorem Wf.box {w w' B X t a}(h:Wf w B w')(b:w.heap[X]?=V (D a t))(c:X≠B)(d:t≠5):w'.heap[X]?=V (D a t):=
 Fr.whole h b (fun e=>by
  rcases e with e|⟨_,f,e⟩
  ·exact c e
  rw[b]at e
  injection e with e;injection e with _ e
  exact d e)
def Bz (w:z6)(B:Nat)(l:List UInt8)(e:Ending)(w':z6):Prop:=e=G (.tuple #[])/\Y6 w' B l/\Wf w B w'
theorem Y6.fr {w w' B l}(h:Y6 w B l)(a:F0 w w'):Y6 w' B l:=by
 obtain⟨v,b,c⟩:=h.bx;exact⟨⟨v,a.whole b,oF c a⟩,h.sz⟩
theorem MU {d f b B n v v' r L}(s:d.heap[B]?=V (D #[v] 145))(m:d.ownsRow (B+1) 5 1 v n r)(o:F0 d f)(q:f.grownBy b v.ownBlock)(c:b.ownsRow (B+1) 5 1 v' L.length (Rb L))(t:L.length<=1000000):
  Y6 (b.setCell ⟨B,0,I⟩ v') B L/\Wf d B (b.setCell ⟨B,0,I⟩ v'):=by
 have h:=((Fr.refl (fun k=>v.ownBlock=V k) f).grown q (fun k a=>y7 a)).whole (o.whole s) (fun e=>by have:=(m.lt B e).1;omega);refine⟨⟨⟨v',heap_setCell_same b B 0 _ _ v' h,oB c (by simp) v'⟩,t⟩,?_⟩;refine Fr.setCell (Fr.grown (Wf.of (B:=B) o) q (fun k a=>y7 (v6 ?_))) (p:=⟨B,0,I⟩) (y7 (y7 rfl)) v';rcases m.2 with⟨rfl,_⟩|⟨g,cap,i,rfl,j,l,_⟩
 ·cases a
 injection a with a
 subst a;exact⟨nL (Nat.lt_succ_self B) j,i,l⟩
theorem xC (x:Nat):j2.wrap (x:Int)=(((R x).toNat:Nat):Int):=by
 rw[z8];simp[j9,v3,j6]
theorem XZ (w B l)(k n:Nat)(kv nv:Int)(h:Y6 w B l)(T:k<=4)(X:kv=k)(a0:nv=n)(hs:l.length+k<=1000000):
  z3 Y 69 #[J (V ⟨B,0,I⟩),U F kv,U F nv] w (Bz w B (l++ZA k n)):=by
 subst X a0;obtain⟨ij,x,y,z,A⟩:=info_parts RZ;have b0:=Za h;go_enter Tryz.func69,Tryz.ntmps69;go_wp2_with fail
 go_loopg [8] k (fun mm iv wr=>∃i:Nat,i<=k/\mm=k-i/\iv=U F (i:Nat)/\M (Y6 wr B (l++(ZA k n).take i))/\M (Wf w B wr))
 case atStart=>exact⟨0,y8 _,rfl,rfl,by rw[List.take_zero,List.append_nil];exact b0.o,Zt⟩
 obtain⟨i,k0,rfl,rfl,r,s⟩:=hrel;by_cases g0:i<k
 ·have h0:(i:Int)<(k:Int):=by omega
  obtain⟨L,hL⟩:∃L,l++(ZA k n).take i=L:=⟨_,rfl⟩;rw[hL]at r;obtain⟨v,hb,ho⟩:=r.o.bx;obtain⟨m,hm⟩:∃m,L.length=m:=⟨_,rfl⟩;rw[hm]at ho
  have l0:m+1<=1000000:=by rw[<-hm,<-hL,lA,j0,Zi];omega
  have W:=Za hm;obtain⟨G,H,e⟩:=oL ho;subst e;have u:=Za hb;have K:=Za ho;have c0:=Zc hb 0;have fz:=bF hb 0;obtain⟨p,N⟩:∃c,R (n/2^(8*i))=c:=⟨_,rfl⟩
  have HL:M (l++(ZA k n).take (i+1)=L++[p]):=by
   show _=_
   rw[x8,Gg k n i g0,N,<-hL,E];rfl
  have m0:v5.wrap (8*(i:Int))=8*(i:Int):=IntWalk.i64_in _ (by constructor<;>omega);obtain⟨q,hq⟩:∃q,n/2^(8*i)=q:=⟨_,rfl⟩
  have n0:(n:Int)/2^(8*(i:Int)).toNat=((q:Nat):Int):=by
   rw[<-hq,show(8*(i:Int)).toNat=8*i from by omega];simp
  have o0:j2.wrap (q:Int)=((p.toNat:Nat):Int):=by rw[xC,<-N,hq]
  go_wp2_with fail;refine wp_region_held_drew (S:=fun _=>True) (by kernel_rfl) trivial (fun j=>?_)
  iterate 4 (refine YO 0 j ?_;try go_frame)
  iterate 5 ((first|refine YO 0 j ?_|refine YO 1 j ?_);try go_frame)
  have f:M (F0 wr ((wr.alloc (D #[U x5 (p.toNat:Nat)] 5)).drew)):=(Zt.alloc _).drew;have O:=Za (oF K.o f.o);have p0:B+1<=wr.heap.size:=(iA.1 u.o).1;refine Xz [4,10] ?_;refine Zb rfl (fun t g=>?_) ?_
  ·try rw[if_pos (by rfl)]
   go_simp;refine g.out _ _ trivial (fun j=>?_)
   try go_frame
   refine Xz [10] ?_;refine Zb rfl (fun t g=>?_) C
   try rw[if_pos (by rfl)]
   go_simp;refine g.out _ _ trivial (fun j=>?_)
   try go_frame
   refine Xz [11] ?_;refine Zb rfl (fun t g=>?_) C
   try rw[if_pos (by rfl)]
   refine wp_append_lies _ (.tmp 15) (.tmp 21) 50 rfl (B+1) 5 ij _ 1 1 Tryz.underlying50 x y z A rfl (by decide) (Z G m H) m (Rb L) rfl O.o ⟨wr.heap.size,0,I⟩ 1 1 [U x5 (p.toNat:Nat)] rfl rfl ?h2A ?h3A (by decide) ?h4A ?h5A ?h6A _ rfl ?_
   case h2A=>exact World.news_of_block (aN wr (D #[U x5 (p.toNat:Nat)] 5))
   case h3A=>simp[j8]
   case h4A=>unfold maxLen;omega
   case h5A=>omega
   case h6A=>have:=f.o.size;omega
   intro g2 b w8 d a i0 _
   have P:=Za (MU (v':=Z (V ⟨g2,0,I⟩) (m+1) b) (L:=L++[p]) u.o K.o f.o a (by
    rw[lA,W.o];unfold Rb at d ⊢;rw[q4]
    exact d) (by rw[lA,W.o];simp;omega))
   have Q:=((Fr.refl (fun k=>(q9 G m H).ownBlock=V k) _).grown a (fun k T=>y7 T)).whole (f.o.whole u.o) (fun e=>by have:=(K.o.lt B e).1;omega);have e0:=Zc Q 0;have f0:=bF Q 0;refine g.out _ _ trivial (fun j=>?_)
   try go_frame
   iterate 2 (refine YO 0 j ?_;try go_frame)
   refine Xz [14] ?_;refine Zb rfl (fun t g=>?_) C
   try rw[if_pos (by rfl)]
   go_simp;refine g.out _ _ trivial (fun j=>?_)
   try go_frame
   refine wpAnyH_done (by kernel_rfl) ?_ _;generalize w8.setCell ⟨B,0,I⟩ (Z (V ⟨g2,0,I⟩) (m+1) b)=W9 at*;go_wp2_with fail;go_roundg (k-(i+1))
   case measure=>omega
   exact⟨i+1,by omega,rfl,by go_num,by show Y6 _ _ _;rw[HL.o];exact P.o.1,s.o.trans P.o.2⟩
  refine Zb rfl (fun t g=>?_) C
  try rw[if_pos (by rfl)]
  go_simp;refine g.out _ _ trivial (fun j=>?_)
  try go_frame
  refine Xz [4] ?_;refine Zb rfl (fun t g=>?_) C
  try rw[if_pos (by rfl)]
  have z0:(wr.alloc (D #[U x5 (p.toNat:Nat)] 5)).cell? ⟨B,0,I⟩=V (Z G m H):=bC (((Fr.refl (fun _=>False) wr).alloc _).whole u.o) 0 _ rfl;go_simp;refine g.out _ _ trivial (fun j=>?_)
  try go_frame
  refine Xz [11] ?_;refine Zb rfl (fun t g=>?_) C
  try rw[if_pos (by rfl)]
  refine wp_append_lies _ (.tmp 15) (.tmp 21) 50 rfl (B+1) 5 ij _ 1 1 Tryz.underlying50 x y z A rfl (by decide) (Z G m H) m (Rb L) rfl O.o ⟨wr.heap.size,0,I⟩ 1 1 [U x5 (p.toNat:Nat)] rfl rfl ?h2B ?h3B (by decide) ?h4B ?h5B ?h6B _ rfl ?_
  case h2B=>exact World.news_of_block (aN wr (D #[U x5 (p.toNat:Nat)] 5))
  case h3B=>simp[j8]
  case h4B=>unfold maxLen;omega
  case h5B=>omega
  case h6B=>have:=f.o.size;omega
  intro g2 b w8 d a i0 _
  have P:=Za (MU (v':=Z (V ⟨g2,0,I⟩) (m+1) b) (L:=L++[p]) u.o K.o f.o a (by
   rw[lA,W.o];unfold Rb at d ⊢;rw[q4]
   exact d) (by rw[lA,W.o];simp;omega))
  have Q:=((Fr.refl (fun k=>(q9 G m H).ownBlock=V k) _).grown a (fun k T=>y7 T)).whole (f.o.whole u.o) (fun e=>by have:=(K.o.lt B e).1;omega);have e0:=Zc Q 0;have f0:=bF Q 0;refine g.out _ _ trivial (fun j=>?_)
  try go_frame
  iterate 2 (refine YO 0 j ?_;try go_frame)
  refine Xz [14] ?_;refine Zb rfl (fun t g=>?_) C
  try rw[if_pos (by rfl)]
  go_simp;refine g.out _ _ trivial (fun j=>?_)
  try go_frame
  refine wpAnyH_done (by kernel_rfl) ?_ _;generalize w8.setCell ⟨B,0,I⟩ (Z (V ⟨g2,0,I⟩) (m+1) b)=W9 at*;go_wp2_with fail;go_roundg (k-(i+1))
  case measure=>omega
  exact⟨i+1,by omega,rfl,by go_num,by show Y6 _ _ _;rw[HL.o];exact P.o.1,s.o.trans P.o.2⟩
 have e:i=k:=by omega
 subst e
 have h0:¬(i:Int)<(i:Int):=by omega
 go_wp2_with fail
 go_end0
 have e:=r.o;rw[z5 (by rw[Zi];exact y5 _)]at e;exact⟨rfl,e,s.o⟩
theorem Wy {w0 w B p v}(c:w0.heap.size<=B)(b:Fr (fun k=>B<=k) w0 w)(a:w0.cell? p=V v):w.cell? p=V v:=
 (b.cell (bL w0 _ a) (by have:=bL w0 _ a;show¬B<=p.block;omega)).trans a
theorem P0 {α}(W:α->List UInt8)(l:List α)(i):((l.take i).flatMap W).length<=(l.flatMap W).length:=by
 have e:l.flatMap W=(l.take i).flatMap W++(l.drop i).flatMap W:=by rw[<-q7,List.take_append_drop]
 rw[e,lA];omega
theorem Rc {α}(W:α->List UInt8){l:List α}{i x}(a:l[i]?=V x):(l.take (i+1)).flatMap W=(l.take i).flatMap W++W x:=by
 rw[x8,a];simp
theorem KM (w B l s)(h:Y6 w B l)(N:(l++Wx s).length<=1000000):
  z3 Y 71 #[J (V ⟨B,0,I⟩),H s] w (Bz w B (l++Wx s)):=by
 obtain⟨O,f,g,i,j⟩:=info_parts RZ
 have c:s.data.toList.length=s.size:=by simp
 have P:l.length+(1+s.size)<=1000000:=by rw[<-c];simpa[Wx,Zi]using N
 have Q:=Za (XZ w B l 1 s.size _ _ h (by omega) rfl rfl (by omega));have n:=Za c;go_enter Tryz.func71,Tryz.ntmps71;go_wp2_with fail;refine Q.o.mono ?_;rintro e C ⟨rfl,R,p⟩;obtain⟨v,d,q⟩:=R.bx;obtain⟨m,r⟩:∃m,(l++ZA 1 s.size).length=m:=⟨_,rfl⟩;rw[r]at q
 have S:m+s.size<=1000000:=by rw[<-r,lA,Zi];omega
 have T:=Za r;obtain⟨D,F,e⟩:=oL q;subst e;have G:=Za d;have t:=Za q;have u:=Za p;have X:=Zc d 0;have fz:=bF d 0;have x:B+1<=C.heap.size:=(iA.1 d).1
 go_wp2_with (at_builtin;refine Lib.wpList_append_own_string _ rfl (.tmp 12) (.tmp 13) 50 9 rfl (B+1) 5 O Tryz.underlying50 Tryz.underlying9 f g i j (Z D m F) m (Rb (l++ZA 1 s.size)) rfl t.o s rfl ?h1 ?h2 ?h3 ?_)
 case h1=>unfold maxLen;omega
 case h2=>omega
 case h3=>exact x
 intro v' w8 a b _
 have y:(l++Wx s).length=m+s.size:=by rw[<-T.o];simp only[Wx,z4,Zi,n.o];omega
 obtain⟨z,A,e⟩:=oL a;subst e
 have U:=MU (v':=Z z (m+s.size) A) (L:=l++Wx s) G.o t.o Zt b (by
  rw[strCells_eq]at a;rw[y,Wx,<-E];unfold Rb at a ⊢;rw[q4]
  exact a) (by omega)
 have K:=Za U;have M:=((Fr.refl (fun k=>(q9 D m F).ownBlock=V k) C).grown b (fun k W=>y7 W)).whole G.o (fun e=>by have:=(t.o.lt B e).1;omega);have e0:=Zc M 0;have z0:=bF M 0;go_wp2_with fail
 go_end0
 exact⟨rfl,K.o.1,u.o.trans K.o.2⟩
def se (r:Zf):Obj:=D #[H r.name,U F (r.base:Nat),U F (r.rate:Nat)] 148
theorem Gl (w B l r)(h:Y6 w B l)(G:(l++WR r).length<=1000000):
  z3 Y 70 #[J (V ⟨B,0,I⟩),ua r] w (Bz w B (l++WR r)):=by
 have C:M (∀W (L:List UInt8)(n:Nat),Y6 W B L->L.length+4<=1000000->z3 Y 69 #[J (V ⟨B,0,I⟩),U F 4,U F (n:Nat)] W (Bz W B (L++ZA 4 n))):=fun W L n H K=>XZ W B L 4 n 4 n H (by omega) rfl rfl K
 have j:l.length+((Wx r.name).length+8)<=1000000:=by simpa[WR,Zi]using G
 have N:B<w.heap.size:=by obtain⟨v,O,_⟩:=h.bx;exact(iA.1 O).1
 obtain⟨a,b⟩:=Vx w (se r);have c:=Za (KM _ B l r.name (h.fr a.o) (by rw[lA];omega));have d:=Za j
 have D:M (w.heap.size≠B):=by show _≠_;omega
 have P:M (WR r=Wx r.name++(ZA 4 r.base++ZA 4 r.rate)):=rfl;unfold ua;unfold se at a b c;obtain⟨T,Q,R⟩:=r
 dsimp only at*
 go_enter Tryz.func70,Tryz.ntmps70;go_upto_region 1 with fail;generalize w.alloc _=w0 at*;generalize w.heap.size=X at*;have Z:=Zc b.o 0;go_wp2_with fail;refine c.o.mono ?_;rintro e S ⟨rfl,k,f⟩;have m:=Za k;have g:=Za (Wf.box f b.o D.o (by decide));have p:=Za ((Wf.of (B:=B) a.o).trans f);have x1:=Zc g.o 1;go_wp2_with fail;refine(C.o S _ Q m.o (by rw[lA];have:=d.o;omega)).mono ?_;rintro e w2 ⟨rfl,q,i⟩;have s:=Za q;have t:=Za (Wf.box i g.o D.o (by decide));have u:=Za (p.o.trans i);have x2:=Zc t.o 2;go_wp2_with fail;refine(C.o w2 _ R s.o (by rw[lA,lA,Zi];have:=d.o;omega)).mono ?_;rintro e w3 ⟨rfl,x,y⟩;have z:=Za x;have A:=Za (u.o.trans y);go_wp2_with fail
 go_end0
 refine⟨rfl,?_,A.o⟩;rw[P.o];have e:=z.o;rw[E,E]at e;exact e
theorem BA (w0 w B l a n c b)(P:w0.heap.size<=B)(t:Fr (fun k=>B<=k) w0 w)(hi:Zu w0 a b)(Q:b.length=n)(h4:n<=255)(h:Y6 w B l)(r:(l++Ts b).length<=1000000):
  z3 Y 175 #[J (V ⟨B,0,I⟩),Z a n c] w (Bz w B (l++Ts b)):=by
 have O:M (∀W (L:List UInt8)(k m:Nat)(s:Int),Y6 W B L->k<=4->s=k->L.length+k<=1000000->z3 Y 69 #[J (V ⟨B,0,I⟩),U F s,U F (m:Nat)] W (Bz W B (L++ZA k m))):=fun W L k m s R S e T=>XZ W B L k m s m R S e rfl T
 have u:M (∀i x,b[i]?=V x->((l++ZA 1 n)++(b.take i).flatMap (ZA 2)).length+2<=1000000):=fun i x j=>by
  have e:=P0 (ZA 2) b (i+1);rw[Rc (ZA 2) j,lA,Zi]at e;unfold Ts at r;rw[lA,lA,Zi]at r;rw[lA,lA,Zi];omega
 have X:l.length+1<=1000000:=by
  unfold Ts at r;rw[lA,lA,Zi]at r;omega
 have HI:=Za hi;have d:=Za Q;have p:M (w0.heap.size<=B/\Fr (fun k=>B<=k) w0 w):=⟨P,t⟩;have HW:=Za h;go_enter Tryz.func175,Tryz.ntmps175;go_wp2_with fail;refine(O.o w l 1 n _ HW.o (by omega) rfl X).mono ?_;rintro e w1 ⟨rfl,v,y⟩;have z:=Za v;have A:=Za y;go_wp2_with fail
 go_loopg [12] n (fun mm iv wr=>∃i:Nat,i<=n/\mm=n-i/\iv=U F (i:Nat)/\M (Y6 wr B ((l++ZA 1 n)++(b.take i).flatMap (ZA 2)))/\M (Wf w B wr))
 case atStart=>exact⟨0,y8 _,rfl,rfl,by simpa using z,A⟩
 obtain⟨i,a0,rfl,rfl,q,f⟩:=hrel;by_cases C:i<n
 ·have D:(i:Int)<(n:Int):=by omega
  obtain⟨x,j⟩:∃x,b[i]?=V x:=⟨_,gE (by rw[d.o];exact C)⟩;obtain⟨g,rfl,hc⟩:=HI.o i x j;have b0:=Wy p.o.1 (p.o.2.trans (Wf.up f.o)) hc;have HC:=Za (O.o wr _ 2 x 2 q.o (by omega) rfl (u.o i x j));have HS:=Za (Rc (ZA 2) j);go_wp2_with fail;refine HC.o.mono ?_;rintro e w2 ⟨rfl,G,H⟩
  have K:M (Y6 w2 B ((l++ZA 1 n)++(b.take (i+1)).flatMap (ZA 2))):=by
   show Y6 _ _ _
   rw[HS.o,<-E];exact G
  have N:=Za (f.o.trans H);go_wp2_with fail;go_roundg (n-(i+1))
  case measure=>omega
  exact⟨i+1,by omega,rfl,by go_num,K,N⟩
 have e:i=n:=by omega
 subst e
 have D:¬(i:Int)<(i:Int):=by omega
 go_wp2_with fail
 go_end0
 have e:=q.o;rw[z5 (by rw[d.o];exact y5 _),E]at e;refine⟨rfl,?_,f.o⟩;unfold Ts;rw[d.o];exact e
structure tQ (w0 w:z6)(B:Nat)(a:Option Addr)(nums:List Nat):Prop where
 h0:w0.heap.size<=B
 f0:Fr (fun k=>B<=k) w0 w
 hi:Zu w0 a nums
theorem TZ {w}{B X t k n:Nat}{f L}{a b:Int}(h:Y6 w B L)(i:w.heap[X]?=V (D f t))(j:X≠B)(l:t≠5)(m:k<=4)(c:a=k)(d:b=n)(o:L.length+k<=1000000):
  z3 Y 69 #[J (V ⟨B,0,I⟩),U F a,U F b] w fun e w'=>e=G (.tuple #[])/\Y6 w' B (L++ZA k n)/\w'.heap[X]?=V (D f t)/\Wf w B w':=
 (XZ w B L k n a b h m c d o).mono (by rintro e w' ⟨rfl,p,g⟩;exact⟨rfl,p,g.box i j l,g⟩)
theorem BB (w0 w B l a n c nr nn s)(A:vM nr nn s)(hn:s.nums.length=n)(h:Y6 w B l)(hw:tQ w0 w B a s.nums)(hs:(l++Y0 s).length<=1000000):
  z3 Y 116 #[J (V ⟨B,0,I⟩),Ln s.sort a n c s.rule s.skip] w (Bz w B (l++Y0 s)):=by
 have g0:B<w.heap.size:=by obtain⟨v,hb,_⟩:=h.bx;exact(iA.1 hb).1
 obtain⟨C,E⟩:=Vx w (D #[U x5 (s.sort:Nat),Z a n c,U F (s.rule:Nat),U F (s.skip:Nat)] 208);have P:=Za (h.fr C.o)
 have O:M (w.heap.size≠B):=by show _≠_;omega
 have b:=Za hw;have q:=Za hn
 have i0:l.length+1<=1000000:=by rw[lA,Y0,lA,Zi]at hs;omega
 have j0:s.sort<=6:=by rcases A with⟨_,_,_,_,⟨rfl,_⟩|⟨rfl,_⟩,rfl,_⟩|⟨_,_,_,rfl,_⟩|⟨_,rfl,_⟩|⟨_,_,_,rfl|rfl,rfl,_⟩|rfl<;>dsimp only<;>omega
 have e0:wrap64 (s.sort:Int)=s.sort:=IntWalk.wrap64_in _ (by constructor<;>omega);obtain⟨L,G⟩:∃L,M (l++Y0 s=L):=⟨_,rfl⟩;rw[G.o];unfold Ln;go_enter Tryz.func116,Tryz.ntmps116;go_upto_region 1 with fail;generalize w.alloc _=w1 at*;generalize w.heap.size=X at*;have x0:=Zc E.o 0;go_wp2_with fail;refine(TZ (k:=1) P.o E.o O.o (by decide) (by omega) rfl rfl (by omega)).mono ?_;rintro e w2 ⟨rfl,Q,d,R⟩;have H:=Za Q;have S:=Za d;have K:=Za ((Wf.of (B:=B) C.o).trans R);have y0:=Zc d 0;have y1:=Zc d 1;have y2:=Zc d 2;have y3:=Zc d 3;rcases A with⟨_,_,p,k,⟨rfl,rfl⟩|⟨rfl,rfl⟩,rfl,k1,k2,l1,l2,hl⟩|⟨x,y,k,rfl,k1,k2,k0,hy⟩|⟨j,rfl,hj⟩|⟨_,p,j,rfl|rfl,rfl,hj,l1,l2,hl⟩|rfl
 all_goals
  simp[Y0,Zi]at hs
  dsimp only at*
  go_wp2_with fail
 iterate 6
  refine(TZ (k:=1) H.o S.o O.o (by decide) (by omega) rfl rfl (by simp[Zi];omega)).mono ?_;rintro e w3 ⟨rfl,r,z,i⟩;have t:=Za r;have T:=Za z;have f:=Za (K.o.trans i);have y1:=Zc z 1
  rotate_left
 ·go_end0
  exact⟨rfl,by rw[<-G.o];simpa[Y0]using H.o,K.o⟩
 rotate_left 2
 ·obtain⟨g,rfl,c0⟩:=b.o.hi 0 x rfl
  obtain⟨g',e,c1⟩:=b.o.hi 1 y rfl;injection e with e;injection e with e;subst e
  have HC:M (∀W,Wf w B W->W.cell? ⟨g,0,I⟩=V (U F (x:Nat))/\W.cell? ⟨g,1,I⟩=V (U F (y:Nat))):=fun W i=>⟨Wy b.o.h0 (b.o.f0.trans i.up) c0,Wy b.o.h0 (b.o.f0.trans i.up) c1⟩
  have N:=q.o;subst N;obtain⟨c0,c1⟩:=HC.o _ f.o;go_wp2_with fail;refine(TZ (k:=4) t.o T.o O.o (by decide) (by omega) rfl rfl (by simp[Zi];omega)).mono ?_;rintro e w4 ⟨rfl,r,z,i⟩;have u:=Za r;have m:=Za (f.o.trans i);obtain⟨c0,c1⟩:=HC.o _ m.o;have a0:=Za z;have y1:=Zc z 1;go_wp2_with fail;refine(TZ (k:=4) u.o a0.o O.o (by decide) (by omega) rfl rfl (by simp[Zi];omega)).mono ?_;rintro e w5 ⟨rfl,r,z,i⟩;have b0:=Za r;have d0:=Za (m.o.trans i);go_wp2_with fail
  go_end0
  exact⟨rfl,by rw[<-G.o];simpa[Y0]using b0.o,d0.o⟩
 ·go_wp2_with fail
  go_end0
  exact⟨rfl,by rw[<-G.o];simpa[Y0]using t.o,f.o⟩
 all_goals
  have N:=q.o;go_wp2_with fail;refine(BA w0 w3 B _ a n c p b.o.h0 (b.o.f0.trans f.o.up) b.o.hi q.o (by omega) t.o (by simp only[z4,Zi];omega)).mono ?_;rintro e w4 ⟨rfl,r,i⟩;have u:=Za r;have m:=Za (f.o.trans i);go_wp2_with fail
  go_end0
  exact⟨rfl,by rw[<-G.o];simpa[Y0]using u.o,m.o⟩
theorem JY (w0 w B Q l X n c nr nn p)(h0:w0.heap.size<=B)(x:Fr (fun k=>B<=k) w0 w)(hp:Ms w0 Q X p)(y:∀s,s∈p->vM nr nn s)(hn:p.length=n)(h4:n<=255)(h:Y6 w B l)(t:(l++U8 p).length<=1000000):
  z3 Y 72 #[J (V ⟨B,0,I⟩),Z X n c] w (Bz w B (l++U8 p)):=by
 have z:M (∀i s,p[i]?=V s->(((l++ZA 1 n)++(p.take i).flatMap Y0)++Y0 s).length<=1000000):=fun i s d=>by
  have e:=P0 Y0 p (i+1);rw[Rc Y0 d,lA]at e;unfold U8 at t;simp only[z4,Zi]at t ⊢;omega
 have A:M (∀W i s a m c,p[i]?=V s->Fr (fun k=>B<=k) w0 W->Y6 W B ((l++ZA 1 n)++(p.take i).flatMap Y0)->Zu w0 a s.nums->s.nums.length=m->z3 Y 116 #[J (V ⟨B,0,I⟩),Ln s.sort a m c s.rule s.skip] W (Bz W B (((l++ZA 1 n)++(p.take i).flatMap Y0)++Y0 s))):=fun W i s a m c d u hW hi C=>BB w0 W B _ a m c nr nn s (y s (mG d)) C hW ⟨h0,u,hi⟩ (z.o i s d)
 have h1:l.length+1<=1000000:=by
  unfold U8 at t;simp only[z4,Zi]at t;omega
 have HI:=Za hp;have f:=Za hn;have b:M (w0.heap.size<=B/\Fr (fun k=>B<=k) w0 w):=⟨h0,x⟩;have HW:=Za (XZ w B l 1 n 1 n h (by omega) rfl rfl h1)
 have a0:B<w.heap.size:=by obtain⟨v,hb,_⟩:=h.bx;exact(iA.1 hb).1
 go_enter Tryz.func72,Tryz.ntmps72;go_wp2_with fail;refine HW.o.mono ?_;rintro e w1 ⟨rfl,D,G⟩;have H:=Za D;have K:=Za G;go_wp2_with fail
 go_loopg [12] n (fun mm iv wr=>∃i:Nat,i<=n/\mm=n-i/\iv=U F (i:Nat)/\M (Y6 wr B ((l++ZA 1 n)++(p.take i).flatMap Y0))/\M (Wf w B wr))
 case atStart=>exact⟨0,y8 _,rfl,rfl,by simpa using H,K⟩
 obtain⟨i,b0,rfl,rfl,q,j⟩:=hrel;by_cases L:i<n
 ·have N:(i:Int)<(n:Int):=by omega
  obtain⟨s,d⟩:∃s,p[i]?=V s:=⟨_,gE (by rw[f.o];exact L)⟩;obtain⟨g,na,nc,rfl,_,d0,d1,d2,d3,di,_⟩:=HI.o i s d;have r:=b.o.2.trans (Wf.up j.o);have c0:=Wy b.o.1 r d0;have c1:=Wy b.o.1 r d1;have c2:=Wy b.o.1 r d2;have c3:=Wy b.o.1 r d3;have O:=Za (fun W (u:F0 wr W)=>A.o W i s na s.nums.length nc d (r.trans (u.mono)) (q.o.fr u) di rfl);have HS:=Za (Rc Y0 d);unfold Ln at O;obtain⟨m,C⟩:∃m,s.nums.length=m:=⟨_,rfl⟩;rw[C]at O c1;have e0:=bL wr _ c0;go_wp2_with fail;refine(O.o _ (Zt.alloc _)).mono ?_;rintro e w2 ⟨rfl,P,R⟩
  have S:M (Y6 w2 B ((l++ZA 1 n)++(p.take (i+1)).flatMap Y0)):=by
   show Y6 _ _ _
   rw[HS.o,<-E];exact P
  have T:=Za ((j.o.trans (Wf.of (Zt.alloc _))).trans R);go_wp2_with fail;go_roundg (n-(i+1))
  case measure=>omega
  exact⟨i+1,by omega,rfl,by go_num,S,T⟩
 have e:i=n:=by omega
 subst e
 have N:¬(i:Int)<(i:Int):=by omega
 go_wp2_with fail
 go_end0
 have e:=q.o;rw[z5 (by rw[f.o];exact y5 _),E]at e;refine⟨rfl,?_,j.o⟩;unfold U8;rw[f.o];exact e
def uM (a b:x6):Obj:=D #[a,b] 133
theorem Er (w B l p)(s:p<=255)(h:Y6 w B l)(t:l.length+1<=1000000):
  z3 Y 73 #[J (V ⟨B,0,I⟩),q6 #[J I,U F (p:Nat)]] w (Bz w B (l++ZA 1 (1+p))):=by
 have j:B<w.heap.size:=by obtain⟨v,m,_⟩:=h.bx;exact(iA.1 m).1
 obtain⟨b,a⟩:=Vx w (uM (J I) (U F (p:Nat)));have c:=Za (h.fr b.o)
 have q:M (w.heap.size≠B):=by show _≠_;omega
 unfold uM at b a c;go_enter Tryz.func73,Tryz.ntmps73;go_upto_region 1 with fail;generalize w.alloc _=u at*;generalize w.heap.size=X at*;have x:=Zc a.o 0;have y:=Zc a.o 1;go_wp2_with fail;refine(TZ (k:=1) (n:=1+p) c.o a.o q.o (by decide) (by omega) rfl (by omega) (by omega)).mono ?_;rintro e w2 ⟨rfl,d,r,f⟩;have g:=Za d;have i:=Za ((Wf.of (B:=B) b.o).trans f);go_wp2_with fail;refine bodyPost_ret (results_none rfl _ _ _) rfl ?_;exact⟨rfl,g.o,i.o⟩
def R4 (k:Nat->Tr)(i:Nat):List UInt8:=(z9 i).flatMap fun d=>(k d).wr
theorem Qs (k i):R4 k (i+1)=R4 k i++(k i).wr:=by
 unfold R4;rw[List.range_succ,q7];simp
theorem zP (k i j):(R4 k i).length<=(R4 k (i+j)).length:=by
 induction j with
 |zero=>exact y5 _
 |succ j a=>rw[show i+(j+1)=(i+j)+1 from rfl,Qs,lA];omega
theorem MV {w:z6}{lo:Nat}:∀{t:Tr}{a b:x6},Xf w lo t (q6 #[a,b])->∃x,∃y:Nat,a=J x/\b=U F (y:Nat)
 | .leaf p,a,b,h=>by
  have h:=h;injection h with h;simp at h;exact⟨_,p,h.1,h.2⟩
 | .node k,a,b,⟨K,cs,h,_⟩=>by
  injection h with h;simp at h;exact⟨_,0,h.1,h.2⟩
theorem Es (w0 w B l k K lo q)(h0:w0.heap.size<=B)(r:Fr (fun k=>B<=k) w0 w)(S:w0.heap[K]?=V (D q 248))(s:∀d,d<10->∃a b,q[d*2]?=V a/\q[d*2+1]?=V b/\Xf w0 lo (k d) (q6 #[a,b]))(ih:∀d,d<10->∀W L v,Xf w0 lo (k d) v->Fr (fun k=>B<=k) w0 W->Y6 W B L->(L++(k d).wr).length<=1000000->z3 Y 73 #[J (V ⟨B,0,I⟩),v] W (Bz W B (L++(k d).wr)))(h:Y6 w B l)(T:(l++(Tr.node k).wr).length<=1000000):
  z3 Y 73 #[J (V ⟨B,0,I⟩),q6 #[J (V ⟨K,0,I⟩),U F 0]] w (Bz w B (l++(Tr.node k).wr)):=by
 have Z:M ((Tr.node k).wr=ZA 1 0++R4 k 10):=rfl;rw[Z.o]at T;simp only[z4,Zi]at T
 have t:M (∀d,d<10->((l++ZA 1 0)++R4 k d++(k d).wr).length<=1000000):=fun d hd=>by
  have e:=zP k (d+1) (9-d);rw[show d+1+(9-d)=10 from by omega,Qs,lA]at e;simp only[z4,Zi];omega
 have u:=Za ih
 have x:M (∀d,d<10->∃a b,w0.cell? ⟨K,d*2,I⟩=V a/\w0.cell? ⟨K,d*2+1,I⟩=V b/\Xf w0 lo (k d) (q6 #[a,b])):=fun d hd=>by
  obtain⟨a,b,e1,e2,e3⟩:=s d hd;exact⟨a,b,bC S _ _ e1,bC S _ _ e2,e3⟩
 have y:M (w0.heap.size<=B/\Fr (fun k=>B<=k) w0 w):=⟨h0,r⟩
 have a0:B<w.heap.size:=by obtain⟨v,hb,_⟩:=h.bx;exact(iA.1 hb).1
 obtain⟨f,c⟩:=Vx w (uM (J (V ⟨K,0,I⟩)) (U F 0));have m:=Za (h.fr f.o)
 have HX:M (w.heap.size≠B):=by show _≠_;omega
 unfold uM at f c m;go_enter Tryz.func73,Tryz.ntmps73;go_upto_region 1 with fail;generalize w.alloc _=w1 at*;generalize w.heap.size=X at*;have x0:=Zc c.o 0;have x1:=Zc c.o 1;go_wp2_with fail;refine(TZ (k:=1) (n:=0) m.o c.o HX.o (by decide) (by omega) rfl (by omega) (by omega)).mono ?_;rintro e w2 ⟨rfl,z,A,C⟩;have G:=Za z;have H:=Za ((Wf.of (B:=B) f.o).trans C);have y0:=Zc A 0;go_wp2_with fail
 go_loopg [19] 10 (fun mm iv wr=>∃i:Nat,i<=10/\mm=10-i/\iv=U F (i:Nat)/\M (Y6 wr B ((l++ZA 1 0)++R4 k i))/\M (Wf w B wr))
 case atStart=>exact⟨0,by omega,rfl,rfl,by simpa[R4]using G,H⟩
 obtain⟨i,b0,rfl,rfl,p,g⟩:=hrel;by_cases j:i<10
 ·have e0:(i:Int)<10:=by omega
  obtain⟨a,b,d0,d1,dT⟩:=x.o i j;obtain⟨xp,yp,rfl,rfl⟩:=MV dT;have N:=y.o.2.trans (Wf.up g.o);have c0:=Wy y.o.1 N d0;have c1:=Wy y.o.1 N d1;have HC:=Za (fun W (hf:F0 wr W)=>u.o i j W _ _ dT (N.trans (hf.mono)) (p.o.fr hf) (t.o i j));have f0:=bL wr _ c0;go_wp2_with fail;refine(HC.o _ (Zt.alloc _)).mono ?_;rintro e w3 ⟨rfl,O,P⟩
  have Q:M (Y6 w3 B ((l++ZA 1 0)++R4 k (i+1))):=by
   show Y6 _ _ _
   rw[Qs,<-E];exact O
  have R:=Za ((g.o.trans (Wf.of (Zt.alloc _))).trans P);go_wp2_with fail;go_roundg (10-(i+1))
  case measure=>omega
  exact⟨i+1,by omega,rfl,by go_num,Q,R⟩
 have e:i=10:=by omega
 subst e;go_wp2_with fail
 go_end0
 refine⟨rfl,?_,g.o⟩;rw[Z.o,<-E];exact p.o
theorem KN (w0:z6)(B lo np:Nat)(h:w0.heap.size<=B)(g:np<=255):∀(t:Tr)(W:z6)(L:List UInt8)(v:x6),t.lows np->Xf w0 lo t v->Fr (fun k=>B<=k) w0 W->Y6 W B L->(L++t.wr).length<=1000000->z3 Y 73 #[J (V ⟨B,0,I⟩),v] W (Bz W B (L++t.wr))
 | .leaf p,W,L,v,e,a,f,b,c=>by
  have a:=a;have e:p<np:=e;subst a;exact Er W B L p (by omega) b (by simpa[Tr.wr,Zi]using c)
 | .node k,W,L,v,e,⟨K,cs,a,_,hK,_,hcs⟩,f,b,c=>by
  subst a;exact Es w0 W B L k K lo cs h f hK hcs (fun d i W L v a f b c=>KN w0 B lo np h g (k d) W L v (e d i) a f b c) b c
theorem Et (s w)(J:s.size<=199992)(y:LP w):
  z3 Y 74 #[H s] w fun e w'=>e=G (H ⟨(WS s.data.toList).toArray⟩)/\F0 w w':=by
 have z:s.data.toList.length=s.size:=by simp
 have B:=Za z;have C:=Za y
 have g:M (∀(n:Nat)(h:Int)(W:z6),h=n->n<4294967296->z3 Y 117 #[U .u32 h] W fun e w'=>e=G (H ⟨(Xy n).toArray⟩)/\F0 W w'):=fun n h W e D=>by subst e;exact Rr n W D
 go_enter Tryz.func74,Tryz.ntmps74;go_wp2_with fail;refine(g.o (8+s.size) _ _ (by omega) (by omega)).mono ?_;rintro e E ⟨rfl,i⟩;have f:=Za i;obtain⟨a,b⟩:∃a:ByteArray,(⟨(Xy (8+s.size)).toArray⟩:ByteArray)=a:=⟨_,rfl⟩
 have j:a.size=4:=by rw[<-b];rfl
 have k:M (a.data.toList=Xy (8+s.size)):=by show _=_;rw[<-b]
 rw[b]
 have l:(a++s).size=4+s.size:=by rw[ByteArray.size_append,j]
 have m:a.size+s.size<=9223372036854775807:=by omega
 go_wp2_with fail;obtain⟨A,x⟩:∃A,a++s=A:=⟨_,rfl⟩
 have F:M (A.data.toList=Xy (8+s.size)++s.data.toList):=by show _=_;rw[<-x,ByteArray.data_append,Array.toList_append,k.o]
 rw[x]at l ⊢
 have p:A.size<=200000:=by omega
 refine(Gd A E p (C.o.fr f.o)).mono ?_;rintro e w2 ⟨rfl,q⟩;have r:=Za (f.o.trans q);go_wp2_with fail;refine(Rr (Qr A.data.toList) _ (Dz _)).mono ?_;rintro e K ⟨rfl,t⟩;have u:=Za (r.o.trans t);obtain⟨d,c⟩:∃d:ByteArray,(⟨(Xy (Qr A.data.toList)).toArray⟩:ByteArray)=d:=⟨_,rfl⟩
 have I:d.size=4:=by rw[<-c];rfl
 have v:M (d.data.toList=Xy (Qr A.data.toList)):=by show _=_;rw[<-c]
 rw[c]
 have m:A.size+d.size<=9223372036854775807:=by omega
 go_wp2_with fail;go_ret
 have e:A++d=⟨(WS s.data.toList).toArray⟩:=by
  apply ByteArray.ext;apply Array.toList_inj.1;rw[ByteArray.data_append,Array.toList_append,v.o,F.o];simp only[WS,B.o]
 rw[<-e];exact⟨rfl,u.o⟩
structure uv (w:z6)(TT:Nat)(t:LK)(ra:Option Addr)(rc:Nat)(na:Option Addr)(nc:Nat)(pa:Option Addr)(pc:Nat)(xp:Option Addr)(yp lo:Nat):Prop where
 bx:w.heap[TT]?=V (D #[Z ra t.rts.length rc,Z na t.nms.length nc,Z pa t.prs.length pc,J xp,U F (yp:Nat)] 135)
 rt:∀i r,t.rts[i]?=V r->∃g,ra=V ⟨g,0,I⟩/\w.cell? ⟨g,i*3,I⟩=V (H r.name)/\w.cell? ⟨g,i*3+1,I⟩=V (U F (r.base:Nat))/\w.cell? ⟨g,i*3+2,I⟩=V (U F (r.rate:Nat))
 nm:∀i s,t.nms[i]?=V s->∃g,na=V ⟨g,0,I⟩/\w.cell? ⟨g,i,I⟩=V (H s)
 pr:∀i l,t.prs[i]?=V l->∃g qa qc,pa=V ⟨g,0,I⟩/\w.cell? ⟨g,i,I⟩=V (Z qa l.length qc)/\Ms w w.heap.size qa l
 tr:Xf w lo t.root (q6 #[J xp,U F (yp:Nat)])
theorem OR.tm {q w u t v x}(h:OR q w u t.rts v x t.nms t.prs t.root):∃d f j k m n,uv w u t v x d f j k m n q:=by
 obtain⟨L,M,a,b,B,o,⟨N,p,C⟩,y⟩:=h.bx;obtain⟨d,f,rfl⟩:=oL o;obtain⟨j,k,rfl⟩:=oL p;obtain⟨m,n,rfl,rfl⟩:=MV y;refine⟨d,f,j,k,m,n,B,fun i r hi=>?_,fun i s hi=>?_,fun i l hi=>?_,y⟩
 ·have z:=(iG.1 hi).1
  obtain⟨g,cap,e,_,_,D⟩:=UV h.ro (by omega);injection e with e _ _;exact⟨g,e,D i r hi⟩
 ·have z:=(iG.1 hi).1
  obtain⟨g,cap,e,_,_⟩:=o.form (by omega);injection e with e _ _;subst e;have c:=o.cells (g:=g) rfl i (H s) (by rw[x4,hi];rfl);rw[Yc,v4]at c;exact⟨g,rfl,c⟩
 have z:=(iG.1 hi).1
 obtain⟨g,cap,e,_,_⟩:=p.form (by omega);injection e with e _ _;subst e;obtain⟨O,E,F⟩:=C i l hi;obtain⟨G,A,I⟩:=F;obtain⟨J,K,rfl⟩:=oL A;have c:=p.cells (g:=g) rfl i _ E;rw[Yc,v4]at c;exact⟨g,J,K,rfl,c,Ms.of ⟨G,A,I⟩ (y5 _)⟩
def U9 {α:Type}(L:List UInt8)(W:α->List UInt8)(a:List α)(i:Nat):List UInt8:=(L++ZA 1 a.length)++(a.take i).flatMap W
theorem P1 {α}(L W)(a:List α):U9 L W a 0=L++ZA 1 a.length:=by simp[U9]
theorem Rt {α L W a i}{x:α}(h:a[i]?=V x):U9 L W a (i+1)=U9 L W a i++W x:=by
 unfold U9;rw[Rc W h];simp only[E]
theorem MW {α L W}{a:List α}{i}(h:a.length=i):U9 L W a i=L++(ZA 1 a.length++a.flatMap W):=by
 unfold U9;rw[z5 (by omega),E]
theorem MX {α L W a i}{x:α}(h:a[i]?=V x):(U9 L W a i++W x).length<=(L++(ZA 1 a.length++a.flatMap W)).length:=by
 rw[<-Rt h];unfold U9;have:=P0 W a (i+1);simp only[z4];omega
theorem Eu (w O t ra rc na nc pa pc xp yp lo)(h:uv w O t ra rc na nc pa pc xp yp lo)(hw:t.Wr)(hl:(XF t).length<=199992)(hH:LP w):
  z3 Y 40 #[J (V ⟨O,0,I⟩)] w fun e w'=>e=G (H ⟨(WS (XF t)).toArray⟩)/\F0 w w':=by
 have K0:=hw.r6;have L0:=hw.n8;have hp:=hw.pl.2;obtain⟨P,g0⟩:∃P,ZA 1 t.rts.length++t.rts.flatMap WR=P:=⟨_,rfl⟩;obtain⟨Q,R⟩:∃Q,P++(ZA 1 t.nms.length++t.nms.flatMap Wx)=Q:=⟨_,rfl⟩;obtain⟨L3,S⟩:∃L3,Q++(ZA 1 t.prs.length++t.prs.flatMap U8)=L3:=⟨_,rfl⟩
 have hB:XF t=L3++t.root.wr:=by unfold XF;rw[<-S,<-R,<-g0];simp only[E]
 have M0:L3.length<=199992:=by rw[hB,lA]at hl;omega
 have N0:Q.length<=199992:=by rw[<-S,lA]at M0;omega
 have i1:P.length<=199992:=by rw[<-R,lA]at N0;omega
 obtain⟨B,T⟩:∃B,w.heap.size=B:=⟨_,rfl⟩
 have O0:M (O<B):=by show _<_;rw[<-T];exact(iA.1 h.bx).1
 have P0:=(Vx w (D #[Z I 0 0] 145)).1;have Q0:M (Y6 (w.alloc (D #[Z I 0 0] 145)) B []):=⟨⟨_,by rw[<-T];exact aN w _,oZ _ _ _ _⟩,by simp⟩;have HH:=Za h;have i0:=Za hw;have R0:=Za hH;have n0:=Za hB;have o0:=Za g0;have p0:=Za R;have q0:=Za S;have c:=Za T
 have HC:M (∀W,Fr (fun k=>B<=k) w W->W.cell? ⟨O,0,I⟩=V (Z ra t.rts.length rc)/\W.cell? ⟨O,1,I⟩=V (Z na t.nms.length nc)/\W.cell? ⟨O,2,I⟩=V (Z pa t.prs.length pc)/\W.cell? ⟨O,3,I⟩=V (J xp)/\W.cell? ⟨O,4,I⟩=V (U F (yp:Nat))):=fun W hf=>by
  have e:=hf.whole h.bx (by have:=O0.o;show¬B<=O;omega);exact⟨Zc e 0,Zc e 1,Zc e 2,Zc e 3,Zc e 4⟩
 obtain⟨n1,X⟩:∃n,t.rts.length=n:=⟨_,rfl⟩;obtain⟨n2,a0⟩:∃n,t.nms.length=n:=⟨_,rfl⟩;obtain⟨n3,e0⟩:∃n,t.prs.length=n:=⟨_,rfl⟩;rw[X,a0,e0]at HC;rw[X]at K0;rw[a0]at L0;rw[e0]at hp;have j0:=Za X;have k0:=Za a0;have l0:=Za e0;clear h hw hH hB g0 R S X a0 e0;go_enter Tryz.func40,Tryz.ntmps40;go_upto_region 2 with fail;generalize w.alloc _=w1 at*;clear T;have r0:M (Fr (fun k=>B<=k) w w1):=P0.o.mono;obtain⟨z,c1,A,C,K⟩:=HC.o _ r0.o;go_wp2_with fail;refine(XZ w1 B [] 1 n1 _ _ Q0.o (by omega) rfl rfl (by simp)).mono ?_;rintro e w2 ⟨rfl,s0,t0⟩;have S0:=Za s0;have v0:=Za (r0.o.trans (Wf.up t0));clear s0 t0 z c1 A C K;obtain⟨z,c1,A,C,K⟩:=HC.o _ v0.o;go_wp2_with fail
 go_loopg [24] n1 (fun mm iv wr=>∃i:Nat,i<=n1/\mm=n1-i/\iv=U F (i:Nat)/\M (Y6 wr B (U9 [] WR t.rts i))/\M (Fr (fun k=>B<=k) w wr))
 case atStart=>exact⟨0,y8 _,rfl,rfl,by show Y6 _ _ _;rw[P1,j0.o];exact S0.o,v0⟩
 obtain⟨i,w0,rfl,rfl,b,a⟩:=hrel;by_cases q:i<n1
 ·have u:(i:Int)<(n1:Int):=by omega
  obtain⟨r,l⟩:∃r,t.rts[i]?=V r:=⟨_,gE (by rw[j0.o];exact q)⟩;obtain⟨g,e1,d0,d1,d2⟩:=HH.o.rt i r l;subst e1;have b0:=Wy (y6 c.o) a.o d0;have b1:=Wy (y6 c.o) a.o d1;have b2:=Wy (y6 c.o) a.o d2;have N:=Za (fun W (hf:F0 wr W)=>Gl W B _ r (b.o.fr hf) (q3 (MX l) (by rw[j5,o0.o];omega)));have HS:=Za (Rt (L:=[]) (W:=WR) l);unfold ua at N;have j1:=bL wr _ b0;clear d0 d1 d2 l;go_wp2_with fail;refine(N.o _ (Zt.alloc _)).mono ?_;rintro e w3 ⟨rfl,d,f⟩;have x:M (Fr (fun k=>B<=k) w w3):=a.o.trans (Fr.trans (Wf.up (Wf.of (Zt.alloc _))) (Wf.up f))
  have y:M (Y6 w3 B (U9 [] WR t.rts (i+1))):=by
   show Y6 _ _ _
   rw[HS.o];exact d
  clear d f;go_wp2_with fail;go_roundg (n1-(i+1))
  case measure=>omega
  exact⟨i+1,by omega,rfl,by go_num,y,x⟩
 have e:i=n1:=by omega
 subst e
 have u:¬(i:Int)<(i:Int):=by omega
 have T0:M (Y6 wr B P):=by
  have e:=b.o;rw[MW j0.o,j5,o0.o]at e;exact e
 obtain⟨z,c1,A,C,K⟩:=HC.o _ a.o;clear b;generalize wr=w4 at*;have V0:=Za a.o;clear a;go_wp2_with fail;refine(XZ w4 B P 1 n2 _ _ T0.o (by omega) rfl rfl (by omega)).mono ?_;rintro e w5 ⟨rfl,x0,y0⟩;have W0:=Za x0;have A0:=Za (V0.o.trans (Wf.up y0));clear x0 y0 z c1 A C K;obtain⟨z,c1,A,C,K⟩:=HC.o _ A0.o;go_wp2_with fail
 go_loopg [44] n2 (fun mm iv wr=>∃i:Nat,i<=n2/\mm=n2-i/\iv=U F (i:Nat)/\M (Y6 wr B (U9 P Wx t.nms i))/\M (Fr (fun k=>B<=k) w wr))
 case atStart=>exact⟨0,y8 _,rfl,rfl,by show Y6 _ _ _;rw[P1,k0.o];exact W0.o,A0⟩
 obtain⟨i,w0,rfl,rfl,b,a⟩:=hrel;by_cases q:i<n2
 ·have u:(i:Int)<(n2:Int):=by omega
  obtain⟨s,l⟩:∃r,t.nms[i]?=V r:=⟨_,gE (by rw[k0.o];exact q)⟩;obtain⟨g,e1,d0⟩:=HH.o.nm i s l;subst e1;have b0:=Wy (y6 c.o) a.o d0;have N:=Za (KM wr B _ s b.o (q3 (MX l) (by rw[p0.o];omega)));have HS:=Za (Rt (L:=P) (W:=Wx) l);clear d0 l;go_wp2_with fail;refine N.o.mono ?_;rintro e w3 ⟨rfl,d,f⟩;have x:=Za (a.o.trans (Wf.up f))
  have y:M (Y6 w3 B (U9 P Wx t.nms (i+1))):=by
   show Y6 _ _ _
   rw[HS.o];exact d
  clear d f;go_wp2_with fail;go_roundg (n2-(i+1))
  case measure=>omega
  exact⟨i+1,by omega,rfl,by go_num,y,x⟩
 have e:i=n2:=by omega
 subst e
 have u:¬(i:Int)<(i:Int):=by omega
 have X0:M (Y6 wr B Q):=by
  have e:=b.o;rw[MW k0.o,p0.o]at e;exact e
 obtain⟨z,c1,A,C,K⟩:=HC.o _ a.o;clear b;generalize wr=w6 at*;have Y0:=Za a.o;clear a;go_wp2_with fail;refine(XZ w6 B Q 1 n3 _ _ X0.o (by omega) rfl rfl (by omega)).mono ?_;rintro e w7 ⟨rfl,B0,C0⟩;have Z0:=Za B0;have D0:=Za (Y0.o.trans (Wf.up C0));clear B0 C0 z c1 A C K;obtain⟨z,c1,A,C,K⟩:=HC.o _ D0.o;go_wp2_with fail
 go_loopg [64] n3 (fun mm iv wr=>∃i:Nat,i<=n3/\mm=n3-i/\iv=U F (i:Nat)/\M (Y6 wr B (U9 Q U8 t.prs i))/\M (Fr (fun k=>B<=k) w wr))
 case atStart=>exact⟨0,y8 _,rfl,rfl,by show Y6 _ _ _;rw[P1,l0.o];exact Z0.o,D0⟩
 obtain⟨i,w0,rfl,rfl,b,a⟩:=hrel;by_cases q:i<n3
 ·have u:(i:Int)<(n3:Int):=by omega
  obtain⟨p,l⟩:∃r,t.prs[i]?=V r:=⟨_,gE (by rw[l0.o];exact q)⟩;obtain⟨g,qa,qc,e1,d0,dp⟩:=HH.o.pr i p l;subst e1;have b0:=Wy (y6 c.o) a.o d0;have E0:=i0.o.pr p (mG l);obtain⟨pn,m0⟩:∃n,p.length=n:=⟨_,rfl⟩;rw[m0]at b0;have N:=Za (JY w wr B _ _ qa pn qc t.rts.length t.nms.length p (y6 c.o) a.o dp E0.2.2.1 m0 (by omega) b.o (q3 (MX l) (by rw[q0.o];omega)));have HS:=Za (Rt (L:=Q) (W:=U8) l);clear d0 l dp E0 m0;go_wp2_with fail;refine N.o.mono ?_;rintro e w3 ⟨rfl,d,f⟩;have x:=Za (a.o.trans (Wf.up f))
  have y:M (Y6 w3 B (U9 Q U8 t.prs (i+1))):=by
   show Y6 _ _ _
   rw[HS.o];exact d
  clear d f;go_wp2_with fail;go_roundg (n3-(i+1))
  case measure=>omega
  exact⟨i+1,by omega,rfl,by go_num,y,x⟩
 have e:i=n3:=by omega
 subst e
 have u:¬(i:Int)<(i:Int):=by omega
 have a1:M (Y6 wr B L3):=by
  have e:=b.o;rw[MW l0.o,q0.o]at e;exact e
 obtain⟨z,c1,A,C,K⟩:=HC.o _ a.o;clear b;generalize wr=w8 at*;have G0:=Za a.o;clear a;have N:=Za (KN w B lo t.prs.length (y6 c.o) i0.o.pl.2 t.root w8 L3 _ i0.o.lf HH.o.tr G0.o a1.o (by rw[<-n0.o];omega));rw[<-n0.o]at N;go_wp2_with fail;refine N.o.mono ?_;rintro e w9 ⟨rfl,H0,I0⟩;obtain⟨v,hb,ho⟩:=H0.bx;obtain⟨m,hm⟩:∃m,(XF t).length=m:=⟨_,rfl⟩;rw[hm]at ho;obtain⟨oa,oc,e⟩:=oL ho;subst e;have z0:=Zc hb 0;have f1:=Za (G0.o.trans (Wf.up I0));have HO:=Za ho;have HM:=Za hm;clear H0 I0 hb ho hm N z c1 A C K
 have g1:(convert 50 9 (Z oa m oc)).run Y w9=.ok (H ⟨(XF t).toArray⟩) w9:=by
  have hm:=HM.o
  have h0:0<m:=by
   rw[<-hm];unfold XF;simp only[z4,Zi];omega
  obtain⟨g,cap,e,_,_⟩:=HO.o.form h0;injection e with e _ _;subst e;subst hm;refine run_convert_bytes_back w9 50 9 5 ⟨g,0,I⟩ oc (XF t) Tryz.underlying50 Tryz.underlying5 Tryz.underlying9 (fun j hj=>?_);exact HO.o.cells (g:=g) rfl j _ (by unfold Rb;rw[x4,gE hj];rfl)
 have J0:M (F0 w w9):=(Fr.refl _ w).monoNew f1.o (fun k hk=>.inr (by rw[c.o];exact hk));go_wp2_with fail;refine(Et ⟨(XF t).toArray⟩ w9 (by show(XF t).length<=_;omega) (R0.o.fr J0.o)).mono ?_;rintro e k1 ⟨rfl,f0⟩;have h1:=Za (J0.o.trans f0);clear f0 g1 z0;go_wp2_with fail;go_ret;exact⟨rfl,h1.o⟩
def vN (w:z6)(T:Nat)(t:LK):Prop:=∃a b c d,w.cell? ⟨T,1,I⟩=V (J (V ⟨a,0,I⟩))/\OR b w a t.rts c d t.nms t.prs t.root
theorem KO (w T t)(h:vN w T t)(a:t.Wr)(b:(XF t).length<=199992)(c:LP w):
  z3 Y 23 #[J (V ⟨T,0,I⟩)] w fun e w'=>e=G (H ⟨(WS (XF t)).toArray⟩)/\F0 w w':=by
 obtain⟨i,j,k,l,x,d⟩:=h;obtain⟨m,n,p,q,r,s,f⟩:=d.tm;have u:=Za (Eu w i t k l m n p q r s j f a b c);clear d f a b c;go_enter Tryz.func23,Tryz.ntmps23;go_wp2_with fail;refine u.o.mono ?_;rintro e y ⟨rfl,g⟩;have v:=Za g;clear g;go_wp2_with fail;go_ret;exact⟨rfl,v.o⟩
def Ev (w:z6)(T:Nat):Prop:=∃a,w.cell? ⟨T,0,I⟩=V (J (V ⟨a,0,I⟩))/\w.heap[a]?=V (D #[Z I 0 0,Z I 0 0] 89)
theorem Ev.fr {w w' T}(h:Ev w T)(a:F0 w w'):Ev w' T:=by
 obtain⟨c,b,d⟩:=h;exact⟨c,(a.cell (p:=⟨T,0,I⟩) (bL w _ b)).trans b,a.whole d⟩
theorem MY (w a)(h:w.cell? ⟨a,1,I⟩=V (Z I 0 0)):z3 Y 39 #[J (V ⟨a,0,I⟩)] w fun e w'=>e=G (Z I 0 0)/\w'=w:=by
 go_enter Tryz.func39,Tryz.ntmps39;go_wp2_with fail
 go_loopg [3,15] 0 (fun b v c wr=>b=0/\v=Z I 0 0/\c=U F 0/\M (wr=w))
 case atStart=>exact⟨rfl,rfl,rfl,rfl⟩
 obtain⟨rfl,rfl,rfl,d⟩:=hrel;go_wp2_with fail;go_ret;exact⟨rfl,d.o⟩
theorem Ew (w a)(h:w.cell? ⟨a,1,I⟩=V (Z I 0 0)):z3 Y 140 #[J (V ⟨a,0,I⟩)] w fun e w'=>e=G (Z I 0 0)/\w'=w:=by
 go_enter Tryz.func140,Tryz.ntmps140;go_wp2_with fail
 go_loopg [3,11] 0 (fun b v c wr=>b=0/\v=Z I 0 0/\c=U F 0/\M (wr=w))
 case atStart=>exact⟨rfl,rfl,rfl,rfl⟩
 obtain⟨rfl,rfl,rfl,d⟩:=hrel;go_wp2_with fail;go_ret;exact⟨rfl,d.o⟩
theorem MZ (w:z6)(T:Nat)(h:Ev w T):z3 Y 20 #[J (V ⟨T,0,I⟩)] w fun e w'=>e=G (Z I 0 0)/\w'=w:=by
 obtain⟨b,f,c⟩:=h;have d:=Za (MY w b (Zc c 1));go_enter Tryz.func20,Tryz.ntmps20;go_wp2_with fail;refine d.o.mono ?_;rintro e g ⟨rfl,a⟩;replace a:=a.symm;subst a;go_wp2_with fail;go_ret;exact⟨rfl,rfl⟩
theorem Ex (w:z6)(T:Nat)(h:Ev w T):z3 Y 89 #[J (V ⟨T,0,I⟩)] w fun e w'=>e=G (Z I 0 0)/\w'=w:=by
 obtain⟨b,f,c⟩:=h;have d:=Za (Ew w b (Zc c 1));go_enter Tryz.func89,Tryz.ntmps89;go_wp2_with fail;refine d.o.mono ?_;rintro e g ⟨rfl,a⟩;replace a:=a.symm;subst a;go_wp2_with fail;go_ret;exact⟨rfl,rfl⟩
theorem P2 (w b c):z3 Y 59 #[J (V ⟨b,0,I⟩),Z I 0 c] w fun e w'=>e=G (.tuple #[])/\w'=w:=by
 go_enter Tryz.func59,Tryz.ntmps59;go_wp2_with fail
 go_loopg [8] 0 (fun a d wr=>a=0/\d=U F 0/\M (wr=w))
 case atStart=>exact⟨rfl,rfl,rfl⟩
 obtain⟨rfl,rfl,f⟩:=hrel;go_wp2_with fail
 go_end0
 exact⟨rfl,f.o⟩
theorem JZ (w b)(h:w.cell? ⟨b,1,I⟩=V (Z I 0 0)):z3 Y 61 #[J (V ⟨b,0,I⟩)] w fun e w'=>e=G (H ⟨#[]⟩)/\F0 w w':=by
 have a:=fun w=>Lib.run_unsafeSliceData_nil (P:=Y) w #[50] 201 0 0
 have c:=fun w=>Lib.run_unsafeString_none (P:=Y) w 201 3 9 I
 go_enter Tryz.func61,Tryz.ntmps61;go_wp2_with fail
 go_region
 all_goals
  go_wp2_with fail;go_ret;exact⟨rfl,Zt.drew⟩
theorem Ey (w d)(h:w.heap[d]?=V (D #[Z I 0 0,Z I 0 0] 89)):z3 Y 33 #[J (V ⟨d,0,I⟩)] w fun e w'=>e=G (H ⟨#[]⟩)/\F0 w w':=by
 have a:M (F0 w (w.alloc (D #[J I,Z I 0 0] 116))):=Zt.alloc _;have g:=Za (bC (aN w (D #[J I,Z I 0 0] 116)) 1 _ rfl);have f:=Za (a.o.whole h);have i:=Za (fun W b=>P2 W b 0);go_enter Tryz.func33,Tryz.ntmps33;go_upto_region 3 with fail;generalize w.alloc _=w0 at*;generalize w.heap.size=b at*;have p:=Zc f.o 0;have c1:=Zc f.o 1;go_wp2_with fail
 go_loopg [4,12] 0 (fun j v k wr=>j=0/\v=U F 0/\k=U F 0/\M (wr=w0))
 case atStart=>exact⟨rfl,rfl,rfl,rfl⟩
 obtain⟨rfl,rfl,rfl,l⟩:=hrel;have c:=l.o.symm;subst c;go_wp2_with fail;refine(i.o _ b).mono ?_;rintro e q ⟨rfl,c⟩;replace c:=c.symm;subst c;go_wp2_with fail;refine(JZ _ b g.o).mono ?_;rintro e w2 ⟨rfl,m⟩;have n:=Za (a.o.trans m);go_wp2_with fail;go_ret;exact⟨rfl,n.o⟩
theorem Ez (w T)(h:Ev w T):z3 Y 17 #[J (V ⟨T,0,I⟩)] w fun e w'=>e=G (H ⟨#[]⟩)/\F0 w w':=by
 obtain⟨a,g,b⟩:=h;have c:=Za (Ey w a b);go_enter Tryz.func17,Tryz.ntmps17;go_wp2_with fail;refine c.o.mono ?_;rintro e i ⟨rfl,d⟩;have f:=Za d;go_wp2_with fail;go_ret;exact⟨rfl,f.o⟩
def LQ (w:z6)(T:Nat)(t:LK):Prop:=Ev w T/\∃a b c d,w.cell? ⟨T,1,I⟩=V (J (V ⟨a,0,I⟩))/\OR b w a t.rts c d t.nms t.prs t.root
theorem LQ.fr {w w' T t}(h:LQ w T t)(a:F0 w w'):LQ w' T t:=by
 obtain⟨c,d,e,f,g,b,i⟩:=h;exact⟨c.fr a,d,e,f,g,(a.cell (p:=⟨T,1,I⟩) (bL w _ b)).trans b,i.fr a⟩
theorem DC {l t}(h:RY l=V t):t.Ok:=by
 unfold RY at h
 split at h
 ·cases h
 exact zn h
