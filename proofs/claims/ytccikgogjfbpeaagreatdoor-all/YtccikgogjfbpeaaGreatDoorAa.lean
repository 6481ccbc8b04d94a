import Derived.WalkKit
import Derived.Deep.AppendLies
open List renaming getD_eq_getElem?_getD->I,getElem?_append_right->J,getElem?_eq_some_iff->V,drop_eq_getElem_cons->Y,getElem?_eq_getElem->U,drop_of_length_le->O,mem_of_getElem?->E,length_append->H
open Go.World renaming cell?_setCell_other->S,cell?_setCell_same->Z,block_lt_of_cell?->K,ownsRow_nil->B
namespace Go.Proofs.YtccikgogjfbpeaaGreatDoor
set_option maxRecDepth 30000
set_option maxHeartbeats 8000000
open RowKit
theorem Za {p}(h:p):RowKit.Hid p:=h
theorem _root_.Go.RowKit.Hid.o {p:Prop}(h:Hid p):p:=h
theorem bL:type_of% @K:=@K
theorem cO:type_of% @S:=@S
theorem cS:type_of% @Z:=@Z
theorem aN:type_of% @heap_alloc_new:=@heap_alloc_new
theorem gE:type_of% @U:=@U
theorem iG:type_of% @V:=@V
theorem iA:type_of% @Array.getElem?_eq_some_iff:=@Array.getElem?_eq_some_iff
theorem nL:type_of% @Nat.lt_of_lt_of_le:=@Nat.lt_of_lt_of_le
theorem mG:type_of% @E:=@E
theorem gD:type_of% @I:=@I
theorem aR:type_of% @J:=@J
theorem oZ:type_of% @B:=@B
theorem dL:type_of% @O:=@O
theorem dC:type_of% @Y:=@Y
theorem lA:type_of% @H:=@H
theorem oB:type_of% @ownsRow_setCell_below:=@ownsRow_setCell_below
theorem Bp {P f a w v}{R:World->Prop}{Q:Ending->World->Prop}(h:Calls P f a w fun e b=>e=v/\R b)(k:∀b,R b->Q v b):Calls P f a w Q:=h.mono (by rintro e b ⟨rfl,d⟩;exact k b d)
theorem ad{α}(x:α):∃n,x=n:=⟨_,rfl⟩
theorem ae{α}(x:α):∃n,n=x:=⟨_,rfl⟩
theorem af(i n:Nat)(h:i<n:=by omega):(i:Int)<(n:Int):=by omega
theorem ai(i n:Nat)(h:¬i<n:=by omega):¬(i:Int)<(n:Int):=by omega
theorem aj{a p:Prop}(x:a)(h:a->p:=by intro;omega):p:=h x
theorem ak{a b p:Prop}(x:a)(y:b)(h:a->b->p:=by intro _ _;omega):p:=h x y
theorem az{p:Prop}(h:p:=by omega):p:=h
theorem aA{p:Prop}(h:p:=by simp):p:=h
theorem aB{p:Prop}(h:p:=by decide):p:=h
theorem aC{p:Prop}(h:p:=by kernel_rfl):p:=h
theorem aD{p:Prop}(h:p:=by rfl):p:=h
theorem aE{p:Prop}(h:p:=by go_num):p:=h
theorem aF{p:Prop}(h:p:=by simp;omega):p:=h
theorem aG{p:Prop}(h:p:=by assumption):p:=h
theorem aI{p:Prop}(h:p:=by constructor<;>omega):p:=h
theorem aK{p:Prop}(h:p:=by unfold Addr.add;split<;>simp_all):p:=h
theorem aM{p:Prop}(h:p:=by unfold maxLen;omega):p:=h
theorem aO{p:Prop}(h:p:=by dsimp only;omega):p:=h
theorem aP{p:Prop}(h:p:=by simp[go_sem]):p:=h
theorem aQ{p:Prop}(h:p:=by show _=_;omega):p:=h
theorem aS{p:Prop}(h:p:=by show _<=_;omega):p:=h
theorem aU{p:Prop}(h:p:=by exact fun _ _ _ h=>h):p:=h
theorem ao {P:Program}{w:World}{ops rest o a Q}{s x:Operand}{t:TypeId}(base:Nat){e:TypeId}{z:Value}{d b:Nat}(hI:(P.info? e).map (fun i=>(i.zero,i.size,i.bytes))=some (some z,d,b))(ht:P.underlying t=some (.slice e))(v:Value)(n:Nat)(xs:List Value)(hown:w.ownsRow base e d v n xs)(ad:Addr)(news:List Value)(hn:∀j u,news[j]?=some u->w.cell? (ad.add j)=some u)(h:∀g cap w',w'.ownsRow base e d (.slice (some ⟨g,0,none⟩) (n+1) cap) (n+1) (xs++news)->w.grownBy w' v.ownBlock->(v.ownBlock=some g\/g=w.heap.size)->g<w'.heap.size->wpList P ops Q rest (a.put o.dst (.slice (some ⟨g,0,none⟩) (n+1) cap)) w')(k1:∀u∈news,u.oneCell'=true:=by simp[Value.oneCell'])(k2:n+1<=maxLen:=by unfold maxLen;omega)(k3:(n+1)*b<=140737488355328:=by omega)(k4:base<=w.heap.size:=by first|omega|(simp;omega))(g1:o.guard=none:=by rfl)(g2:o.op=.call {callee:=.builtin .append,args:=#[s,x],argTypes:=#[t,t]}:=by rfl)(g3:a.eval s=v:=by rfl)(g4:a.eval x=.slice (some ad) 1 1:=by rfl)(g5:news.length=1*d:=by rfl)(g6:z.cells.size=d:=by rfl)(g7:0<d:=by decide):wpList P ops Q (o::rest) a w:=by
 obtain⟨i,h1,h2,h3,h4⟩:=info_parts hI;exact wpList_append_lies _ g1 s x t g2 base e i z d b ht h1 h2 h3 h4 g6 g7 v n xs g3 hown ad 1 1 news g4 g5 hn k1 (by decide) k2 k3 k4 _ rfl h
theorem o{p:Prop}(h:p):RowKit.Hid p:=h
theorem z{p:Prop}(h:p:=by omega):p:=h
theorem y{p:Prop}(h:p:=by simp):p:=h
theorem n{p:Prop}(h:p:=by kernel_rfl):p:=h
theorem b{p:Prop}(h:p):RowKit.Hid p:=h
theorem l{p:Prop}(h:p):RowKit.Hid p:=h
