/- The plain text of a book: the library's contracts; padded. The plain text of a book: plainNumbers. The plain text of a book: plainAction. -/
import Derived.Test.YtccikgogjfbpeaaGreatDoorShelf
import Derived.Test.YtccikgogjfbpeaaGreatDoorZa
import Derived.Deep.RegionHeld3
import Derived.Lib.ItoaMem
import Derived.Lib.AppendIntMem
import Derived.Lib.ItoaLen
namespace Go.Proofs.YtccikgogjfbpeaaGreatDoor
open Go.RowKit

/-- The library's table of powers of ten lies as its text lays it. -/
def Tab (w : World) : Prop := Lib.TabIs Tryz.prog w "internal/strconv.uint64pow10" .u64 Lib.pow10Tab
theorem Tab.fr {w w' : World} (h : Tab w) (hf : Fr (fun _ => False) w w') : Tab w' := Lib.tabBelow_of_tabIs h w' (hf.below (Nat.le_refl _) (by simp))
theorem Tab.below {w w' : World} (h : Tab w) {B : Nat} (hB : w.heap.size ≤ B) (hf : Below B w w') : Tab w' := Lib.tabBelow_of_tabIs h w' ⟨hf.os, hf.tape, hf.output, hf.size, fun k hk => hf.block k (Nat.lt_of_lt_of_le hk hB)⟩
def strB (l : List UInt8) : ByteArray := ⟨l.toArray⟩
theorem strB_data (l : List UInt8) : (strB l).data.toList = l := rfl
theorem strB_size (l : List UInt8) : (strB l).size = l.length := rfl
theorem Itoa_any (n : Nat) (w : World) (hn : n ≤ 9223372036854775807) (ht : Tab w) : Calls Tryz.prog 106 #[.int .i64 (n : Int)] w fun e w' => e = .returned (.string (strB (decN n))) ∧ Fr (fun _ => False) w w' :=
 (Tryz.strconv_Itoa (n : Int) (by omega) (by omega) w ht).mono fun e w' ⟨he, k, os, hw⟩ => by
  rw [Lib.itoa_nonneg] at he
  refine ⟨he, ?_⟩
  subst hw
  refine ⟨rfl, rfl, rfl, ?_, fun i hi _ => ?_⟩
  ·show w.heap.size ≤ (w.heap ++ os).size
   simp
  ·show (w.heap ++ os)[i]? = w.heap[i]?
   exact Array.getElem?_append_left hi
theorem decN_len (n : Nat) (h : n < 1000000000) : (decN n).length ≤ 21 := by
 have := Lib.itoa_length_le (n : Int) (by omega) (by omega)
 rw [Lib.itoa_nonneg] at this
 exact this
/-- A builder in memory: block b; its bytes from B on. -/
def Bd (w : World) (B b : Nat) (l : List UInt8) : Prop := Lib.IsBuilderF 116 5 B b (Lib.byteCells l) w
theorem bdAt_fr {T e : TypeId} {B b : Nat} {p : Value} {bs : List Value} {w w' : World} (h : Lib.BuilderAtF T e B b p bs w) (hf : Fr (fun _ => False) w w') : Lib.BuilderAtF T e B b p bs w' := by
 obtain ⟨hB, v, hb, ⟨ho1, ho2⟩, hne⟩ := h
 refine ⟨hB, v, hf.whole hb (by simp), ⟨ho1, ?_⟩, hne⟩
 rcases ho2 with hn | ⟨g, cap, cur, fz, e1, e2, e3, e4⟩
 ·exact .inl hn
 ·exact .inr ⟨g, cap, cur, fz, e1, e2, hf.whole e3 (by simp), e4⟩
theorem Bd.fr {w w' : World} {B b : Nat} {l : List UInt8} (h : Bd w B b l) (hf : Fr (fun _ => False) w w') : Bd w' B b l :=
 h.elim (fun x => .inl (bdAt_fr x hf)) (fun x => .inr (bdAt_fr x hf))
theorem Bd.lt {w : World} {B b : Nat} {l : List UInt8} (h : Bd w B b l) : B ≤ b ∧ b < w.heap.size :=
 h.elim (fun x => ⟨x.1, x.lt⟩) (fun x => ⟨x.1, x.lt⟩)
theorem write_any (B b : Nat) (l : List UInt8) (s : ByteArray) (w : World) (h : Bd w B b l) (hlen : l.length + s.size ≤ 140737488355328) (hBw : B ≤ w.heap.size) :
  Calls Tryz.prog 105 #[.pointer (some ⟨b, 0, none⟩), .string s] w fun e w' => e = .returned (.tuple #[.int .i64 s.size, .nilIface]) ∧ Bd w' B b (l ++ s.data.toList) ∧ Below B w w' ∧ Lib.OthersKept 5 (some b) w w' :=
 (Any.Builder_WriteString_k (ρ := Tryz.lays156_ren) { Tryz.lays156 with } Tryz.Builder_Extra_156 B b (Lib.byteCells l) s w h (by rw [Lib.byteCells_length]; exact hlen) hBw).mono fun e w' ⟨he, hb, hB, hk⟩ => by
  refine ⟨he, ?_, hB, hk⟩
  rw [Lib.strCells_eq] at hb
  have e2 : Lib.byteCells (l ++ s.data.toList) = Lib.byteCells l ++ Lib.byteCells s.data.toList := by unfold Lib.byteCells; rw [List.map_append]
  unfold Bd
  rw [e2]
  exact .inr hb
theorem bString_any (B b : Nat) (l : List UInt8) (w : World) (h : Bd w B b l) (hBw : B ≤ w.heap.size) :
  Calls Tryz.prog 61 #[.pointer (some ⟨b, 0, none⟩)] w fun e w' => e = .returned (.string (strB l)) ∧ Below B w w' :=
 (Tryz.Builder_String_any_k B b l w h hBw).mono fun _ _ ⟨he, _, hB, _⟩ => ⟨he, hB⟩
theorem repeat_zero (c : Nat) : Lib.repeatL [48] c = List.replicate c 48 := by
 induction c with
 | zero => rfl
 | succ c ih => rw [Lib.repeatL, ih]; rfl
theorem Repeat_any (c : Nat) (w : World) (hc : c ≤ 9) : Calls Tryz.prog 162 #[.string ⟨#[48]⟩, .int .i64 (c : Int)] w fun e w' => e = .returned (.string (strB (List.replicate c 48))) ∧ Fr (fun _ => False) w w' :=
 (Tryz.strings_Repeat ⟨#[48]⟩ c w (by omega) (by show 1 * c ≤ _; omega)).mono fun e w' ⟨he, hB⟩ => ⟨by rw [he]; show _ = Ending.returned (.string ⟨(List.replicate c 48).toArray⟩); rw [← repeat_zero], Fr.of_below hB⟩

set_option maxRecDepth 30000 in
theorem padded_any (n d : Nat) (w : World) (ht : Tab w) (hn : n < 1000000000) (hd : d ≤ 9) (hl : (decN n).length ≤ d) :
  Calls Tryz.prog 107 #[.int .i64 (n : Int), .int .i64 (d : Int)] w fun e w' => e = .returned (.string (strB (padL n d))) ∧ Fr (fun _ => False) w w' := by
 have HI : Hid (Calls Tryz.prog 106 #[.int .i64 (n : Int)] w fun e w' => e = .returned (.string (strB (decN n))) ∧ Fr (fun _ => False) w w') := Itoa_any n w (by omega) ht
 obtain ⟨t, hT⟩ : ∃ t, t = strB (decN n) := ⟨_, rfl⟩
 rw [← hT] at HI
 have hts : t.size = (decN n).length := by rw [hT]; rfl
 obtain ⟨k, hk⟩ : ∃ k, k = t.size := ⟨_, rfl⟩
 have hkd : k ≤ d := by omega
 have hks : t.size = k := hk.symm
 have hw : IntKind.i64.wrap ((d : Int) - (k : Int)) = ((d - k : Nat) : Int) := by rw [IntWalk.i64_in _ (by omega)]; omega
 have HT : Hid (t = strB (decN n)) := hT
 have HK : Hid (k = (decN n).length) := by show _ = _; omega
 have HR : Hid (∀ W, Calls Tryz.prog 162 #[.string ⟨#[48]⟩, .int .i64 ((d - k : Nat) : Int)] W fun e w' => e = .returned (.string (strB (List.replicate (d - k) 48))) ∧ Fr (fun _ => False) W w') := fun W => Repeat_any (d - k) W (by omega)
 have hz : (strB (List.replicate (d - k) 48)).size ≤ 9 := by rw [strB_size, List.length_replicate]; omega
 obtain ⟨u, hu⟩ : ∃ u, u = strB (List.replicate (d - k) 48) := ⟨_, rfl⟩
 rw [← hu] at HR hz
 have HU : Hid (u = strB (List.replicate (d - k) 48)) := hu
 clear hT hts hk hu hl ht
 go_enter Tryz.func107, Tryz.ntmps107
 go_wp2_with fail
 refine HI.out.mono ?_
 rintro e w1 ⟨rfl, hf⟩
 have HF1 : Hid (Fr (fun _ => False) w w1) := hf
 clear hf
 go_wp2_with fail
 refine (HR.out _).mono ?_
 rintro e w2 ⟨rfl, hf⟩
 have HF2 : Hid (Fr (fun _ => False) w w2) := HF1.out.trans hf
 clear hf
 go_wp2_with fail
 go_ret
 refine ⟨?_, HF2.out⟩
 have e : u ++ t = strB (padL n d) := by
  apply ByteArray.ext
  apply Array.ext'
  rw [HU.out, HT.out]
  simp [strB, padL, HK.out]
 rw [← e]
 rfl
end Go.Proofs.YtccikgogjfbpeaaGreatDoor

namespace Go.Proofs.YtccikgogjfbpeaaGreatDoor
open Go.RowKit

def strRow (l : List Bs) : List Value := l.map fun x => Value.string (strB x)
theorem strRow_snoc (l : List Bs) (x : Bs) : strRow (l ++ [x]) = strRow l ++ [.string (strB x)] := by unfold strRow; rw [List.map_append]; rfl
theorem flat_comma (r : List Bs) : (r.map ([44, 32] ++ ·)).flatten = r.flatMap fun u => 44 :: 32 :: u := by
 induction r with
 | nil => rfl
 | cons y r ih => rw [List.map_cons, List.flatten_cons, ih]; rfl
theorem join_comma (l : List Bs) : Lib.join l [44, 32] = commaN l := by
 cases l with
 | nil => rfl
 | cons x r => rw [Lib.join_cons, Lib.joinTail, flat_comma]; rfl
theorem comma_len (l : List Bs) (m : Nat) (h : ∀ x, x ∈ l → x.length ≤ m) : (commaN l).length ≤ l.length * (m + 2) := by
 have ht : ∀ r : List Bs, (∀ x, x ∈ r → x.length ≤ m) → (r.flatMap fun u => 44 :: 32 :: u).length ≤ r.length * (m + 2) := by
  intro r
  induction r with
  | nil => intro _; simp
  | cons y r ih =>
   intro hr
   have h1 := ih (fun x hx => hr x (by simp [hx]))
   have h2 := hr y (by simp)
   rw [List.flatMap_cons, List.length_append]
   simp only [List.length_cons]
   rw [Nat.add_mul]
   omega
 cases l with
 | nil => simp [commaN]
 | cons x r =>
  have h1 := ht r (fun x hx => h x (by simp [hx]))
  have h2 := h x (by simp)
  simp only [commaN]
  rw [List.length_append, List.length_cons, Nat.add_mul]
  omega
theorem ownsRow_cap {w : World} {base : Nat} {e : TypeId} {size : Nat} {v : Value} {n : Nat} {xs : List Value} (h : w.ownsRow base e size v n xs) (h0 : 0 < n) : ∃ g cap, v = .slice (some ⟨g, 0, none⟩) n cap ∧ base ≤ g ∧ g < w.heap.size ∧ n ≤ cap := by
 rcases h.2 with ⟨_, e⟩ | ⟨g, cap, cur, e1, e2, e3, e4, _⟩
 ·omega
 ·exact ⟨g, cap, e1, e2, (Array.getElem?_eq_some_iff.1 e3).1, e4⟩
/-- Names, or numbers, joined. -/
theorem Join_any (w : World) (base : Nat) (v : Value) (l : List Bs) (m : Nat) (h : w.ownsRow base 9 1 v l.length (strRow l)) (hl : l.length ≤ 4000) (hm : ∀ x, x ∈ l → x.length ≤ m) (hm2 : m ≤ 3000) :
  Calls Tryz.prog 163 #[v, .string ⟨#[44, 32]⟩] w fun e w' => e = .returned (.string (strB (commaN l))) ∧ Fr (fun _ => False) w w' := by
 by_cases h0 : 0 < l.length
 ·obtain ⟨g, cap, e, hb, hg, hc⟩ := ownsRow_cap h h0
  subst e
  have hz : ((l.map strB).map (·.data.toList)) = l := by rw [List.map_map]; exact List.map_id' l
  have hlen := comma_len l m hm
  have hlen2 : l.length * (m + 2) ≤ 4000 * 3002 := Nat.mul_le_mul hl (by omega)
  have := Tryz.strings_Join g 0 cap (l.map strB) ⟨#[44, 32]⟩ w (fun j x hj => by
   rw [List.getElem?_map] at hj
   cases hq : l[j]? with
   | none => rw [hq] at hj; cases hj
   | some y =>
    rw [hq] at hj
    simp only [Option.map_some, Option.some.injEq] at hj
    have := h.cells (g := g) rfl j (.string (strB y)) (by unfold strRow; rw [List.getElem?_map, hq]; rfl)
    rw [addr_add] at this
    rw [← hj]
    exact this) hg (by rw [List.length_map]; omega) (by rw [List.length_map]; exact hc) (by rw [hz]; show (Lib.join l [44, 32]).length ≤ _; rw [join_comma]; omega)
  rw [List.length_map] at this
  refine this.mono fun e w' ⟨he, hB⟩ => ⟨?_, Fr.of_below hB⟩
  rw [he, hz]
  show _ = Ending.returned (.string ⟨(commaN l).toArray⟩)
  rw [← join_comma]
 ·have e0 : l = [] := List.length_eq_zero_iff.1 (by omega)
  subst e0
  obtain ⟨a, c, e⟩ := ownsRow_len h
  subst e
  exact (Tryz.strings_Join_none a c ⟨#[44, 32]⟩ w).mono fun e w' ⟨he, hw⟩ => ⟨he, by rw [hw]; exact Fr.refl _ _⟩

set_option maxRecDepth 30000 in
set_option maxHeartbeats 1000000 in
theorem plainNumbers_any (w : World) (base : Nat) (v : Value) (l : List Nat) (h : w.ownsRow base 3 1 v l.length (intRow l)) (h0 : 0 < l.length) (hl : l.length ≤ 4000) (hx : ∀ x, x ∈ l → x < 1000000000) (ht : Tab w) :
  Calls Tryz.prog 108 #[v] w fun e w' => e = .returned (.string (strB (commaN (l.map decN)))) ∧ Fr (fun _ => False) w w' := by
 obtain ⟨ii, hi, hz0, hz1, hz2⟩ := info_parts Tryz.infoString
 obtain ⟨g, cap, rfl, hb, hgl, hcap⟩ := ownsRow_cap h h0
 have HCell : Hid (∀ j x, l[j]? = some x → w.cell? ⟨g, j, none⟩ = some (.int .i64 (x : Nat))) := by
  intro j x hj
  have := h.cells (g := g) rfl j (.int .i64 x) (by unfold intRow; rw [List.getElem?_map, hj]; rfl)
  rwa [addr_add, Nat.zero_add] at this
 have HT : Hid (Tab w) := ht
 have HX : Hid (∀ x, x ∈ l → x < 1000000000) := hx
 have HG : Hid (g < w.heap.size) := hgl
 obtain ⟨n, hn⟩ : ∃ n, l.length = n := ⟨_, rfl⟩
 have HN : Hid (l.length = n) := hn
 rw [hn] at hl h0 hcap ⊢
 clear h hx ht hn hb hgl
 go_enter Tryz.func108, Tryz.ntmps108
 go_wp2_with fail
 go_loopg [3, 5, 8] n (fun m o _ ix wr => ∃ k, k ≤ n ∧ m = n - k ∧ ix = .int .i64 (k : Nat) ∧ Hid (wr.ownsRow w.heap.size 9 1 o k (strRow ((l.map decN).take k))) ∧ Hid (Fr (fun _ => False) w wr))
 case atStart => exact ⟨0, Nat.zero_le _, rfl, rfl, World.ownsRow_nil _ _ _ _, Fr.refl _ _⟩
 case round =>
  obtain ⟨k, hk, rfl, rfl, HO, HF⟩ := hrel
  by_cases hlt : k < n
  ·obtain ⟨x, hxk⟩ : ∃ x, l[k]? = some x := ⟨_, List.getElem?_eq_getElem (by have := HN.out; omega)⟩
   have c0 : wr.cell? ⟨g, k, none⟩ = some (.int .i64 (x : Nat)) := (HF.out.cell (p := ⟨g, k, none⟩) HG.out (by simp)).trans (HCell.out k x hxk)
   have HTK : Hid ((l.map decN).take (k + 1) = (l.map decN).take k ++ [decN x]) := by show _ = _; rw [List.take_add_one, List.getElem?_map, hxk]; rfl
   have HI : Hid (Calls Tryz.prog 106 #[.int .i64 (x : Int)] wr fun e w' => e = .returned (.string (strB (decN x))) ∧ Fr (fun _ => False) wr w') := Itoa_any x wr (by have := HX.out x (List.mem_of_getElem? hxk); omega) (HT.out.fr HF.out)
   have hki : (k : Int) < (n : Int) := by omega
   clear hxk
   go_wp2_with fail
   refine HI.out.mono ?_
   rintro e w1 ⟨rfl, hf⟩
   have HF1 : Hid (Fr (fun _ => False) w w1) := HF.out.trans hf
   have HO1 : Hid (w1.ownsRow w.heap.size 9 1 u3 k (strRow ((l.map decN).take k))) := ownsRow_fr HO.out hf (by simp)
   have hs1 := HF1.out.size
   obtain ⟨t, hT⟩ : ∃ t, t = strB (decN x) := ⟨_, rfl⟩
   rw [← hT]
   have HTT : Hid (t = strB (decN x)) := hT
   clear hf c0 hT
   go_wp2_with (at_builtin; refine wpList_append_lies _ rfl (.tmp 12) (.tmp 15) 28 rfl w.heap.size 9 ii _ 1 16 Tryz.underlying28 hi hz0 hz1 hz2 rfl (by decide) u3 k (strRow ((l.map decN).take k)) rfl ?h1 ⟨w1.heap.size, 0, none⟩ 1 1 [.string t] rfl rfl ?h2 ?h3 (by decide) ?h4 ?h5 ?h6 _ rfl ?h7)
   case h1 => exact HO1.out.alloc _
   case h2 => exact World.news_of_block (heap_alloc_new w1 _)
   case h3 => simp [Value.oneCell']
   case h4 => unfold maxLen; omega
   case h5 => omega
   case h6 => first | omega | (simp; omega)
   case h7 =>
    intro g2 cap2 w5 hown hgrow _ _
    have hrow : ∀ k, u3.ownBlock = some k → w.heap.size ≤ k := fun k hk => (HO1.out.lt k hk).1
    have HO5 : Hid (w5.ownsRow w.heap.size 9 1 (.slice (some ⟨g2, 0, none⟩) (k + 1) cap2) (k + 1) (strRow ((l.map decN).take k) ++ [.string t])) := hown
    have HF5 : Hid (Fr (fun _ => False) w w5) := (HF1.out.alloc _).grown hgrow (fun k hk => Or.inr (hrow k hk))
    clear hgrow hown hrow
    go_wp2
    go_roundg (n - (k + 1))
    case measure => omega
    case rel =>
     refine ⟨k + 1, by omega, rfl, by go_num, ?_, HF5⟩
     show World.ownsRow _ _ _ _ _ _ _
     rw [HTK.out, strRow_snoc, ← HTT.out]
     exact HO5.out
  ·have hki : ¬ (k : Int) < (n : Int) := by omega
   have ek : k = n := by omega
   subst ek
   have HJ : Hid (Calls Tryz.prog 163 #[u3, .string ⟨#[44, 32]⟩] wr fun e w' => e = .returned (.string (strB (commaN (l.map decN)))) ∧ Fr (fun _ => False) wr w') := by
    have ho := HO.out
    rw [List.take_of_length_le (by rw [List.length_map]; have := HN.out; omega)] at ho
    have e := HN.out
    refine Join_any wr w.heap.size u3 (l.map decN) 21 (by rw [List.length_map, e]; exact ho) (by rw [List.length_map, e]; exact hl) (fun x hx => ?_) (by omega)
    obtain ⟨y, hy, rfl⟩ := List.mem_map.1 hx
    exact decN_len y (HX.out y hy)
   go_wp2_with fail
   refine HJ.out.mono ?_
   rintro e w2 ⟨rfl, hf⟩
   have HF2 : Hid (Fr (fun _ => False) w w2) := HF.out.trans hf
   clear hf
   go_wp2
   go_ret
   exact ⟨rfl, HF2.out⟩
end Go.Proofs.YtccikgogjfbpeaaGreatDoor

namespace Go.Proofs.YtccikgogjfbpeaaGreatDoor
open Go.RowKit

def actB (dc ch : Bool) (l : List Bs) : Bs := if dc then [100, 101, 99, 108, 105, 110, 101] else (if ch then [99, 104, 101, 97, 112, 101, 115, 116, 32] else []) ++ commaN l
theorem actB_eq (rts : List RouteM) (r : RuleM) : 32 :: actB r.decline r.cheapest (r.routes.map (nameAt rts)) = acJ rts r := by
 unfold actB acJ
 cases r.decline <;> cases r.cheapest <;> rfl
/-- A rule as a value. -/
def ruAgg (nm : ByteArray) (i1 i2 i3 i4 : Int) (ma : Option Addr) (mn mc : Nat) (has : Bool) (i7 i8 : Int) (ca : Option Addr) (cn cc : Nat) (dc ch : Bool) (pa : Option Addr) (pn pc : Nat) (i13 : Int) : Value :=
 .agg #[.string nm, .int .i64 i1, .int .i64 i2, .int .i64 i3, .int .i64 i4, .slice ma mn mc, .bool has, .int .i64 i7, .int .i64 i8, .slice ca cn cc, .bool dc, .bool ch, .slice pa pn pc, .int .i64 i13]
set_option maxRecDepth 30000 in
set_option maxHeartbeats 2000000 in
theorem plainAction_any (w : World) (Bb : Nat) (vr : Value) (rts : List RouteM) (base : Nat) (ps : List Nat) (nm : ByteArray) (i1 i2 i3 i4 : Int) (ma : Option Addr) (mn mc : Nat) (has : Bool) (i7 i8 : Int) (ca : Option Addr) (cn cc : Nat) (dc ch : Bool) (pa : Option Addr) (pc : Nat) (i13 : Int)
  (hb : w.cell? ⟨Bb, 0, none⟩ = some vr) (hr : w.ownsRow base 148 3 vr rts.length (rtRow rts)) (hp : w.ownsRow base 3 1 (.slice pa ps.length pc) ps.length (intRow ps)) (hl : ps.length ≤ 4000) (hpl : ∀ p, p ∈ ps → p < rts.length) (hnm : ∀ t, t ∈ rts → t.name.size ≤ 3000) (h6 : rts.length ≤ 6) :
  Calls Tryz.prog 109 #[.pointer (some ⟨Bb, 0, none⟩), ruAgg nm i1 i2 i3 i4 ma mn mc has i7 i8 ca cn cc dc ch pa ps.length pc i13] w fun e w' => e = .returned (.string (strB (actB dc ch (ps.map (nameAt rts))))) ∧ Fr (fun _ => False) w w' := by
 unfold ruAgg
 obtain ⟨ii, hi, hz0, hz1, hz2⟩ := info_parts Tryz.infoString
 obtain ⟨va, vc, hv⟩ := ownsRow_len hr
 subst hv
 have HBl : Hid (Bb < w.heap.size) := World.block_lt_of_cell? w _ hb
 have HPC : Hid (∀ j p, ps[j]? = some p → ∃ g, pa = some ⟨g, 0, none⟩ ∧ g < w.heap.size ∧ w.cell? ⟨g, j, none⟩ = some (.int .i64 (p : Nat))) := by
  intro j p hj
  obtain ⟨g, cap, e, _, hg, _⟩ := ownsRow_cap hp (by have := (List.getElem?_eq_some_iff.1 hj).1; omega)
  injection e with e1 e2 e3
  subst e1
  refine ⟨g, rfl, hg, ?_⟩
  have := hp.cells (g := g) rfl j (.int .i64 p) (by unfold intRow; rw [List.getElem?_map, hj]; rfl)
  rwa [addr_add, Nat.zero_add] at this
 have HRC : Hid (∀ j t, rts[j]? = some t → ∃ g, va = some ⟨g, 0, none⟩ ∧ g < w.heap.size ∧ w.cell? ⟨g, j * 3, none⟩ = some (.string t.name)) := by
  intro j t hj
  obtain ⟨g, cap, e, _, hg, hc⟩ := ownsRow_rt hr (by have := (List.getElem?_eq_some_iff.1 hj).1; omega)
  injection e with e1 e2 e3
  exact ⟨g, e1, hg, (hc j t hj).1⟩
 have HPL : Hid (∀ p, p ∈ ps → p < rts.length) := hpl
 have HNM : Hid (∀ t, t ∈ rts → t.name.size ≤ 3000) := hnm
 have HB0 : Hid (w.cell? ⟨Bb, 0, none⟩ = some (.slice va rts.length vc)) := hb
 obtain ⟨n, hn⟩ : ∃ n, ps.length = n := ⟨_, rfl⟩
 have HN : Hid (ps.length = n) := hn
 obtain ⟨nr, hnr⟩ : ∃ nr, rts.length = nr := ⟨_, rfl⟩
 have HNR : Hid (rts.length = nr) := hnr
 rw [hnr] at HB0 h6
 rw [hn] at hl ⊢
 clear hb hr hp hpl hnm hn hnr
 go_enter Tryz.func109, Tryz.ntmps109
 cases dc with
 | true =>
  go_wp2_with fail
  go_ret
  exact ⟨rfl, (Fr.refl _ _).alloc _⟩
 | false =>
  go_wp2_with fail
  have hn0 := heap_alloc_new w (.cells #[.string nm, .int .i64 i1, .int .i64 i2, .int .i64 i3, .int .i64 i4, .slice ma mn mc, .bool has, .int .i64 i7, .int .i64 i8, .slice ca cn cc, .bool false, .bool ch, .slice pa n pc, .int .i64 i13] 120)
  have HCH : Hid ((w.alloc (.cells #[.string nm, .int .i64 i1, .int .i64 i2, .int .i64 i3, .int .i64 i4, .slice ma mn mc, .bool has, .int .i64 i7, .int .i64 i8, .slice ca cn cc, .bool false, .bool ch, .slice pa n pc, .int .i64 i13] 120)).cell? ⟨w.heap.size, 11, none⟩ = some (.bool ch)) := block_cell hn0 11 _ rfl
  have HF0 : Hid (Fr (fun _ => False) w (w.alloc (.cells #[.string nm, .int .i64 i1, .int .i64 i2, .int .i64 i3, .int .i64 i4, .slice ma mn mc, .bool has, .int .i64 i7, .int .i64 i8, .slice ca cn cc, .bool false, .bool ch, .slice pa n pc, .int .i64 i13] 120))) := (Fr.refl _ _).alloc _
  clear hn0
  generalize w.alloc (.cells #[.string nm, .int .i64 i1, .int .i64 i2, .int .i64 i3, .int .i64 i4, .slice ma mn mc, .bool has, .int .i64 i7, .int .i64 i8, .slice ca cn cc, .bool false, .bool ch, .slice pa n pc, .int .i64 i13] 120) = W0 at *
  obtain ⟨X, hX⟩ : ∃ X, w.heap.size = X := ⟨_, rfl⟩
  rw [hX] at HCH ⊢
  clear hX
  go_loopg [5, 7, 14] n (fun m o _ ix wr => ∃ k, k ≤ n ∧ m = n - k ∧ ix = .int .i64 (k : Nat) ∧ Hid (wr.ownsRow W0.heap.size 9 1 o k (strRow ((ps.map (nameAt rts)).take k))) ∧ Hid (Fr (fun _ => False) W0 wr))
  case atStart => exact ⟨0, Nat.zero_le _, rfl, rfl, World.ownsRow_nil _ _ _ _, Fr.refl _ _⟩
  case round =>
   obtain ⟨k, hk, rfl, rfl, HO, HF⟩ := hrel
   have HFw : Hid (Fr (fun _ => False) w wr) := HF0.out.trans HF.out
   by_cases hlt : k < n
   ·obtain ⟨p, hpk⟩ : ∃ p, ps[k]? = some p := ⟨_, List.getElem?_eq_getElem (by have := HN.out; omega)⟩
    obtain ⟨g, hpa, hg, c0⟩ := HPC.out k p hpk
    rw [← HFw.out.cell (p := ⟨g, k, none⟩) hg (by simp)] at c0
    have hpn : p < nr := by have := HPL.out p (List.mem_of_getElem? hpk); have := HNR.out; omega
    obtain ⟨t, htp⟩ : ∃ t, rts[p]? = some t := ⟨_, List.getElem?_eq_getElem (by have := HNR.out; omega)⟩
    obtain ⟨gr, hva, hgr, r0⟩ := HRC.out p t htp
    rw [← HFw.out.cell (p := ⟨gr, p * 3, none⟩) hgr (by simp)] at r0
    have b0 : wr.cell? ⟨Bb, 0, none⟩ = some (.slice va nr vc) := (HFw.out.cell (p := ⟨Bb, 0, none⟩) HBl.out (by simp)).trans HB0.out
    rw [hva] at b0
    subst hpa
    have HTK : Hid ((ps.map (nameAt rts)).take (k + 1) = (ps.map (nameAt rts)).take k ++ [t.name.data.toList]) := by show _ = _; rw [List.take_add_one, List.getElem?_map, hpk]; simp [nameAt, htp]
    have hki : (k : Int) < (n : Int) := by omega
    have hpi : (p : Int) < (nr : Int) := by omega
    have hsz := HF.out.size
    clear hpk htp hva
    go_wp2_with (at_builtin; refine wpList_append_lies _ rfl (.tmp 18) (.tmp 27) 28 rfl W0.heap.size 9 ii _ 1 16 Tryz.underlying28 hi hz0 hz1 hz2 rfl (by decide) u5 k (strRow ((ps.map (nameAt rts)).take k)) rfl ?h1 ⟨wr.heap.size, 0, none⟩ 1 1 [.string t.name] rfl rfl ?h2 ?h3 (by decide) ?h4 ?h5 ?h6 _ rfl ?h7)
    case h1 => exact HO.out.alloc _
    case h2 => exact World.news_of_block (heap_alloc_new wr _)
    case h3 => simp [Value.oneCell']
    case h4 => unfold maxLen; omega
    case h5 => omega
    case h6 => first | omega | (simp; omega)
    case h7 =>
     intro g2 cap2 w5 hown hgrow _ _
     have hrow : ∀ k, u5.ownBlock = some k → W0.heap.size ≤ k := fun k hk => (HO.out.lt k hk).1
     have HO5 : Hid (w5.ownsRow W0.heap.size 9 1 (.slice (some ⟨g2, 0, none⟩) (k + 1) cap2) (k + 1) (strRow ((ps.map (nameAt rts)).take k) ++ [.string t.name])) := hown
     have HF5 : Hid (Fr (fun _ => False) W0 w5) := (HF.out.alloc _).grown hgrow (fun k hk => Or.inr (hrow k hk))
     clear hgrow hown hrow
     go_wp2
     go_roundg (n - (k + 1))
     case measure => omega
     case rel =>
      refine ⟨k + 1, by omega, rfl, by go_num, ?_, HF5⟩
      show World.ownsRow _ _ _ _ _ _ _
      rw [HTK.out, strRow_snoc]
      exact HO5.out
   ·have hki : ¬ (k : Int) < (n : Int) := by omega
    have ek : k = n := by omega
    subst ek
    have hch : wr.cell? ⟨X, 11, none⟩ = some (.bool ch) := (HF.out.cell (p := ⟨X, 11, none⟩) (World.block_lt_of_cell? W0 _ HCH.out) (by simp)).trans HCH.out
    have HLN : Hid (∀ x, x ∈ ps.map (nameAt rts) → x.length ≤ 3000) := fun x hx => by
     obtain ⟨p, hp, rfl⟩ := List.mem_map.1 hx
     unfold nameAt
     cases hq : rts[p]? with
     | none => simp
     | some t =>
      have := HNM.out t (List.mem_of_getElem? hq)
      simpa using this
    have HJ : Hid (Calls Tryz.prog 163 #[u5, .string ⟨#[44, 32]⟩] wr fun e w' => e = .returned (.string (strB (commaN (ps.map (nameAt rts))))) ∧ Fr (fun _ => False) wr w') := by
     have ho := HO.out
     rw [List.take_of_length_le (by rw [List.length_map]; have := HN.out; omega)] at ho
     have e := HN.out
     exact Join_any wr W0.heap.size u5 (ps.map (nameAt rts)) 3000 (by rw [List.length_map, e]; exact ho) (by rw [List.length_map, e]; exact hl) HLN.out (by omega)
    have hjs : (strB (commaN (ps.map (nameAt rts)))).size ≤ 4000 * 3002 := by
     have h1 := comma_len (ps.map (nameAt rts)) 3000 HLN.out
     rw [List.length_map, HN.out] at h1
     have h2 : k * (3000 + 2) ≤ 4000 * 3002 := Nat.mul_le_mul hl (by omega)
     rw [strB_size]
     omega
    obtain ⟨j, hj⟩ : ∃ j, j = strB (commaN (ps.map (nameAt rts))) := ⟨_, rfl⟩
    rw [← hj] at HJ hjs
    have HJE : Hid (j = strB (commaN (ps.map (nameAt rts)))) := hj
    clear hj
    go_wp2_with fail
    refine HJ.out.mono ?_
    rintro e w2 ⟨rfl, hf⟩
    have HF2 : Hid (Fr (fun _ => False) w w2) := HFw.out.trans hf
    have hch2 : w2.cell? ⟨X, 11, none⟩ = some (.bool ch) := (hf.cell (p := ⟨X, 11, none⟩) (World.block_lt_of_cell? wr _ hch) (by simp)).trans hch
    clear hf hch
    cases ch with
    | true =>
     go_wp2
     go_ret
     refine ⟨?_, HF2.out⟩
     have e : (⟨#[99, 104, 101, 97, 112, 101, 115, 116, 32]⟩ : ByteArray) ++ j = strB (actB false true (ps.map (nameAt rts))) := by
      apply ByteArray.ext
      apply Array.ext'
      rw [HJE.out]
      simp [strB, actB]
     rw [← e]
     rfl
    | false =>
     go_wp2
     go_ret
     refine ⟨?_, HF2.out⟩
     rw [HJE.out]
     rfl
end Go.Proofs.YtccikgogjfbpeaaGreatDoor
