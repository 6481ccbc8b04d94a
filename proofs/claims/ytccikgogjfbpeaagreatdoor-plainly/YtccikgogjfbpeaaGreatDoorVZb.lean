/- The plain text of a book: the library's contracts; padded. The plain text of a book: plainNumbers. The plain text of a book: plainAction. The plain text of a book: plainRoutes. -/
import Derived.Test.YtccikgogjfbpeaaGreatDoorVHa
import Derived.Test.YtccikgogjfbpeaaGreatDoorVShelf
import Derived.Test.YtccikgogjfbpeaaGreatDoorVZa
import Derived.Deep.RegionHeld3
import Derived.Lib.ItoaMem
import Derived.Lib.AppendIntMem
import Derived.Lib.ItoaLen
namespace Go.Proofs.YtccikgogjfbpeaaGreatDoor
open Go.RowKit

/-- The library's table of powers of ten lies as its text lays it. -/
def Tab (w : World) : Prop := Lib.TabIs Tryz.prog w "internal/strconv.uint64pow10" .u64 Lib.pow10Tab
theorem Tab.fr {w w' : World} (h : Tab w) (hf : Fr (fun _ => False) w w') : Tab w' := Lib.tabBelow_of_tabIs h w' (hf.below (Nat.le_refl _) (by simp))
theorem Tab.below {w w' : World} (h : Tab w) {B : Nat} (hB : w.heap.size ≤ B) (hf : Below B w w') : Tab w' := Lib.tabBelow_of_tabIs h w' ⟨hf.os, hf.tape, hf.output, hf.size, fun k hk => hf.block k (Nat.lt_of_lt_of_le hk hB)⟩
def strB (l : List UInt8) : ByteArray := ⟨l.toArray⟩
theorem strB_data (l : List UInt8) : (strB l).data.toList = l := rfl
theorem strB_size (l : List UInt8) : (strB l).size = l.length := rfl
theorem Itoa_any (n : Nat) (w : World) (hn : n ≤ 9223372036854775807) (ht : Tab w) : Calls Tryz.prog 106 #[.int .i64 (n : Int)] w fun e w' => e = .returned (.string (strB (decN n))) ∧ Fr (fun _ => False) w w' :=
 (Tryz.strconv_Itoa (n : Int) (by omega) (by omega) w ht).mono fun e w' ⟨he, k, os, hw⟩ => by
  rw [Lib.itoa_nonneg] at he
  refine ⟨he, ?_⟩
  subst hw
  refine ⟨rfl, rfl, rfl, ?_, fun i hi _ => ?_⟩
  ·show w.heap.size ≤ (w.heap ++ os).size
   simp
  ·show (w.heap ++ os)[i]? = w.heap[i]?
   exact Array.getElem?_append_left hi
theorem decN_len (n : Nat) (h : n < 1000000000) : (decN n).length ≤ 21 := by
 have := Lib.itoa_length_le (n : Int) (by omega) (by omega)
 rw [Lib.itoa_nonneg] at this
 exact this
/-- A builder in memory: block b; its bytes from B on. -/
def Bd (w : World) (B b : Nat) (l : List UInt8) : Prop := Lib.IsBuilderF 116 5 B b (Lib.byteCells l) w
theorem bdAt_fr {T e : TypeId} {B b : Nat} {p : Value} {bs : List Value} {w w' : World} (h : Lib.BuilderAtF T e B b p bs w) (hf : Fr (fun _ => False) w w') : Lib.BuilderAtF T e B b p bs w' := by
 obtain ⟨hB, v, hb, ⟨ho1, ho2⟩, hne⟩ := h
 refine ⟨hB, v, hf.whole hb (by simp), ⟨ho1, ?_⟩, hne⟩
 rcases ho2 with hn | ⟨g, cap, cur, fz, e1, e2, e3, e4⟩
 ·exact .inl hn
 ·exact .inr ⟨g, cap, cur, fz, e1, e2, hf.whole e3 (by simp), e4⟩
theorem Bd.fr {w w' : World} {B b : Nat} {l : List UInt8} (h : Bd w B b l) (hf : Fr (fun _ => False) w w') : Bd w' B b l :=
 h.elim (fun x => .inl (bdAt_fr x hf)) (fun x => .inr (bdAt_fr x hf))
theorem Bd.lt {w : World} {B b : Nat} {l : List UInt8} (h : Bd w B b l) : B ≤ b ∧ b < w.heap.size :=
 h.elim (fun x => ⟨x.1, x.lt⟩) (fun x => ⟨x.1, x.lt⟩)
theorem write_any (B b : Nat) (l : List UInt8) (s : ByteArray) (w : World) (h : Bd w B b l) (hlen : l.length + s.size ≤ 140737488355328) (hBw : B ≤ w.heap.size) :
  Calls Tryz.prog 105 #[.pointer (some ⟨b, 0, none⟩), .string s] w fun e w' => e = .returned (.tuple #[.int .i64 s.size, .nilIface]) ∧ Bd w' B b (l ++ s.data.toList) ∧ Below B w w' ∧ Lib.OthersKept 5 (some b) w w' :=
 (Any.Builder_WriteString_k (ρ := Tryz.lays156_ren) { Tryz.lays156 with } Tryz.Builder_Extra_156 B b (Lib.byteCells l) s w h (by rw [Lib.byteCells_length]; exact hlen) hBw).mono fun e w' ⟨he, hb, hB, hk⟩ => by
  refine ⟨he, ?_, hB, hk⟩
  rw [Lib.strCells_eq] at hb
  have e2 : Lib.byteCells (l ++ s.data.toList) = Lib.byteCells l ++ Lib.byteCells s.data.toList := by unfold Lib.byteCells; rw [List.map_append]
  unfold Bd
  rw [e2]
  exact .inr hb
theorem bString_any (B b : Nat) (l : List UInt8) (w : World) (h : Bd w B b l) (hBw : B ≤ w.heap.size) :
  Calls Tryz.prog 61 #[.pointer (some ⟨b, 0, none⟩)] w fun e w' => e = .returned (.string (strB l)) ∧ Below B w w' :=
 (Tryz.Builder_String_any_k B b l w h hBw).mono fun _ _ ⟨he, _, hB, _⟩ => ⟨he, hB⟩
theorem repeat_zero (c : Nat) : Lib.repeatL [48] c = List.replicate c 48 := by
 induction c with
 | zero => rfl
 | succ c ih => rw [Lib.repeatL, ih]; rfl
theorem Repeat_any (c : Nat) (w : World) (hc : c ≤ 9) : Calls Tryz.prog 162 #[.string ⟨#[48]⟩, .int .i64 (c : Int)] w fun e w' => e = .returned (.string (strB (List.replicate c 48))) ∧ Fr (fun _ => False) w w' :=
 (Tryz.strings_Repeat ⟨#[48]⟩ c w (by omega) (by show 1 * c ≤ _; omega)).mono fun e w' ⟨he, hB⟩ => ⟨by rw [he]; show _ = Ending.returned (.string ⟨(List.replicate c 48).toArray⟩); rw [← repeat_zero], Fr.of_below hB⟩

set_option maxRecDepth 30000 in
theorem padded_any (n d : Nat) (w : World) (ht : Tab w) (hn : n < 1000000000) (hd : d ≤ 9) (hl : (decN n).length ≤ d) :
  Calls Tryz.prog 107 #[.int .i64 (n : Int), .int .i64 (d : Int)] w fun e w' => e = .returned (.string (strB (padL n d))) ∧ Fr (fun _ => False) w w' := by
 have HI := hid (Itoa_any n w (by omega) ht)
 obtain ⟨t, hT⟩ : ∃ t, t = strB (decN n) := ⟨_, rfl⟩
 rw [← hT] at HI
 have hts : t.size = (decN n).length := by rw [hT]; rfl
 obtain ⟨k, hk⟩ : ∃ k, k = t.size := ⟨_, rfl⟩
 have hkd : k ≤ d := by omega
 have hks : t.size = k := hk.symm
 have hw : IntKind.i64.wrap ((d : Int) - (k : Int)) = ((d - k : Nat) : Int) := by rw [IntWalk.i64_in _ (by omega)]; omega
 have HT := hid hT
 have HK : Hid (k = (decN n).length) := by show _ = _; omega
 have HR : Hid (∀ W, Calls Tryz.prog 162 #[.string ⟨#[48]⟩, .int .i64 ((d - k : Nat) : Int)] W fun e w' => e = .returned (.string (strB (List.replicate (d - k) 48))) ∧ Fr (fun _ => False) W w') := fun W => Repeat_any (d - k) W (by omega)
 have hz : (strB (List.replicate (d - k) 48)).size ≤ 9 := by rw [strB_size, List.length_replicate]; omega
 obtain ⟨u, hu⟩ : ∃ u, u = strB (List.replicate (d - k) 48) := ⟨_, rfl⟩
 rw [← hu] at HR hz
 have HU := hid hu
 clear hT hts hk hu hl ht
 go_enter Tryz.func107, Tryz.ntmps107
 go_wp2_with fail
 refine HI.out.mono ?_
 rintro e w1 ⟨rfl, hf⟩
 have HF1 := hid hf
 clear hf
 go_wp2_with fail
 refine (HR.out _).mono ?_
 rintro e w2 ⟨rfl, hf⟩
 have HF2 := hid (HF1.out.trans hf)
 clear hf
 go_wp2_with fail
 go_ret
 refine ⟨?_, HF2.out⟩
 have e : u ++ t = strB (padL n d) := by
  apply ByteArray.ext
  apply Array.ext'
  rw [HU.out, HT.out]
  simp [strB, padL, HK.out]
 rw [← e]
 rfl
end Go.Proofs.YtccikgogjfbpeaaGreatDoor

namespace Go.Proofs.YtccikgogjfbpeaaGreatDoor
open Go.RowKit

theorem addrT (g o k : Nat) : (⟨g, o, none⟩ : Addr).add k = ⟨g, o + k, none⟩ := by unfold Addr.add; split <;> simp_all
theorem Tryz.infoStrT : (Tryz.prog.info? 9).map (fun i => (i.zero, i.size, i.bytes)) = some (some (.string ByteArray.empty), 1, 16) := by kernel_rfl
def strRow (l : List Bs) : List Value := l.map fun x => Value.string (strB x)
theorem strRow_snoc (l : List Bs) (x : Bs) : strRow (l ++ [x]) = strRow l ++ [.string (strB x)] := by unfold strRow; rw [List.map_append]; rfl
theorem flat_comma (r : List Bs) : (r.map ([44, 32] ++ ·)).flatten = r.flatMap fun u => 44 :: 32 :: u := by
 induction r with
 | nil => rfl
 | cons y r ih => rw [List.map_cons, List.flatten_cons, ih]; rfl
theorem join_comma (l : List Bs) : Lib.join l [44, 32] = commaN l := by
 cases l with
 | nil => rfl
 | cons x r => rw [Lib.join_cons, Lib.joinTail, flat_comma]; rfl
theorem comma_len (l : List Bs) (m : Nat) (h : ∀ x, x ∈ l → x.length ≤ m) : (commaN l).length ≤ l.length * (m + 2) := by
 have ht : ∀ r : List Bs, (∀ x, x ∈ r → x.length ≤ m) → (r.flatMap fun u => 44 :: 32 :: u).length ≤ r.length * (m + 2) := by
  intro r
  induction r with
  | nil => intro _; simp
  | cons y r ih =>
   intro hr
   have h1 := ih (fun x hx => hr x (by simp [hx]))
   have h2 := hr y (by simp)
   rw [List.flatMap_cons, List.length_append]
   simp only [List.length_cons]
   rw [Nat.add_mul]
   omega
 cases l with
 | nil => simp [commaN]
 | cons x r =>
  have h1 := ht r (fun x hx => h x (by simp [hx]))
  have h2 := h x (by simp)
  simp only [commaN]
  rw [List.length_append, List.length_cons, Nat.add_mul]
  omega
theorem ownsRow_cap {w : World} {base : Nat} {e : TypeId} {size : Nat} {v : Value} {n : Nat} {xs : List Value} (h : w.ownsRow base e size v n xs) (h0 : 0 < n) : ∃ g cap, v = .slice (some ⟨g, 0, none⟩) n cap ∧ base ≤ g ∧ g < w.heap.size ∧ n ≤ cap := by
 rcases h.2 with ⟨_, e⟩ | ⟨g, cap, cur, e1, e2, e3, e4, _⟩
 ·omega
 ·exact ⟨g, cap, e1, e2, (Array.getElem?_eq_some_iff.1 e3).1, e4⟩
/-- Names, or numbers, joined. -/
theorem Join_any (w : World) (base : Nat) (v : Value) (l : List Bs) (m : Nat) (h : w.ownsRow base 9 1 v l.length (strRow l)) (hl : l.length ≤ 4000) (hm : ∀ x, x ∈ l → x.length ≤ m) (hm2 : m ≤ 3000) :
  Calls Tryz.prog 163 #[v, .string ⟨#[44, 32]⟩] w fun e w' => e = .returned (.string (strB (commaN l))) ∧ Fr (fun _ => False) w w' := by
 by_cases h0 : 0 < l.length
 ·obtain ⟨g, cap, e, hb, hg, hc⟩ := ownsRow_cap h h0
  subst e
  have hz : ((l.map strB).map (·.data.toList)) = l := by rw [List.map_map]; exact List.map_id' l
  have hlen := comma_len l m hm
  have hlen2 : l.length * (m + 2) ≤ 4000 * 3002 := Nat.mul_le_mul hl (by omega)
  have := Tryz.strings_Join g 0 cap (l.map strB) ⟨#[44, 32]⟩ w (fun j x hj => by
   rw [List.getElem?_map] at hj
   cases hq : l[j]? with
   | none => rw [hq] at hj; cases hj
   | some y =>
    rw [hq] at hj
    simp only [Option.map_some, Option.some.injEq] at hj
    have := h.cells (g := g) rfl j (.string (strB y)) (by unfold strRow; rw [List.getElem?_map, hq]; rfl)
    rw [addrT] at this
    rw [← hj]
    exact this) hg (by rw [List.length_map]; omega) (by rw [List.length_map]; exact hc) (by rw [hz]; show (Lib.join l [44, 32]).length ≤ _; rw [join_comma]; omega)
  rw [List.length_map] at this
  refine this.mono fun e w' ⟨he, hB⟩ => ⟨?_, Fr.of_below hB⟩
  rw [he, hz]
  show _ = Ending.returned (.string ⟨(commaN l).toArray⟩)
  rw [← join_comma]
 ·have e0 : l = [] := List.length_eq_zero_iff.1 (by omega)
  subst e0
  obtain ⟨a, c, e⟩ := ownsRow_len h
  subst e
  exact (Tryz.strings_Join_none a c ⟨#[44, 32]⟩ w).mono fun e w' ⟨he, hw⟩ => ⟨he, by rw [hw]; exact Fr.refl _ _⟩

set_option maxRecDepth 30000 in
set_option maxHeartbeats 1000000 in
theorem plainNumbers_any (w : World) (base : Nat) (v : Value) (l : List Nat) (h : w.ownsRow base 3 1 v l.length (intRow l)) (h0 : 0 < l.length) (hl : l.length ≤ 4000) (hx : ∀ x, x ∈ l → x < 1000000000) (ht : Tab w) :
  Calls Tryz.prog 108 #[v] w fun e w' => e = .returned (.string (strB (commaN (l.map decN)))) ∧ Fr (fun _ => False) w w' := by
 obtain ⟨ii, hi, hz0, hz1, hz2⟩ := info_parts Tryz.infoStrT
 obtain ⟨g, cap, rfl, hb, hgl, hcap⟩ := ownsRow_cap h h0
 have HCell : Hid (∀ j x, l[j]? = some x → w.cell? ⟨g, j, none⟩ = some (.int .i64 (x : Nat))) := by
  intro j x hj
  have := h.cells (g := g) rfl j (.int .i64 x) (by unfold intRow; rw [List.getElem?_map, hj]; rfl)
  rwa [addrT, Nat.zero_add] at this
 have HT := hid ht
 have HX := hid hx
 have HG := hid hgl
 obtain ⟨n, hn⟩ : ∃ n, l.length = n := ⟨_, rfl⟩
 have HN := hid hn
 rw [hn] at hl h0 hcap ⊢
 clear h hx ht hn hb hgl
 go_enter Tryz.func108, Tryz.ntmps108
 go_wp2_with fail
 go_loopg [3, 5, 8] n (fun m o _ ix wr => ∃ k, k ≤ n ∧ m = n - k ∧ ix = .int .i64 (k : Nat) ∧ Hid (wr.ownsRow w.heap.size 9 1 o k (strRow ((l.map decN).take k))) ∧ Hid (Fr (fun _ => False) w wr))
 case atStart => exact ⟨0, Nat.zero_le _, rfl, rfl, World.ownsRow_nil _ _ _ _, Fr.refl _ _⟩
 case round =>
  obtain ⟨k, hk, rfl, rfl, HO, HF⟩ := hrel
  by_cases hlt : k < n
  ·obtain ⟨x, hxk⟩ : ∃ x, l[k]? = some x := ⟨_, List.getElem?_eq_getElem (by have := HN.out; omega)⟩
   have c0 : wr.cell? ⟨g, k, none⟩ = some (.int .i64 (x : Nat)) := (HF.out.cell (p := ⟨g, k, none⟩) HG.out (by simp)).trans (HCell.out k x hxk)
   have HTK : Hid ((l.map decN).take (k + 1) = (l.map decN).take k ++ [decN x]) := by show _ = _; rw [List.take_add_one, List.getElem?_map, hxk]; rfl
   have HI := hid (Itoa_any x wr (by have := HX.out x (List.mem_of_getElem? hxk); omega) (HT.out.fr HF.out))
   have hki : (k : Int) < (n : Int) := by omega
   clear hxk
   go_wp2_with fail
   refine HI.out.mono ?_
   rintro e w1 ⟨rfl, hf⟩
   have HF1 := hid (HF.out.trans hf)
   have HO1 := hid (ownsRow_fr HO.out hf (by simp))
   have hs1 := HF1.out.size
   obtain ⟨t, hT⟩ : ∃ t, t = strB (decN x) := ⟨_, rfl⟩
   rw [← hT]
   have HTT := hid hT
   clear hf c0 hT
   go_wp2_with (at_builtin; refine wpList_append_lies _ rfl (.tmp 12) (.tmp 15) 28 rfl w.heap.size 9 ii _ 1 16 Tryz.underlying28 hi hz0 hz1 hz2 rfl (by decide) u3 k (strRow ((l.map decN).take k)) rfl ?h1 ⟨w1.heap.size, 0, none⟩ 1 1 [.string t] rfl rfl ?h2 ?h3 (by decide) ?h4 ?h5 ?h6 _ rfl ?h7)
   case h1 => exact HO1.out.alloc _
   case h2 => exact World.news_of_block (heap_alloc_new w1 _)
   case h3 => simp [Value.oneCell']
   case h4 => unfold maxLen; omega
   case h5 => omega
   case h6 => first | omega | (simp; omega)
   case h7 =>
    intro g2 cap2 w5 hown hgrow _ _
    have hrow : ∀ k, u3.ownBlock = some k → w.heap.size ≤ k := fun k hk => (HO1.out.lt k hk).1
    have HO5 := hid hown
    have HF5 := hid ((HF1.out.alloc _).grown hgrow (fun k hk => Or.inr (hrow k hk)))
    clear hgrow hown hrow
    go_wp2
    go_roundg (n - (k + 1))
    case measure => omega
    case rel =>
     refine ⟨k + 1, by omega, rfl, by go_num, ?_, HF5⟩
     show World.ownsRow _ _ _ _ _ _ _
     rw [HTK.out, strRow_snoc, ← HTT.out]
     exact HO5.out
  ·have hki : ¬ (k : Int) < (n : Int) := by omega
   have ek : k = n := by omega
   subst ek
   have HJ : Hid (Calls Tryz.prog 163 #[u3, .string ⟨#[44, 32]⟩] wr fun e w' => e = .returned (.string (strB (commaN (l.map decN)))) ∧ Fr (fun _ => False) wr w') := by
    have ho := HO.out
    rw [List.take_of_length_le (by rw [List.length_map]; have := HN.out; omega)] at ho
    have e := HN.out
    refine Join_any wr w.heap.size u3 (l.map decN) 21 (by rw [List.length_map, e]; exact ho) (by rw [List.length_map, e]; exact hl) (fun x hx => ?_) (by omega)
    obtain ⟨y, hy, rfl⟩ := List.mem_map.1 hx
    exact decN_len y (HX.out y hy)
   go_wp2_with fail
   refine HJ.out.mono ?_
   rintro e w2 ⟨rfl, hf⟩
   have HF2 := hid (HF.out.trans hf)
   clear hf
   go_wp2
   go_ret
   exact ⟨rfl, HF2.out⟩
end Go.Proofs.YtccikgogjfbpeaaGreatDoor

namespace Go.Proofs.YtccikgogjfbpeaaGreatDoor
open Go.RowKit

def actB (dc ch : Bool) (l : List Bs) : Bs := if dc then [100, 101, 99, 108, 105, 110, 101] else (if ch then [99, 104, 101, 97, 112, 101, 115, 116, 32] else []) ++ commaN l
theorem actB_eq (rts : List RouteM) (r : RuleM) : 32 :: actB r.decline r.cheapest (r.routes.map (nameAt rts)) = acJ rts r := by
 unfold actB acJ
 cases r.decline <;> cases r.cheapest <;> rfl
/-- A rule as a value. -/
def ruAgg (nm : ByteArray) (i1 i2 i3 i4 : Int) (ma : Option Addr) (mn mc : Nat) (has : Bool) (i7 i8 : Int) (ca : Option Addr) (cn cc : Nat) (dc ch : Bool) (pa : Option Addr) (pn pc : Nat) (i13 : Int) : Value :=
 .agg #[.string nm, .int .i64 i1, .int .i64 i2, .int .i64 i3, .int .i64 i4, .slice ma mn mc, .bool has, .int .i64 i7, .int .i64 i8, .slice ca cn cc, .bool dc, .bool ch, .slice pa pn pc, .int .i64 i13]
set_option maxRecDepth 30000 in
set_option maxHeartbeats 2000000 in
theorem plainAction_any (w : World) (Bb : Nat) (vr : Value) (rts : List RouteM) (base : Nat) (ps : List Nat) (nm : ByteArray) (i1 i2 i3 i4 : Int) (ma : Option Addr) (mn mc : Nat) (has : Bool) (i7 i8 : Int) (ca : Option Addr) (cn cc : Nat) (dc ch : Bool) (pa : Option Addr) (pc : Nat) (i13 : Int)
  (hb : w.cell? ⟨Bb, 0, none⟩ = some vr) (hr : w.ownsRow base 148 3 vr rts.length (rtRow rts)) (hp : w.ownsRow base 3 1 (.slice pa ps.length pc) ps.length (intRow ps)) (hl : ps.length ≤ 4000) (hpl : ∀ p, p ∈ ps → p < rts.length) (hnm : ∀ t, t ∈ rts → t.name.size ≤ 3000) (h6 : rts.length ≤ 6) :
  Calls Tryz.prog 109 #[.pointer (some ⟨Bb, 0, none⟩), ruAgg nm i1 i2 i3 i4 ma mn mc has i7 i8 ca cn cc dc ch pa ps.length pc i13] w fun e w' => e = .returned (.string (strB (actB dc ch (ps.map (nameAt rts))))) ∧ Fr (fun _ => False) w w' := by
 unfold ruAgg
 obtain ⟨ii, hi, hz0, hz1, hz2⟩ := info_parts Tryz.infoStrT
 obtain ⟨va, vc, hv⟩ := ownsRow_len hr
 subst hv
 have HBl := hid (World.block_lt_of_cell? w _ hb)
 have HPC : Hid (∀ j p, ps[j]? = some p → ∃ g, pa = some ⟨g, 0, none⟩ ∧ g < w.heap.size ∧ w.cell? ⟨g, j, none⟩ = some (.int .i64 (p : Nat))) := by
  intro j p hj
  obtain ⟨g, cap, e, _, hg, _⟩ := ownsRow_cap hp (by have := (List.getElem?_eq_some_iff.1 hj).1; omega)
  injection e with e1 e2 e3
  subst e1
  refine ⟨g, rfl, hg, ?_⟩
  have := hp.cells (g := g) rfl j (.int .i64 p) (by unfold intRow; rw [List.getElem?_map, hj]; rfl)
  rwa [addrT, Nat.zero_add] at this
 have HRC : Hid (∀ j t, rts[j]? = some t → ∃ g, va = some ⟨g, 0, none⟩ ∧ g < w.heap.size ∧ w.cell? ⟨g, j * 3, none⟩ = some (.string t.name)) := by
  intro j t hj
  obtain ⟨g, cap, e, _, hg, hc⟩ := ownsRow_rt hr (by have := (List.getElem?_eq_some_iff.1 hj).1; omega)
  injection e with e1 e2 e3
  exact ⟨g, e1, hg, (hc j t hj).1⟩
 have HPL := hid hpl
 have HNM := hid hnm
 have HB0 := hid hb
 obtain ⟨n, hn⟩ : ∃ n, ps.length = n := ⟨_, rfl⟩
 have HN := hid hn
 obtain ⟨nr, hnr⟩ : ∃ nr, rts.length = nr := ⟨_, rfl⟩
 have HNR := hid hnr
 rw [hnr] at HB0 h6
 rw [hn] at hl ⊢
 clear hb hr hp hpl hnm hn hnr
 go_enter Tryz.func109, Tryz.ntmps109
 cases dc with
 | true =>
  go_wp2_with fail
  go_ret
  exact ⟨rfl, (Fr.refl _ _).alloc _⟩
 | false =>
  go_wp2_with fail
  have hn0 := heap_alloc_new w (.cells #[.string nm, .int .i64 i1, .int .i64 i2, .int .i64 i3, .int .i64 i4, .slice ma mn mc, .bool has, .int .i64 i7, .int .i64 i8, .slice ca cn cc, .bool false, .bool ch, .slice pa n pc, .int .i64 i13] 120)
  have HCH := hid (block_cell hn0 11 _ rfl)
  have HF0 : Hid (Fr (fun _ => False) w (w.alloc (.cells #[.string nm, .int .i64 i1, .int .i64 i2, .int .i64 i3, .int .i64 i4, .slice ma mn mc, .bool has, .int .i64 i7, .int .i64 i8, .slice ca cn cc, .bool false, .bool ch, .slice pa n pc, .int .i64 i13] 120))) := (Fr.refl _ _).alloc _
  clear hn0
  generalize w.alloc (.cells #[.string nm, .int .i64 i1, .int .i64 i2, .int .i64 i3, .int .i64 i4, .slice ma mn mc, .bool has, .int .i64 i7, .int .i64 i8, .slice ca cn cc, .bool false, .bool ch, .slice pa n pc, .int .i64 i13] 120) = W0 at *
  obtain ⟨X, hX⟩ : ∃ X, w.heap.size = X := ⟨_, rfl⟩
  rw [hX] at HCH ⊢
  clear hX
  go_loopg [5, 7, 14] n (fun m o _ ix wr => ∃ k, k ≤ n ∧ m = n - k ∧ ix = .int .i64 (k : Nat) ∧ Hid (wr.ownsRow W0.heap.size 9 1 o k (strRow ((ps.map (nameAt rts)).take k))) ∧ Hid (Fr (fun _ => False) W0 wr))
  case atStart => exact ⟨0, Nat.zero_le _, rfl, rfl, World.ownsRow_nil _ _ _ _, Fr.refl _ _⟩
  case round =>
   obtain ⟨k, hk, rfl, rfl, HO, HF⟩ := hrel
   have HFw := hid (HF0.out.trans HF.out)
   by_cases hlt : k < n
   ·obtain ⟨p, hpk⟩ : ∃ p, ps[k]? = some p := ⟨_, List.getElem?_eq_getElem (by have := HN.out; omega)⟩
    obtain ⟨g, hpa, hg, c0⟩ := HPC.out k p hpk
    rw [← HFw.out.cell (p := ⟨g, k, none⟩) hg (by simp)] at c0
    have hpn : p < nr := by have := HPL.out p (List.mem_of_getElem? hpk); have := HNR.out; omega
    obtain ⟨t, htp⟩ : ∃ t, rts[p]? = some t := ⟨_, List.getElem?_eq_getElem (by have := HNR.out; omega)⟩
    obtain ⟨gr, hva, hgr, r0⟩ := HRC.out p t htp
    rw [← HFw.out.cell (p := ⟨gr, p * 3, none⟩) hgr (by simp)] at r0
    have b0 : wr.cell? ⟨Bb, 0, none⟩ = some (.slice va nr vc) := (HFw.out.cell (p := ⟨Bb, 0, none⟩) HBl.out (by simp)).trans HB0.out
    rw [hva] at b0
    subst hpa
    have HTK : Hid ((ps.map (nameAt rts)).take (k + 1) = (ps.map (nameAt rts)).take k ++ [t.name.data.toList]) := by show _ = _; rw [List.take_add_one, List.getElem?_map, hpk]; simp [nameAt, htp]
    have hki : (k : Int) < (n : Int) := by omega
    have hpi : (p : Int) < (nr : Int) := by omega
    have hsz := HF.out.size
    clear hpk htp hva
    go_wp2_with (at_builtin; refine wpList_append_lies _ rfl (.tmp 18) (.tmp 27) 28 rfl W0.heap.size 9 ii _ 1 16 Tryz.underlying28 hi hz0 hz1 hz2 rfl (by decide) u5 k (strRow ((ps.map (nameAt rts)).take k)) rfl ?h1 ⟨wr.heap.size, 0, none⟩ 1 1 [.string t.name] rfl rfl ?h2 ?h3 (by decide) ?h4 ?h5 ?h6 _ rfl ?h7)
    case h1 => exact HO.out.alloc _
    case h2 => exact World.news_of_block (heap_alloc_new wr _)
    case h3 => simp [Value.oneCell']
    case h4 => unfold maxLen; omega
    case h5 => omega
    case h6 => first | omega | (simp; omega)
    case h7 =>
     intro g2 cap2 w5 hown hgrow _ _
     have hrow : ∀ k, u5.ownBlock = some k → W0.heap.size ≤ k := fun k hk => (HO.out.lt k hk).1
     have HO5 := hid hown
     have HF5 := hid ((HF.out.alloc _).grown hgrow (fun k hk => Or.inr (hrow k hk)))
     clear hgrow hown hrow
     go_wp2
     go_roundg (n - (k + 1))
     case measure => omega
     case rel =>
      refine ⟨k + 1, by omega, rfl, by go_num, ?_, HF5⟩
      show World.ownsRow _ _ _ _ _ _ _
      rw [HTK.out, strRow_snoc]
      exact HO5.out
   ·have hki : ¬ (k : Int) < (n : Int) := by omega
    have ek : k = n := by omega
    subst ek
    have hch : wr.cell? ⟨X, 11, none⟩ = some (.bool ch) := (HF.out.cell (p := ⟨X, 11, none⟩) (World.block_lt_of_cell? W0 _ HCH.out) (by simp)).trans HCH.out
    have HLN : Hid (∀ x, x ∈ ps.map (nameAt rts) → x.length ≤ 3000) := fun x hx => by
     obtain ⟨p, hp, rfl⟩ := List.mem_map.1 hx
     unfold nameAt
     cases hq : rts[p]? with
     | none => simp
     | some t =>
      have := HNM.out t (List.mem_of_getElem? hq)
      simpa using this
    have HJ : Hid (Calls Tryz.prog 163 #[u5, .string ⟨#[44, 32]⟩] wr fun e w' => e = .returned (.string (strB (commaN (ps.map (nameAt rts))))) ∧ Fr (fun _ => False) wr w') := by
     have ho := HO.out
     rw [List.take_of_length_le (by rw [List.length_map]; have := HN.out; omega)] at ho
     have e := HN.out
     exact Join_any wr W0.heap.size u5 (ps.map (nameAt rts)) 3000 (by rw [List.length_map, e]; exact ho) (by rw [List.length_map, e]; exact hl) HLN.out (by omega)
    have hjs : (strB (commaN (ps.map (nameAt rts)))).size ≤ 4000 * 3002 := by
     have h1 := comma_len (ps.map (nameAt rts)) 3000 HLN.out
     rw [List.length_map, HN.out] at h1
     have h2 : k * (3000 + 2) ≤ 4000 * 3002 := Nat.mul_le_mul hl (by omega)
     rw [strB_size]
     omega
    obtain ⟨j, hj⟩ : ∃ j, j = strB (commaN (ps.map (nameAt rts))) := ⟨_, rfl⟩
    rw [← hj] at HJ hjs
    have HJE := hid hj
    clear hj
    go_wp2_with fail
    refine HJ.out.mono ?_
    rintro e w2 ⟨rfl, hf⟩
    have HF2 := hid (HFw.out.trans hf)
    have hch2 : w2.cell? ⟨X, 11, none⟩ = some (.bool ch) := (hf.cell (p := ⟨X, 11, none⟩) (World.block_lt_of_cell? wr _ hch) (by simp)).trans hch
    clear hf hch
    cases ch with
    | true =>
     go_wp2
     go_ret
     refine ⟨?_, HF2.out⟩
     have e : (⟨#[99, 104, 101, 97, 112, 101, 115, 116, 32]⟩ : ByteArray) ++ j = strB (actB false true (ps.map (nameAt rts))) := by
      apply ByteArray.ext
      apply Array.ext'
      rw [HJE.out]
      simp [strB, actB]
     rw [← e]
     rfl
    | false =>
     go_wp2
     go_ret
     refine ⟨?_, HF2.out⟩
     rw [HJE.out]
     rfl
end Go.Proofs.YtccikgogjfbpeaaGreatDoor

namespace Go.Proofs.YtccikgogjfbpeaaGreatDoor
open Go.RowKit

/-- Two strings, one behind the other. -/
theorem cat_of (a b : ByteArray) (m n : Nat) (ha : a.size ≤ m) (hb : b.size ≤ n) (h : m + n ≤ 80000000) : ∃ y, Hid (y = a ++ b) ∧ y.size ≤ m + n ∧ ∀ W, (Op.stringOp .add a b).run Tryz.prog W = .ok (.string y) W :=
 ⟨a ++ b, rfl, by rw [ByteArray.size_append]; omega, fun W => run_string_add_sum W a b (by omega)⟩
/-- While a text is written: the builder, and one block more. -/
structure Wr (w0 : World) (B b : Nat) (l : List UInt8) (X : Nat) (o : Obj) (W : World) : Prop where
 bd : Bd W B b l
 be : Below B w0 W
 le : B ≤ W.heap.size
 ob : W.heap[X]? = some o
 ok : Lib.OthersKept 5 (some b) w0 W
theorem ok_fr {b : Option Nat} {w0 W W' : World} (h : Lib.OthersKept 5 b w0 W) (hf : Fr (fun _ => False) W W') : Lib.OthersKept 5 b w0 W' := fun k o hk hb ho => hf.whole (h k o hk hb ho) (by simp)
theorem ok_below {b : Option Nat} {w W : World} (h : Below w.heap.size w W) : Lib.OthersKept 5 b w W := fun k o hk _ _ => by
 rw [h.block k (Array.getElem?_eq_some_iff.1 hk).1]
 exact hk
theorem Wr.fr {w0 : World} {B b : Nat} {l : List UInt8} {X : Nat} {o : Obj} {W W' : World} (h : Wr w0 B b l X o W) (hf : Fr (fun _ => False) W W') : Wr w0 B b l X o W' :=
 ⟨h.bd.fr hf, h.be.trans (hf.below h.le (by simp)), Nat.le_trans h.le hf.size, hf.whole h.ob (by simp), ok_fr h.ok hf⟩
theorem Wr.write {w0 : World} {B b : Nat} {l : List UInt8} {X : Nat} {cs : Array Value} {T : TypeId} {W : World} (h : Wr w0 B b l X (.cells cs T) W) (s : ByteArray) (hs : l.length + s.size ≤ 140737488355328) (hX : X ≠ b) (hT : T ≠ 5) :
  Calls Tryz.prog 105 #[.pointer (some ⟨b, 0, none⟩), .string s] W fun e w' => e = .returned (.tuple #[.int .i64 s.size, .nilIface]) ∧ Wr w0 B b (l ++ s.data.toList) X (.cells cs T) w' :=
 (write_any B b l s W h.bd hs h.le).mono fun e w' ⟨he, hb, hB, hk⟩ => ⟨he, hb, h.be.trans hB, Nat.le_trans h.le hB.size, hk X _ h.ob (by simpa using hX) (fun c fz e => by injection e with _ e2; exact hT e2), h.ok.trans hk⟩
theorem Wr.itoa {w0 : World} {B b : Nat} {l : List UInt8} {X : Nat} {o : Obj} {W : World} (h : Wr w0 B b l X o W) (ht : ∀ w', Below B w0 w' → Tab w') (m : Nat) (hm : m < 1000000000) :
  Calls Tryz.prog 106 #[.int .i64 (m : Int)] W fun e w' => e = .returned (.string (strB (decN m))) ∧ Wr w0 B b l X o w' :=
 (Itoa_any m W (by omega) (ht W h.be)).mono fun e w' ⟨he, hf⟩ => ⟨he, h.fr hf⟩
/-- A part of the row of routes. -/
def RtSl (w : World) (B : Nat) (a : Option Addr) (rts : List RouteM) : Prop :=
 ∀ j t, rts[j]? = some t → ∃ g o, a = some ⟨g, o, none⟩ ∧ g < B ∧ w.cell? ⟨g, o + j * 3, none⟩ = some (.string t.name) ∧ w.cell? ⟨g, o + j * 3 + 1, none⟩ = some (.int .i64 t.base) ∧ w.cell? ⟨g, o + j * 3 + 2, none⟩ = some (.int .i64 t.rate)
theorem plRt_len (t : RouteM) (h : RtOk t) : (plRt t).length ≤ 3060 := by
 have h1 := decN_len _ h.2.1
 have h2 := decN_len _ h.2.2
 have h3 : t.name.data.toList.length = t.name.size := by simp
 have h0 := h.1
 unfold plRt
 simp only [List.length_append, List.length_cons, List.length_nil]
 omega
theorem rts_len (l : List RouteM) (h : ∀ t, t ∈ l → RtOk t) : (l.flatMap plRt).length ≤ l.length * 3060 := by
 induction l with
 | nil => simp
 | cons x r ih =>
  have h1 := ih (fun t ht => h t (by simp [ht]))
  have h2 := plRt_len x (h x (by simp))
  rw [List.flatMap_cons, List.length_append, List.length_cons, Nat.add_mul]
  omega
set_option maxRecDepth 30000 in
set_option maxHeartbeats 4000000 in
theorem plainRoutes_any (w : World) (B b : Nat) (l0 : List UInt8) (a : Option Addr) (c : Nat) (rts : List RouteM) (hB : B ≤ w.heap.size) (hd : Bd w B b l0) (htB : ∀ w', Below B w w' → Tab w') (hr : RtSl w B a rts) (hok : ∀ t, t ∈ rts → RtOk t) (hn6 : rts.length ≤ 6) (hl0 : l0.length ≤ 100000000) :
  Calls Tryz.prog 59 #[.pointer (some ⟨b, 0, none⟩), .slice a rts.length c] w fun e w' => e = .returned (.tuple #[]) ∧ Bd w' B b (l0 ++ rts.flatMap plRt) ∧ Below B w w' ∧ Lib.OthersKept 5 (some b) w w' := by
 have HD := hid hd
 have HTB := hid htB
 have HR := hid hr
 have HOK := hid hok
 obtain ⟨n, hn⟩ : ∃ n, rts.length = n := ⟨_, rfl⟩
 have HN := hid hn
 rw [hn] at hn6 ⊢
 clear hd htB hr hok hn
 go_enter Tryz.func59, Tryz.ntmps59
 go_wp2_with fail
 go_loopg [5, 8] n (fun m _ ix wr => ∃ k, k ≤ n ∧ m = n - k ∧ ix = .int .i64 (k : Nat) ∧ Hid (Bd wr B b (l0 ++ (rts.take k).flatMap plRt)) ∧ Hid (Below B w wr) ∧ Hid (Lib.OthersKept 5 (some b) w wr))
 case atStart => exact ⟨0, Nat.zero_le _, rfl, rfl, by show Bd _ _ _ _; simpa using HD.out, Below.refl _ _, Lib.OthersKept.refl _ _ _⟩
 case round =>
  obtain ⟨k, hk, rfl, rfl, HBd, HF, HOT⟩ := hrel
  by_cases hlt : k < n
  ·obtain ⟨t, htk⟩ : ∃ t, rts[k]? = some t := ⟨_, List.getElem?_eq_getElem (by have := HN.out; omega)⟩
   obtain ⟨g, o, ha, hg, c0, c1, c2⟩ := HR.out k t htk
   have hgw : g < w.heap.size := by omega
   have hcc : ∀ j v, w.cell? ⟨g, j, none⟩ = some v → wr.cell? ⟨g, j, none⟩ = some v := fun j v hv => by
    rw [show wr.cell? ⟨g, j, none⟩ = w.cell? ⟨g, j, none⟩ from by simp only [World.cell?, HF.out.block g hg]]
    exact hv
   replace c0 := hcc _ _ c0
   replace c1 := hcc _ _ c1
   replace c2 := hcc _ _ c2
   clear hcc
   subst ha
   have hki : (k : Int) < (n : Int) := by omega
   have HTK : Hid (l0 ++ (rts.take (k + 1)).flatMap plRt = (l0 ++ (rts.take k).flatMap plRt) ++ plRt t) := by show _ = _; rw [List.take_add_one, htk, List.flatMap_append, List.append_assoc]; simp
   have hok := HOK.out t (List.mem_of_getElem? htk)
   have hnm := hok.1
   have hbs : (strB (decN t.base)).size ≤ 21 := decN_len _ hok.2.1
   have hrs : (strB (decN t.rate)).size ≤ 21 := decN_len _ hok.2.2
   have HOKt := hid hok
   have HLE := hid (Nat.le_trans hB HF.out.size)
   have hlen : (l0 ++ (rts.take k).flatMap plRt).length ≤ 100100000 := by
    have h1 := rts_len (rts.take k) (fun t ht => HOK.out t (List.mem_of_mem_take ht))
    have h2 : (rts.take k).length ≤ 6 := by rw [List.length_take]; omega
    have h3 : (rts.take k).length * 3060 ≤ 6 * 3060 := Nat.mul_le_mul h2 (Nat.le_refl _)
    rw [List.length_append]
    omega
   obtain ⟨l1, hl1⟩ : ∃ l1, l1 = l0 ++ (rts.take k).flatMap plRt := ⟨_, rfl⟩
   rw [← hl1] at HBd HTK hlen
   clear htk hok hl1
   go_upto_region 3 with fail
   have HZ : Hid (Wr w B b l1 wr.heap.size (.cells #[.string t.name, .int .i64 t.base, .int .i64 t.rate] 148) (wr.alloc (.cells #[.string t.name, .int .i64 t.base, .int .i64 t.rate] 148))) :=
    ⟨HBd.out.fr ((Fr.refl _ _).alloc _), HF.out.trans (((Fr.refl (fun _ => False) wr).alloc _).below HLE.out (by simp)), Nat.le_trans HLE.out (by simp), heap_alloc_new wr _, ok_fr HOT.out ((Fr.refl _ _).alloc _)⟩
   have HXb : Hid (wr.heap.size ≠ b) := by have := HBd.out.lt.2; show _ ≠ _; omega
   generalize wr.alloc (.cells #[.string t.name, .int .i64 t.base, .int .i64 t.rate] 148) = W1 at *
   generalize wr.heap.size = X at *
   have HSC : Hid (∀ l W, Wr w B b l X (.cells #[.string t.name, .int .i64 t.base, .int .i64 t.rate] 148) W → W.cell? ⟨X, 0, none⟩ = some (.string t.name) ∧ W.cell? ⟨X, 1, none⟩ = some (.int .i64 t.base) ∧ W.cell? ⟨X, 2, none⟩ = some (.int .i64 t.rate)) := fun l W h => ⟨block_cell h.ob 0 _ rfl, block_cell h.ob 1 _ rfl, block_cell h.ob 2 _ rfl⟩
   have HI : Hid (∀ (m : Nat) (W : World), Hid (m < 1000000000) → Hid (Wr w B b l1 X (.cells #[.string t.name, .int .i64 t.base, .int .i64 t.rate] 148) W) → Calls Tryz.prog 106 #[.int .i64 (m : Int)] W fun e w' => e = .returned (.string (strB (decN m))) ∧ Hid (Wr w B b l1 X (.cells #[.string t.name, .int .i64 t.base, .int .i64 t.rate] 148) w') ∧ w'.cell? ⟨X, 0, none⟩ = some (.string t.name) ∧ w'.cell? ⟨X, 1, none⟩ = some (.int .i64 t.base) ∧ w'.cell? ⟨X, 2, none⟩ = some (.int .i64 t.rate)) :=
    fun m W hm hZ => (hZ.out.itoa HTB.out m hm.out).mono fun e w' ⟨he, hz⟩ => ⟨he, hz, HSC.out _ _ hz⟩
   have HW : Hid (∀ (s : ByteArray) (W : World), s.size ≤ 4000 → Hid (Wr w B b l1 X (.cells #[.string t.name, .int .i64 t.base, .int .i64 t.rate] 148) W) → Calls Tryz.prog 105 #[.pointer (some ⟨b, 0, none⟩), .string s] W fun e w' => e = .returned (.tuple #[.int .i64 s.size, .nilIface]) ∧ Hid (Wr w B b (l1 ++ s.data.toList) X (.cells #[.string t.name, .int .i64 t.base, .int .i64 t.rate] 148) w') ∧ w'.cell? ⟨X, 0, none⟩ = some (.string t.name) ∧ w'.cell? ⟨X, 1, none⟩ = some (.int .i64 t.base) ∧ w'.cell? ⟨X, 2, none⟩ = some (.int .i64 t.rate)) :=
    fun s W hs hZ => (hZ.out.write s (by omega) HXb.out (by decide)).mono fun e w' ⟨he, hz⟩ => ⟨he, hz, HSC.out _ _ hz⟩
   have HB1 := hid HOKt.out.2.1
   have HB2 := hid HOKt.out.2.2
   obtain ⟨s0, s1, s2⟩ := HSC.out _ _ HZ.out
   clear c0 c1 c2
   have HZd := hid (HZ.out.fr (Fr.refl _ _).drew)
   clear HZ
   obtain ⟨y1, HY1, z1, k1⟩ := cat_of ⟨#[114, 111, 117, 116, 101, 32]⟩ t.name 6 3000 (by decide) hnm (by omega)
   obtain ⟨y2, HY2, z2, k2⟩ := cat_of y1 ⟨#[32]⟩ _ 1 z1 (by decide) (by omega)
   obtain ⟨y3, HY3, z3, k3⟩ := cat_of y2 (strB (decN t.base)) _ 21 z2 hbs (by omega)
   obtain ⟨y4, HY4, z4, k4⟩ := cat_of y3 ⟨#[32]⟩ _ 1 z3 (by decide) (by omega)
   obtain ⟨y5, HY5, z5, k5⟩ := cat_of y4 (strB (decN t.rate)) _ 21 z4 hrs (by omega)
   obtain ⟨y6, HY6, z6, k6⟩ := cat_of y5 ⟨#[59, 10]⟩ _ 2 z5 (by decide) (by omega)
   go_region_held3 (fun W => W.cell? ⟨X, 0, none⟩ = some (.string t.name) ∧ W.cell? ⟨X, 1, none⟩ = some (.int .i64 t.base) ∧ W.cell? ⟨X, 2, none⟩ = some (.int .i64 t.rate)) (first | assumption | go_keep) (first
    | (go_at_call 106; refine (HI.out _ _ (by assumption) (by assumption)).mono ?_; rintro e w7 ⟨rfl, HZ7, hS7⟩)
    | (go_at_call 105; refine (HW.out _ _ (by omega) (by assumption)).mono ?_; rintro e w7 ⟨rfl, HZE, hS7⟩))
   have HY : Hid (y6.data.toList = plRt t) := by
    show _ = _
    rw [HY6.out, HY5.out, HY4.out, HY3.out, HY2.out, HY1.out]
    simp [plRt, strB]
   clear hS7
   go_wp2
   go_roundg (n - (k + 1))
   case measure => omega
   case rel =>
    refine ⟨k + 1, by omega, rfl, by go_num, ?_, HZE.out.be, HZE.out.ok⟩
    show Bd _ _ _ _
    have e := HZE.out.bd
    rw [HY.out] at e
    rw [HTK.out]
    exact e
  ·have hki : ¬ (k : Int) < (n : Int) := by omega
   have ek : k = n := by omega
   subst ek
   have HBf : Hid (Bd wr B b (l0 ++ rts.flatMap plRt)) := by
    have e := HBd.out
    rw [List.take_of_length_le (by have := HN.out; omega)] at e
    exact e
   go_wp2_with fail
   go_end0
   exact ⟨rfl, HBf.out, HF.out, HOT.out⟩
end Go.Proofs.YtccikgogjfbpeaaGreatDoor
