/- The plain text of a book: the library's contracts; padded. Regions: spans, areas: within, has. Regions: cuts. Regions: having. Regions: cards, listed. -/
import Derived.Test.YtccikgogjfbpeaaGreatDoorYHa
import Derived.Test.YtccikgogjfbpeaaGreatDoorYShelf
import Derived.Test.YtccikgogjfbpeaaGreatDoorYZa
import Derived.Deep.RegionHeld3
import Derived.Lib.ItoaMem
import Derived.Lib.AppendIntMem
import Derived.Lib.ItoaLen
import Derived.Test.YtccikgogjfbpeaaGreatDoorYDf
namespace Go.Proofs.YtccikgogjfbpeaaGreatDoor
open Go.RowKit
def Tab (w : World) : Prop := Lib.TabIs Tryz.prog w "internal/strconv.uint64pow10" .u64 Lib.pow10Tab
theorem Tab.fr {w w' : World} (h : Tab w) (hf : Fr (fun _ => False) w w') : Tab w' := Lib.tabBelow_of_tabIs h w' (hf.below (Nat.le_refl _) (by simp))
def strB (l : List UInt8) : ByteArray := ⟨l.toArray⟩
theorem strB_size (l : List UInt8) : (strB l).size = l.length := rfl
theorem Itoa_any (n : Nat) (w : World) (hn : n ≤ 9223372036854775807) (ht : Tab w) : Calls Tryz.prog 106 #[.int .i64 (n : Int)] w fun e w' => e = .returned (.string (strB (decN n))) ∧ Fr (fun _ => False) w w' :=
 (Tryz.strconv_Itoa (n : Int) (by omega) (by omega) w ht).mono fun e w' ⟨he, k, os, hw⟩ => by
  rw [Lib.itoa_nonneg] at he
  refine ⟨he, ?_⟩
  subst hw
  refine ⟨rfl, rfl, rfl, ?_, fun i hi _ => ?_⟩
  ·show w.heap.size ≤ (w.heap ++ os).size
   simp
  ·show (w.heap ++ os)[i]? = w.heap[i]?
   exact Array.getElem?_append_left hi
def Bd (w : World) (B b : Nat) (l : List UInt8) : Prop := Lib.IsBuilderF 116 5 B b (Lib.byteCells l) w
end Go.Proofs.YtccikgogjfbpeaaGreatDoor

namespace Go.Proofs.YtccikgogjfbpeaaGreatDoor
open Go.RowKit
abbrev SpM := Nat × Nat
def inSp (s : SpM) (n : Nat) : Bool := decide (s.1 ≤ n) && decide (n ≤ s.2)
structure ArM where
 s0 : List SpM
 s1 : List SpM
 s2 : List SpM
 s3 : List SpM
def ArM.at (A : ArM) : Nat → List SpM
 | 0 => A.s0
 | 1 => A.s1
 | 2 => A.s2
 | _ => A.s3
def hasM (A : ArM) (side n : Nat) : Bool := (A.at side).any fun s => inSp s n
def SpAt (w : World) (a : Option Addr) (l : List SpM) : Prop := ∀ k s, l[k]? = some s → ∃ g o, a = some ⟨g, o, none⟩ ∧ w.cell? ⟨g, o + 2 * k, none⟩ = some (.int .i64 (s.1 : Nat)) ∧ w.cell? ⟨g, o + 2 * k + 1, none⟩ = some (.int .i64 (s.2 : Nat))
theorem SpAt.fr {w w' : World} {S : Nat → Prop} {a : Option Addr} {l : List SpM} (h : SpAt w a l) (hf : Fr S w w') (hS : ∀ g o, a = some ⟨g, o, none⟩ → ¬ S g) : SpAt w' a l := by
 intro k s hs
 obtain ⟨g, o, e, h1, h2⟩ := h k s hs
 exact ⟨g, o, e, (hf.cell (p := ⟨g, o + 2 * k, none⟩) (World.block_lt_of_cell? w _ h1) (hS g o e)).trans h1, (hf.cell (p := ⟨g, o + 2 * k + 1, none⟩) (World.block_lt_of_cell? w _ h2) (hS g o e)).trans h2⟩
structure SlM where
 a : Option Addr
 c : Nat
def spV (x : SlM) (l : List SpM) : Value := .slice x.a l.length x.c
structure ArV (w : World) (A : ArM) (x0 x1 x2 x3 : SlM) : Prop where
 p0 : SpAt w x0.a A.s0
 p1 : SpAt w x1.a A.s1
 p2 : SpAt w x2.a A.s2
 p3 : SpAt w x3.a A.s3
 few : ∀ k, (A.at k).length ≤ 10
theorem ArV.fr {w w' : World} {A : ArM} {x0 x1 x2 x3 : SlM} (h : ArV w A x0 x1 x2 x3) (hf : Fr (fun _ => False) w w') : ArV w' A x0 x1 x2 x3 := ⟨h.p0.fr hf (by simp), h.p1.fr hf (by simp), h.p2.fr hf (by simp), h.p3.fr hf (by simp), h.few⟩
def arCells (A : ArM) (x0 x1 x2 x3 : SlM) : Array Value := #[spV x0 A.s0, spV x1 A.s1, spV x2 A.s2, spV x3 A.s3]
def slAt (x0 x1 x2 x3 : SlM) : Nat → SlM
 | 0 => x0
 | 1 => x1
 | 2 => x2
 | _ => x3
theorem ArV.at {w : World} {A : ArM} {x0 x1 x2 x3 : SlM} (h : ArV w A x0 x1 x2 x3) (k : Nat) : SpAt w (slAt x0 x1 x2 x3 k).a (A.at k) := by
 unfold ArM.at slAt
 split
 ·exact h.p0
 ·exact h.p1
 ·exact h.p2
 ·exact h.p3
theorem ar_cell {w : World} {b : Nat} {A : ArM} {x0 x1 x2 x3 : SlM} {t : TypeId} (h : w.heap[b]? = some (.cells (arCells A x0 x1 x2 x3) t)) {k : Nat} (hk : k < 4) : w.cell? ⟨b, k, none⟩ = some (spV (slAt x0 x1 x2 x3 k) (A.at k)) := by
 have : k = 0 ∨ k = 1 ∨ k = 2 ∨ k = 3 := by omega
 rcases this with rfl | rfl | rfl | rfl
 ·exact block_cell h 0 _ rfl
 ·exact block_cell h 1 _ rfl
 ·exact block_cell h 2 _ rfl
 ·exact block_cell h 3 _ rfl
set_option maxRecDepth 30000 in
set_option maxHeartbeats 1000000 in
theorem within_any (w : World) (lo hi n : Nat) (lv hv nv : Int) (e1 : lv = lo) (e2 : hv = hi) (e3 : nv = n) :
  Calls Tryz.prog 264 #[.agg #[.int .i64 lv, .int .i64 hv], .int .i64 nv] w fun e w' => e = .returned (.bool (inSp (lo, hi) n)) ∧ Fr (fun _ => False) w w' := by
 subst e1 e2 e3
 have hb := heap_alloc_new w (.cells #[.int .i64 (lo : Int), .int .i64 (hi : Int)] 118)
 have x0 : (w.alloc (.cells #[.int .i64 (lo : Int), .int .i64 (hi : Int)] 118)).cell? ⟨w.heap.size, 0, none⟩ = some (.int .i64 (lo : Int)) := block_cell hb 0 _ rfl
 have x1 : (w.alloc (.cells #[.int .i64 (lo : Int), .int .i64 (hi : Int)] 118)).cell? ⟨w.heap.size, 1, none⟩ = some (.int .i64 (hi : Int)) := block_cell hb 1 _ rfl
 have HF : Hid (Fr (fun _ => False) w (w.alloc (.cells #[.int .i64 (lo : Int), .int .i64 (hi : Int)] 118))) := (Fr.refl _ _).alloc _
 clear hb
 by_cases h1 : lo ≤ n
 ·have h1i : (lo : Int) ≤ (n : Int) := by omega
  by_cases h2 : n ≤ hi
  ·have h2i : (n : Int) ≤ (hi : Int) := by omega
   have HV : Hid (inSp (lo, hi) n = true) := by show _ = _; simp [inSp, h1, h2]
   clear h1 h2
   go_enter Tryz.func264, Tryz.ntmps264
   go_wp2_with fail
   go_ret
   rw [HV.out]
   exact ⟨rfl, HF.out⟩
  ·have h2i : ¬ (n : Int) ≤ (hi : Int) := by omega
   have HV : Hid (inSp (lo, hi) n = false) := by show _ = _; simp [inSp, h1, h2]
   clear h1 h2
   go_enter Tryz.func264, Tryz.ntmps264
   go_wp2_with fail
   go_ret
   rw [HV.out]
   exact ⟨rfl, HF.out⟩
 ·have h1i : ¬ (lo : Int) ≤ (n : Int) := by omega
  have HV : Hid (inSp (lo, hi) n = false) := by show _ = _; simp [inSp, h1]
  clear h1
  go_enter Tryz.func264, Tryz.ntmps264
  go_wp2_with fail
  go_ret
  rw [HV.out]
  exact ⟨rfl, HF.out⟩
set_option maxRecDepth 30000 in
set_option maxHeartbeats 2000000 in
theorem has_area (w : World) (A : ArM) (x0 x1 x2 x3 : SlM) (side n : Nat) (sv nv : Int) (h : ArV w A x0 x1 x2 x3) (hs : side < 4) (e1 : sv = side) (e2 : nv = n) :
  Calls Tryz.prog 245 #[.agg #[spV x0 A.s0, spV x1 A.s1, spV x2 A.s2, spV x3 A.s3], .int .i64 sv, .int .i64 nv] w fun e w' => e = .returned (.bool (hasM A side n)) ∧ Fr (fun _ => False) w w' := by
 subst e1 e2
 have HA := hid h
 have hc := ar_cell (t := 215) (heap_alloc_new w (.cells (arCells A x0 x1 x2 x3) 215)) hs
 have HF0 : Hid (Fr (fun _ => False) w (w.alloc (.cells #[spV x0 A.s0, spV x1 A.s1, spV x2 A.s2, spV x3 A.s3] 215))) := (Fr.refl _ _).alloc _
 unfold arCells at hc
 obtain ⟨l, hl⟩ : ∃ l, A.at side = l := ⟨_, rfl⟩
 obtain ⟨x, hx⟩ : ∃ x, slAt x0 x1 x2 x3 side = x := ⟨_, rfl⟩
 have HS : Hid (SpAt w x.a l) := by have e := h.at side; rw [hl, hx] at e; exact e
 have HV : Hid (hasM A side n = l.any fun s => inSp s n) := by show _ = _; unfold hasM; rw [hl]
 have HLn : Hid (l.length ≤ 10) := by have e := h.few side; rw [hl] at e; exact e
 rw [hl, hx] at hc
 have hki : (side : Int) < 4 := by omega
 unfold spV at hc HF0 ⊢
 clear h hl hx
 go_enter Tryz.func245, Tryz.ntmps245
 go_wp2_with fail
 obtain ⟨N, hN⟩ : ∃ N, l.length = N := ⟨_, rfl⟩
 rw [hN] at hc ⊢
 have HN := hid hN
 have hN10 : N ≤ 10 := by have := HLn.out; omega
 clear hN hc
 go_loopg [8, 13] N (fun m _ iv wr => ∃ k, k ≤ N ∧ m = N - k ∧ iv = .int .i64 (k : Nat) ∧ Hid (hasM A side n = (l.drop k).any fun s => inSp s n) ∧ Hid (Fr (fun _ => False) w wr))
 case atStart => exact ⟨0, by omega, rfl, rfl, by show _ = _; rw [List.drop_zero]; exact HV.out, HF0⟩
 case round =>
  obtain ⟨k, hk, rfl, rfl, HR, HFr⟩ := hrel
  by_cases hlt : k < N
  ·have hki : (k : Int) < (N : Int) := by omega
   have hx := List.getElem?_eq_getElem (show k < l.length by have := HN.out; omega)
   obtain ⟨g, o, ea, h1, h2⟩ := (HS.out.fr HFr.out (by simp)) k _ hx
   have HD : Hid (hasM A side n = (inSp (l[k]'(by have := HN.out; omega)) n || (l.drop (k + 1)).any fun s => inSp s n)) := by
    show _ = _
    rw [HR.out, List.drop_eq_getElem_cons (by have := HN.out; omega), List.any_cons]
   generalize l[k]'(by have := HN.out; omega) = s at *
   obtain ⟨lo, hi⟩ := s
   dsimp only at h1 h2
   obtain ⟨xa, xc⟩ := x
   dsimp only at ea
   subst ea
   have HFa : Hid (Fr (fun _ => False) w (wr.alloc (.cells #[.int .i64 (lo : Nat), .int .i64 (hi : Nat)] 118))) := HFr.out.alloc _
   have hb := heap_alloc_new wr (.cells #[.int .i64 (lo : Int), .int .i64 (hi : Int)] 118)
   have z0 : (wr.alloc (.cells #[.int .i64 (lo : Int), .int .i64 (hi : Int)] 118)).cell? ⟨wr.heap.size, 0, none⟩ = some (.int .i64 (lo : Int)) := block_cell hb 0 _ rfl
   have z1 : (wr.alloc (.cells #[.int .i64 (lo : Int), .int .i64 (hi : Int)] 118)).cell? ⟨wr.heap.size, 1, none⟩ = some (.int .i64 (hi : Int)) := block_cell hb 1 _ rfl
   have hmul : (k : Int) * 2 = ((2 * k : Nat) : Int) := by omega
   rw [show o + 2 * k = o + k * 2 from by omega] at h1
   rw [show o + 2 * k + 1 = o + k * 2 + 1 from by omega] at h2
   have HWi : Hid (∀ W, Calls Tryz.prog 264 #[.agg #[.int .i64 (lo : Nat), .int .i64 (hi : Nat)], .int .i64 (n : Nat)] W fun e w' => e = .returned (.bool (inSp (lo, hi) n)) ∧ Fr (fun _ => False) W w') := fun W => within_any W lo hi n _ _ _ rfl rfl rfl
   clear hx hb hmul
   go_wp2_with fail
   refine (HWi.out _).mono ?_
   rintro e w5 ⟨rfl, hf5⟩
   have HF5 := hid (HFa.out.trans hf5)
   clear hf5 h1 h2 z0 z1 HFa
   cases hin : inSp (lo, hi) n with
   | true =>
    have HT : Hid (hasM A side n = true) := by show _ = _; rw [HD.out, hin]; rfl
    clear hin
    go_wp2_with fail
    go_ret
    rw [HT.out]
    exact ⟨rfl, HF5.out⟩
   | false =>
    have HT : Hid (hasM A side n = (l.drop (k + 1)).any fun s => inSp s n) := by show _ = _; rw [HD.out, hin]; rfl
    clear hin
    go_wp2_with fail
    go_roundg (N - (k + 1))
    case measure => omega
    case rel => exact ⟨k + 1, by omega, rfl, by go_num, HT, HF5⟩
  ·have hki : ¬ (k : Int) < (N : Int) := by omega
   have HE : Hid (hasM A side n = false) := by show _ = _; rw [HR.out, List.drop_of_length_le (by have := HN.out; omega)]; rfl
   go_wp2_with fail
   go_ret
   rw [HE.out]
   exact ⟨rfl, HFr.out⟩
end Go.Proofs.YtccikgogjfbpeaaGreatDoor

namespace Go.Proofs.YtccikgogjfbpeaaGreatDoor
open Go.RowKit
def cut1 (own : SpM) (n : Nat) : List Nat := if inSp own n then [n] else []
def cutS (own : SpM) (s : SpM) : List Nat := cut1 own s.1 ++ cut1 own (s.2 + 1)
def cutsM (own : SpM) (l : List SpM) : List Nat := l.flatMap (cutS own)
def cutJ (own s : SpM) : Nat → List Nat
 | 0 => []
 | 1 => cut1 own s.1
 | _ => cutS own s
theorem cut1_len (own : SpM) (n : Nat) : (cut1 own n).length ≤ 1 := by unfold cut1; split <;> simp
theorem cutS_len (own s : SpM) : (cutS own s).length ≤ 2 := by
 have h1 := cut1_len own s.1
 have h2 := cut1_len own (s.2 + 1)
 unfold cutS
 rw [List.length_append]
 omega
theorem cutsM_len (own : SpM) : ∀ l : List SpM, (cutsM own l).length ≤ 2 * l.length
 | [] => by simp [cutsM]
 | s :: r => by
  have h1 := cutsM_len own r
  have h2 := cutS_len own s
  simp only [cutsM, List.flatMap_cons, List.length_append, List.length_cons] at *
  omega
theorem cutsM_snoc (own : SpM) {l : List SpM} {k : Nat} {s : SpM} (h : l[k]? = some s) : cutsM own (l.take (k + 1)) = cutsM own (l.take k) ++ cutS own s := by
 rw [List.take_add_one, h]
 simp [cutsM]
theorem cutJ_len (own s : SpM) (j : Nat) : (cutJ own s j).length ≤ 2 := by
 unfold cutJ
 split
 ·simp
 ·have := cut1_len own s.1; omega
 ·exact cutS_len own s
theorem cut_y0 {own s : SpM} (h : inSp own s.1 = true) : cutJ own s (0 + 1) = cutJ own s 0 ++ [s.1] := by simp [cutJ, cut1, h]
theorem cut_n0 {own s : SpM} (h : inSp own s.1 = false) : cutJ own s (0 + 1) = cutJ own s 0 := by simp [cutJ, cut1, h]
theorem cut_y1 {own s : SpM} (h : inSp own (s.2 + 1) = true) : cutJ own s (1 + 1) = cutJ own s 1 ++ [s.2 + 1] := by
 show cutS own s = cut1 own s.1 ++ _
 unfold cutS
 congr 1
 unfold cut1
 rw [h]
 rfl
theorem cut_n1 {own s : SpM} (h : inSp own (s.2 + 1) = false) : cutJ own s (1 + 1) = cutJ own s 1 := by
 show cutS own s = cut1 own s.1
 unfold cutS
 rw [show cut1 own (s.2 + 1) = [] from by unfold cut1; rw [h]; rfl, List.append_nil]
set_option maxRecDepth 30000 in
set_option maxHeartbeats 4000000 in
theorem cuts_any (w : World) (own : SpM) (x : SlM) (l : List SpM) (hS : SpAt w x.a l) (hl : l.length ≤ 10) (hb : ∀ s, s ∈ l → s.1 ≤ 10000000000 ∧ s.2 ≤ 10000000000) :
  Calls Tryz.prog 242 #[.agg #[.int .i64 (own.1 : Nat), .int .i64 (own.2 : Nat)], .slice x.a l.length x.c] w fun e w' => (∃ v, e = .returned v ∧ w'.ownsRow w.heap.size 3 1 v (cutsM own l).length (intRow (cutsM own l)) ∧ ((cutsM own l).length = 0 → v = .slice none 0 0)) ∧ Fr (fun _ => False) w w' := by
 obtain ⟨ii, hi, hz0, hz1, hz2⟩ := info_parts Tryz.infoInt
 obtain ⟨lo, hiv⟩ := own
 dsimp only
 have HS := hid hS
 have HB := hid hb
 have HF0 : Hid (Fr (fun _ => False) w (w.alloc (.cells #[.int .i64 (lo : Nat), .int .i64 (hiv : Nat)] 118))) := (Fr.refl _ _).alloc _
 have HB0 : Hid ((w.alloc (.cells #[.int .i64 (lo : Nat), .int .i64 (hiv : Nat)] 118)).heap[w.heap.size]? = some (.cells #[.int .i64 (lo : Nat), .int .i64 (hiv : Nat)] 118)) := heap_alloc_new w _
 obtain ⟨N, hN⟩ : ∃ N, l.length = N := ⟨_, rfl⟩
 have HN := hid hN
 have hN10 : N ≤ 10 := by omega
 rw [hN]
 clear hS hb hl hN
 go_enter Tryz.func242, Tryz.ntmps242
 go_wp2_with fail
 generalize w.alloc (.cells #[.int .i64 (lo : Nat), .int .i64 (hiv : Nat)] 118) = w0 at *
 obtain ⟨P, hP⟩ : ∃ P, w.heap.size = P := ⟨_, rfl⟩
 have HP := hid hP
 rw [hP] at HB0
 rw [hP]
 clear hP
 go_loopg [5, 7, 9, 12] N (fun m ov _ _ iv wr => ∃ k, k ≤ N ∧ m = N - k ∧ iv = .int .i64 (k : Nat) ∧ Hid ((cutsM (lo, hiv) (l.take k)).length = 0 → ov = .slice none 0 0) ∧ Hid (wr.ownsRow (P + 1) 3 1 ov (cutsM (lo, hiv) (l.take k)).length (intRow (cutsM (lo, hiv) (l.take k)))) ∧ Hid (Fr (fun _ => False) w wr) ∧ Hid (wr.heap[P]? = some (.cells #[.int .i64 (lo : Nat), .int .i64 (hiv : Nat)] 118)))
 case atStart => exact ⟨0, by omega, rfl, rfl, fun _ => rfl, World.ownsRow_nil _ _ _ _, HF0, HB0⟩
 case round =>
  obtain ⟨k, hk, rfl, rfl, HZ, HO, HFr, HBr⟩ := hrel
  by_cases hlt : k < N
  ·have hki : (k : Int) < (N : Int) := by omega
   have hx := List.getElem?_eq_getElem (show k < l.length by have := HN.out; omega)
   obtain ⟨g, o, ea, h1, h2⟩ := (HS.out.fr HFr.out (by simp)) k _ hx
   have hsb := HB.out _ (List.getElem_mem (show k < l.length by have := HN.out; omega))
   have HSn := hid (cutsM_snoc (lo, hiv) hx)
   generalize l[k]'(by have := HN.out; omega) = s at *
   obtain ⟨a1, a2⟩ := s
   dsimp only at h1 h2 hsb
   obtain ⟨xa, xc⟩ := x
   dsimp only at ea
   subst ea
   rw [show o + 2 * k = o + k * 2 from by omega] at h1
   rw [show o + 2 * k + 1 = o + k * 2 + 1 from by omega] at h2
   have hb := heap_alloc_new wr (.cells #[.int .i64 (a1 : Int), .int .i64 (a2 : Int)] 118)
   have z0 : (wr.alloc (.cells #[.int .i64 (a1 : Int), .int .i64 (a2 : Int)] 118)).cell? ⟨wr.heap.size, 0, none⟩ = some (.int .i64 (a1 : Int)) := block_cell hb 0 _ rfl
   have z1 : (wr.alloc (.cells #[.int .i64 (a1 : Int), .int .i64 (a2 : Int)] 118)).cell? ⟨wr.heap.size, 1, none⟩ = some (.int .i64 (a2 : Int)) := block_cell hb 1 _ rfl
   have HFa : Hid (Fr (fun _ => False) wr (wr.alloc (.cells #[.int .i64 (a1 : Int), .int .i64 (a2 : Int)] 118))) := (Fr.refl _ _).alloc _
   clear hx hb
   go_wp2_with fail
   clear h1 h2 z0 z1
   have HF1 := hid (HFr.out.trans HFa.out)
   have HO1 := hid (ownsRow_fr HO.out HFa.out (by simp))
   have HB1 := hid (HFa.out.whole HBr.out (by simp))
   generalize wr.alloc (.cells #[.int .i64 (a1 : Int), .int .i64 (a2 : Int)] 118) = w1 at *
   clear HO HFr HBr HFa
   go_loopg [5, 9, 22] 2 (fun m ov _ jv wq => ∃ j, j ≤ 2 ∧ m = 2 - j ∧ jv = .int .i64 (j : Nat) ∧ Hid ((cutsM (lo, hiv) (l.take k) ++ cutJ (lo, hiv) (a1, a2) j).length = 0 → ov = .slice none 0 0) ∧ Hid (wq.ownsRow (P + 1) 3 1 ov (cutsM (lo, hiv) (l.take k) ++ cutJ (lo, hiv) (a1, a2) j).length (intRow (cutsM (lo, hiv) (l.take k) ++ cutJ (lo, hiv) (a1, a2) j))) ∧ Hid (Fr (fun _ => False) w wq) ∧ Hid (wq.heap[P]? = some (.cells #[.int .i64 (lo : Nat), .int .i64 (hiv : Nat)] 118)))
   case atStart => exact ⟨0, by omega, rfl, rfl, fun h => HZ.out (by simpa [cutJ] using h), by show World.ownsRow _ _ _ _ _ _ _; simpa [cutJ] using HO1.out, HF1, HB1⟩
   case round =>
    obtain ⟨j, hj, rfl, rfl, HZj, HOj, HFj, HBj⟩ := hrel
    obtain ⟨oa, oc, ho⟩ := ownsRow_len HOj.out
    subst ho
    obtain ⟨nn, hnn⟩ : ∃ nn, (cutsM (lo, hiv) (l.take k) ++ cutJ (lo, hiv) (a1, a2) j).length = nn := ⟨_, rfl⟩
    have hnb : nn ≤ 40 := by
     rw [← hnn, List.length_append]
     have e1 := cutsM_len (lo, hiv) (l.take k)
     have e2 := cutJ_len (lo, hiv) (a1, a2) j
     rw [List.length_take] at e1
     omega
    have HNN := hid hnn
    rw [hnn] at HOj HZj
    rw [hnn]
    by_cases hj2 : j < 2
    ·have z0 := block_cell HBj.out 0 _ rfl
     have z1 := block_cell HBj.out 1 _ rfl
     clear hnn
     have hj01 : j = 0 ∨ j = 1 := by omega
     rcases hj01 with e | e
     ·subst e
      have hix : ∀ W : World, (Instr.index 355 (.agg #[.int .i64 (a1 : Int), .int .i64 ((a2 : Int) + 1)]) (.int .i64 0)).run Tryz.prog W = .ok (.int .i64 ((a1 : Nat) : Int)) W := fun _ => by kernel_rfl
      have HWi : Hid (∀ (W : World) (nv : Int), nv = ((a1 : Nat) : Int) → Calls Tryz.prog 264 #[.agg #[.int .i64 (lo : Nat), .int .i64 (hiv : Nat)], .int .i64 nv] W fun e w' => e = .returned (.bool (inSp (lo, hiv) (a1))) ∧ Fr (fun _ => False) W w') := fun W nv e => within_any W lo hiv (a1) _ _ _ rfl rfl e
      go_wp2_with fail
      refine (HWi.out _ ((a1 : Nat) : Int) (by omega)).mono ?_
      rintro e w5 ⟨rfl, hf5⟩
      have HF5 := hid (HFj.out.trans hf5)
      have HO5 := hid (ownsRow_fr HOj.out hf5 (by simp))
      have HB5 := hid (hf5.whole HBj.out (by simp))
      clear hf5 z0 z1 HWi hix
      cases hin : inSp (lo, hiv) (a1) with
      | true =>
       have HC : Hid (cutJ (lo, hiv) (a1, a2) (0 + 1) = cutJ (lo, hiv) (a1, a2) 0 ++ [a1]) := cut_y0 hin
       clear hin
       go_wp2_with (at_builtin; refine wpList_append_lies _ rfl (.tmp 28) (.tmp 30) 25 rfl (P + 1) 3 ii _ 1 8 Tryz.underlying25 hi hz0 hz1 hz2 rfl (by decide) (.slice oa nn oc) nn (intRow (cutsM (lo, hiv) (l.take k) ++ cutJ (lo, hiv) (a1, a2) 0)) rfl ?q1 ⟨w5.heap.size, 0, none⟩ 1 1 [.int .i64 ((a1 : Nat) : Int)] rfl rfl ?q2 ?q3 (by decide) ?q4 ?q5 ?q6 _ rfl ?q7)
       case q1 => exact HO5.out.alloc _
       case q2 => exact World.news_of_block (heap_alloc_new w5 (.cells #[.int .i64 ((a1 : Nat) : Int)] 3))
       case q3 => simp [Value.oneCell']
       case q4 => unfold maxLen; omega
       case q5 => omega
       case q6 => have h6 := HF5.out.size; have h7 := (Array.getElem?_eq_some_iff.1 HB5.out).1; simp; omega
       case q7 =>
        intro g2 cap2 w8 hown hgrow hor _
        have hlo : ∀ k, (Value.slice oa nn oc).ownBlock = some k → P + 1 ≤ k := fun k hk => (HO5.out.lt k hk).1
        have HF8 := hid ((HF5.out.alloc _).grown hgrow (fun k hk => Or.inr (by have := hlo k hk; have := HP.out; omega)))
        have HB8 := hid ((((Fr.refl (fun k => (Value.slice oa nn oc).ownBlock = some k) w5).alloc _).grown hgrow (fun k hk => Or.inl hk)).whole HB5.out (fun e => by have := hlo P e; omega))
        have HO8 : Hid (w8.ownsRow (P + 1) 3 1 (.slice (some ⟨g2, 0, none⟩) (nn + 1) cap2) (cutsM (lo, hiv) (l.take k) ++ cutJ (lo, hiv) (a1, a2) (0 + 1)).length (intRow (cutsM (lo, hiv) (l.take k) ++ cutJ (lo, hiv) (a1, a2) (0 + 1)))) := by
         rw [HC.out, ← List.append_assoc, intRow_snoc, List.length_append, HNN.out]
         exact hown
        clear hown hgrow hor hlo
        go_wp2_with fail
        go_roundg (2 - (0 + 1))
        case measure => omega
        case rel => exact ⟨0 + 1, by omega, rfl, by go_num, fun h => by rw [HC.out] at h; simp at h, HO8, HF8, HB8⟩
      | false =>
       have HC : Hid (cutJ (lo, hiv) (a1, a2) (0 + 1) = cutJ (lo, hiv) (a1, a2) 0) := cut_n0 hin
       have HO6 : Hid (w5.ownsRow (P + 1) 3 1 (.slice oa nn oc) (cutsM (lo, hiv) (l.take k) ++ cutJ (lo, hiv) (a1, a2) (0 + 1)).length (intRow (cutsM (lo, hiv) (l.take k) ++ cutJ (lo, hiv) (a1, a2) (0 + 1)))) := by
        rw [HC.out, HNN.out]
        exact HO5.out
       clear hin
       go_wp2_with fail
       go_roundg (2 - (0 + 1))
       case measure => omega
       case rel => exact ⟨0 + 1, by omega, rfl, by go_num, fun h => HZj.out (by rw [HC.out, HNN.out] at h; exact h), HO6, HF5, HB5⟩
     ·subst e
      have hix : ∀ W : World, (Instr.index 355 (.agg #[.int .i64 (a1 : Int), .int .i64 ((a2 : Int) + 1)]) (.int .i64 1)).run Tryz.prog W = .ok (.int .i64 (((a2 : Nat) : Int) + 1)) W := fun _ => by kernel_rfl
      have HWi : Hid (∀ (W : World) (nv : Int), nv = (((a2 + 1) : Nat) : Int) → Calls Tryz.prog 264 #[.agg #[.int .i64 (lo : Nat), .int .i64 (hiv : Nat)], .int .i64 nv] W fun e w' => e = .returned (.bool (inSp (lo, hiv) ((a2 + 1)))) ∧ Fr (fun _ => False) W w') := fun W nv e => within_any W lo hiv ((a2 + 1)) _ _ _ rfl rfl e
      go_wp2_with fail
      refine (HWi.out _ (((a2 : Nat) : Int) + 1) (by omega)).mono ?_
      rintro e w5 ⟨rfl, hf5⟩
      have HF5 := hid (HFj.out.trans hf5)
      have HO5 := hid (ownsRow_fr HOj.out hf5 (by simp))
      have HB5 := hid (hf5.whole HBj.out (by simp))
      clear hf5 z0 z1 HWi hix
      cases hin : inSp (lo, hiv) ((a2 + 1)) with
      | true =>
       have HC : Hid (cutJ (lo, hiv) (a1, a2) (1 + 1) = cutJ (lo, hiv) (a1, a2) 1 ++ [(a2 + 1)]) := cut_y1 hin
       clear hin
       go_wp2_with (at_builtin; refine wpList_append_lies _ rfl (.tmp 28) (.tmp 30) 25 rfl (P + 1) 3 ii _ 1 8 Tryz.underlying25 hi hz0 hz1 hz2 rfl (by decide) (.slice oa nn oc) nn (intRow (cutsM (lo, hiv) (l.take k) ++ cutJ (lo, hiv) (a1, a2) 1)) rfl ?r1 ⟨w5.heap.size, 0, none⟩ 1 1 [.int .i64 (((a2 : Nat) : Int) + 1)] rfl rfl ?r2 ?r3 (by decide) ?r4 ?r5 ?r6 _ rfl ?r7)
       case r1 => exact HO5.out.alloc _
       case r2 => exact World.news_of_block (heap_alloc_new w5 (.cells #[.int .i64 (((a2 : Nat) : Int) + 1)] 3))
       case r3 => simp [Value.oneCell']
       case r4 => unfold maxLen; omega
       case r5 => omega
       case r6 => have h6 := HF5.out.size; have h7 := (Array.getElem?_eq_some_iff.1 HB5.out).1; simp; omega
       case r7 =>
        intro g2 cap2 w8 hown hgrow hor _
        have hlo : ∀ k, (Value.slice oa nn oc).ownBlock = some k → P + 1 ≤ k := fun k hk => (HO5.out.lt k hk).1
        have HF8 := hid ((HF5.out.alloc _).grown hgrow (fun k hk => Or.inr (by have := hlo k hk; have := HP.out; omega)))
        have HB8 := hid ((((Fr.refl (fun k => (Value.slice oa nn oc).ownBlock = some k) w5).alloc _).grown hgrow (fun k hk => Or.inl hk)).whole HB5.out (fun e => by have := hlo P e; omega))
        have HO8 : Hid (w8.ownsRow (P + 1) 3 1 (.slice (some ⟨g2, 0, none⟩) (nn + 1) cap2) (cutsM (lo, hiv) (l.take k) ++ cutJ (lo, hiv) (a1, a2) (1 + 1)).length (intRow (cutsM (lo, hiv) (l.take k) ++ cutJ (lo, hiv) (a1, a2) (1 + 1)))) := by
         rw [HC.out, ← List.append_assoc, intRow_snoc, List.length_append, HNN.out]
         exact hown
        clear hown hgrow hor hlo
        go_wp2_with fail
        go_roundg (2 - (1 + 1))
        case measure => omega
        case rel => exact ⟨1 + 1, by omega, rfl, by go_num, fun h => by rw [HC.out] at h; simp at h, HO8, HF8, HB8⟩
      | false =>
       have HC : Hid (cutJ (lo, hiv) (a1, a2) (1 + 1) = cutJ (lo, hiv) (a1, a2) 1) := cut_n1 hin
       have HO6 : Hid (w5.ownsRow (P + 1) 3 1 (.slice oa nn oc) (cutsM (lo, hiv) (l.take k) ++ cutJ (lo, hiv) (a1, a2) (1 + 1)).length (intRow (cutsM (lo, hiv) (l.take k) ++ cutJ (lo, hiv) (a1, a2) (1 + 1)))) := by
        rw [HC.out, HNN.out]
        exact HO5.out
       clear hin
       go_wp2_with fail
       go_roundg (2 - (1 + 1))
       case measure => omega
       case rel => exact ⟨1 + 1, by omega, rfl, by go_num, fun h => HZj.out (by rw [HC.out, HNN.out] at h; exact h), HO6, HF5, HB5⟩
    ·have hji : ¬ (j : Int) < 2 := by omega
     have ej : j = 2 := by omega
     have HZn : Hid ((cutsM (lo, hiv) (l.take (k + 1))).length = 0 → Value.slice oa nn oc = .slice none 0 0) := fun h => HZj.out (by rw [show cutsM (lo, hiv) (l.take (k + 1)) = cutsM (lo, hiv) (l.take k) ++ cutJ (lo, hiv) (a1, a2) j from by rw [HSn.out, ej]; rfl, HNN.out] at h; exact h)
     have HOn : Hid (wr.ownsRow (P + 1) 3 1 (.slice oa nn oc) (cutsM (lo, hiv) (l.take (k + 1))).length (intRow (cutsM (lo, hiv) (l.take (k + 1))))) := by
      have e := HOj.out
      rw [show cutsM (lo, hiv) (l.take (k + 1)) = cutsM (lo, hiv) (l.take k) ++ cutJ (lo, hiv) (a1, a2) j from by rw [HSn.out, ej]; rfl, HNN.out]
      exact e
     clear ej hnn
     go_wp2_with fail
     go_roundg (N - (k + 1))
     case measure => omega
     case rel => exact ⟨k + 1, by omega, rfl, by go_num, HZn, HOn, HFj, HBj⟩
  ·have hki : ¬ (k : Int) < (N : Int) := by omega
   have HE : Hid (l.take k = l) := by show _ = _; rw [List.take_of_length_le (by have := HN.out; omega)]
   go_wp2_with fail
   go_ret
   refine ⟨⟨_, rfl, ?_, fun h => HZ.out (by rw [HE.out]; simpa using h)⟩, HFr.out⟩
   have e := HO.out
   rw [HE.out] at e
   exact ownsRow_base e (by have := HP.out; omega)
end Go.Proofs.YtccikgogjfbpeaaGreatDoor

namespace Go.Proofs.YtccikgogjfbpeaaGreatDoor
open Go.RowKit
structure ArE where
 A : ArM
 x0 : SlM
 x1 : SlM
 x2 : SlM
 x3 : SlM
def arRow (e : ArE) : List Value := [spV e.x0 e.A.s0, spV e.x1 e.A.s1, spV e.x2 e.A.s2, spV e.x3 e.A.s3]
def arRows (es : List ArE) : List Value := es.flatMap arRow
theorem arRows_snoc (es : List ArE) (e : ArE) : arRows (es ++ [e]) = arRows es ++ arRow e := by simp [arRows]
def ArE.ok (w : World) (e : ArE) : Prop := ArV w e.A e.x0 e.x1 e.x2 e.x3
def ArsAt (w : World) (a : Option Addr) (es : List ArE) : Prop := ∀ k e, es[k]? = some e → e.ok w ∧ ∃ g o, a = some ⟨g, o, none⟩ ∧ ∀ j v, (arRow e)[j]? = some v → w.cell? ⟨g, o + k * 4 + j, none⟩ = some v
theorem ArsAt.fr {w w' : World} {a : Option Addr} {es : List ArE} (h : ArsAt w a es) (hf : Fr (fun _ => False) w w') : ArsAt w' a es := by
 intro k e he
 obtain ⟨h0, g, o, ea, hc⟩ := h k e he
 exact ⟨h0.fr hf, g, o, ea, fun j v hv => (hf.cell (p := ⟨g, o + k * 4 + j, none⟩) (World.block_lt_of_cell? w _ (hc j v hv)) (by simp)).trans (hc j v hv)⟩
def havE (side n : Nat) (es : List ArE) : List ArE := es.filter fun e => hasM e.A side n
theorem havE_snoc {side n : Nat} {es : List ArE} {k : Nat} {e : ArE} (h : es[k]? = some e) : havE side n (es.take (k + 1)) = havE side n (es.take k) ++ (if hasM e.A side n then [e] else []) := by
 rw [List.take_add_one, h]
 simp only [havE, Option.toList, List.filter_append]
 congr 1
 cases hh : hasM e.A side n <;> simp [hh]
theorem havE_len (side n : Nat) (es : List ArE) : (havE side n es).length ≤ es.length := List.length_filter_le _ _
theorem Tryz.infoArea : (Tryz.prog.info? 215).map (fun i => (i.zero, i.size, i.bytes)) = some (some (.agg #[.slice none 0 0, .slice none 0 0, .slice none 0 0, .slice none 0 0]), 4, 96) := by kernel_rfl
set_option maxRecDepth 30000 in
set_option maxHeartbeats 4000000 in
theorem having_any (w : World) (side n : Nat) (a : Option Addr) (c : Nat) (es : List ArE) (hs : side < 4) (h : ArsAt w a es) (hl : es.length ≤ 10) :
  Calls Tryz.prog 214 #[.int .i64 (side : Nat), .int .i64 (n : Nat), .slice a es.length c] w fun e w' => (∃ v, e = .returned v ∧ w'.ownsRow w.heap.size 215 4 v (havE side n es).length (arRows (havE side n es))) ∧ Fr (fun _ => False) w w' := by
 obtain ⟨ii, hi, hz0, hz1, hz2⟩ := info_parts Tryz.infoArea
 have HA := hid h
 obtain ⟨N, hN⟩ : ∃ N, es.length = N := ⟨_, rfl⟩
 have HN := hid hN
 have hN10 : N ≤ 10 := by omega
 have HSd := hid hs
 rw [hN]
 clear h hl hN
 go_enter Tryz.func214, Tryz.ntmps214
 go_wp2_with fail
 go_loopg [7, 9, 12] N (fun m ov _ iv wr => ∃ k, k ≤ N ∧ m = N - k ∧ iv = .int .i64 (k : Nat) ∧ Hid (wr.ownsRow w.heap.size 215 4 ov (havE side n (es.take k)).length (arRows (havE side n (es.take k)))) ∧ Hid (Fr (fun _ => False) w wr))
 case atStart => exact ⟨0, by omega, rfl, rfl, World.ownsRow_nil _ _ _ _, Fr.refl _ _⟩
 case round =>
  obtain ⟨k, hk, rfl, rfl, HO, HFr⟩ := hrel
  by_cases hlt : k < N
  ·have hki : (k : Int) < (N : Int) := by omega
   obtain ⟨oa, oc, ho⟩ := ownsRow_len HO.out
   subst ho
   obtain ⟨nn, hnn⟩ : ∃ nn, (havE side n (es.take k)).length = nn := ⟨_, rfl⟩
   have hnb : nn ≤ 10 := by rw [← hnn]; have h1 := havE_len side n (es.take k); rw [List.length_take] at h1; omega
   have HNN := hid hnn
   rw [hnn] at HO
   rw [hnn]
   have hx := List.getElem?_eq_getElem (show k < es.length by have := HN.out; omega)
   obtain ⟨h0, g, o, ea, hc⟩ := (HA.out.fr HFr.out) k _ hx
   have HSn := hid (havE_snoc (side := side) (n := n) hx)
   generalize es[k]'(by have := HN.out; omega) = e at *
   subst ea
   obtain ⟨A, x0, x1, x2, x3⟩ := e
   have H0 := hid h0
   have c0 : wr.cell? ⟨g, o + k * 4, none⟩ = some (.slice x0.a A.s0.length x0.c) := hc 0 _ rfl
   have c1 : wr.cell? ⟨g, o + k * 4 + 1, none⟩ = some (.slice x1.a A.s1.length x1.c) := hc 1 _ rfl
   have c2 : wr.cell? ⟨g, o + k * 4 + 2, none⟩ = some (.slice x2.a A.s2.length x2.c) := hc 2 _ rfl
   have c3 : wr.cell? ⟨g, o + k * 4 + 3, none⟩ = some (.slice x3.a A.s3.length x3.c) := hc 3 _ rfl
   have HFa : Hid (Fr (fun _ => False) wr (wr.alloc (.cells #[.slice x0.a A.s0.length x0.c, .slice x1.a A.s1.length x1.c, .slice x2.a A.s2.length x2.c, .slice x3.a A.s3.length x3.c] 215))) := (Fr.refl _ _).alloc _
   have HBa : Hid ((wr.alloc (.cells #[.slice x0.a A.s0.length x0.c, .slice x1.a A.s1.length x1.c, .slice x2.a A.s2.length x2.c, .slice x3.a A.s3.length x3.c] 215)).heap[wr.heap.size]? = some (.cells #[.slice x0.a A.s0.length x0.c, .slice x1.a A.s1.length x1.c, .slice x2.a A.s2.length x2.c, .slice x3.a A.s3.length x3.c] 215)) := heap_alloc_new wr _
   clear hc hx h0 hnn
   go_upto_region 5 with fail
   clear c0 c1 c2 c3
   have HO1 := hid (ownsRow_fr HO.out HFa.out (by simp))
   have HF1 := hid (HFr.out.trans HFa.out)
   have H01 : Hid (ArV _ A x0 x1 x2 x3) := hid (H0.out.fr HFa.out)
   generalize wr.alloc (.cells #[.slice x0.a A.s0.length x0.c, .slice x1.a A.s1.length x1.c, .slice x2.a A.s2.length x2.c, .slice x3.a A.s3.length x3.c] 215) = w1 at *
   obtain ⟨Q, hQ⟩ : ∃ Q, wr.heap.size = Q := ⟨_, rfl⟩
   rw [hQ] at HBa
   rw [hQ]
   clear hQ HFa HO HFr H0
   have y0 : w1.cell? ⟨Q, 0, none⟩ = some (.slice x0.a A.s0.length x0.c) := block_cell HBa.out 0 _ rfl
   have y1 : w1.cell? ⟨Q, 1, none⟩ = some (.slice x1.a A.s1.length x1.c) := block_cell HBa.out 1 _ rfl
   have y2 : w1.cell? ⟨Q, 2, none⟩ = some (.slice x2.a A.s2.length x2.c) := block_cell HBa.out 2 _ rfl
   have y3 : w1.cell? ⟨Q, 3, none⟩ = some (.slice x3.a A.s3.length x3.c) := block_cell HBa.out 3 _ rfl
   go_wp2_with fail
   refine (has_area w1 A x0 x1 x2 x3 side n _ _ H01.out HSd.out rfl rfl).mono ?_
   rintro e w5 ⟨rfl, hf5⟩
   have HF5 := hid (HF1.out.trans hf5)
   have HO5 := hid (ownsRow_fr HO1.out hf5 (by simp))
   have HB5 := hid (hf5.whole HBa.out (by simp))
   clear hf5 y0 y1 y2 y3 HF1 HO1 HBa
   cases hh : hasM A side n with
   | true =>
    have HC : Hid (havE side n (es.take (k + 1)) = havE side n (es.take k) ++ [⟨A, x0, x1, x2, x3⟩]) := by show _ = _; rw [HSn.out]; simp [hh]
    have y0 : w5.cell? ⟨Q, 0, none⟩ = some (.slice x0.a A.s0.length x0.c) := block_cell HB5.out 0 _ rfl
    have y1 : w5.cell? ⟨Q, 1, none⟩ = some (.slice x1.a A.s1.length x1.c) := block_cell HB5.out 1 _ rfl
    have y2 : w5.cell? ⟨Q, 2, none⟩ = some (.slice x2.a A.s2.length x2.c) := block_cell HB5.out 2 _ rfl
    have y3 : w5.cell? ⟨Q, 3, none⟩ = some (.slice x3.a A.s3.length x3.c) := block_cell HB5.out 3 _ rfl
    clear hh
    go_wp2_with (at_builtin; refine wpList_append_lies _ rfl (.tmp 20) (.tmp 22) 217 rfl w.heap.size 215 ii _ 4 96 Tryz.underlying217 hi hz0 hz1 hz2 rfl (by decide) (.slice oa nn oc) nn (arRows (havE side n (es.take k))) rfl ?h1 ⟨w5.heap.size, 0, none⟩ 1 1 [.slice x0.a A.s0.length x0.c, .slice x1.a A.s1.length x1.c, .slice x2.a A.s2.length x2.c, .slice x3.a A.s3.length x3.c] rfl rfl ?h2 ?h3 (by decide) ?h4 ?h5 ?h6 _ rfl ?h7)
    case h1 => exact HO5.out.alloc _
    case h2 => exact World.news_of_block (heap_alloc_new w5 (.cells #[.slice x0.a A.s0.length x0.c, .slice x1.a A.s1.length x1.c, .slice x2.a A.s2.length x2.c, .slice x3.a A.s3.length x3.c] 215))
    case h3 => simp [Value.oneCell']
    case h4 => unfold maxLen; omega
    case h5 => omega
    case h6 => have := HF5.out.size; simp; omega
    case h7 =>
     intro g2 cap2 w8 hown hgrow hor _
     have HF8 := hid ((HF5.out.alloc _).grown hgrow (fun k hk => Or.inr (HO5.out.lt k hk).1))
     have HO8 : Hid (w8.ownsRow w.heap.size 215 4 (.slice (some ⟨g2, 0, none⟩) (nn + 1) cap2) (havE side n (es.take (k + 1))).length (arRows (havE side n (es.take (k + 1))))) := by
      rw [HC.out, arRows_snoc, List.length_append, HNN.out]
      exact hown
     clear hown hgrow hor y0 y1 y2 y3
     go_wp2_with fail
     go_roundg (N - (k + 1))
     case measure => omega
     case rel => exact ⟨k + 1, by omega, rfl, by go_num, HO8, HF8⟩
   | false =>
    have HO6 : Hid (w5.ownsRow w.heap.size 215 4 (.slice oa nn oc) (havE side n (es.take (k + 1))).length (arRows (havE side n (es.take (k + 1))))) := by
     have e : havE side n (es.take (k + 1)) = havE side n (es.take k) := by rw [HSn.out]; simp [hh]
     rw [e, HNN.out]
     exact HO5.out
    clear hh
    go_wp2_with fail
    go_roundg (N - (k + 1))
    case measure => omega
    case rel => exact ⟨k + 1, by omega, rfl, by go_num, HO6, HF5⟩
  ·have hki : ¬ (k : Int) < (N : Int) := by omega
   have HE : Hid (es.take k = es) := by show _ = _; rw [List.take_of_length_le (by have := HN.out; omega)]
   go_wp2_with fail
   go_ret
   refine ⟨⟨_, rfl, ?_⟩, HFr.out⟩
   have e := HO.out
   rw [HE.out] at e
   exact e
end Go.Proofs.YtccikgogjfbpeaaGreatDoor

namespace Go.Proofs.YtccikgogjfbpeaaGreatDoor
open Go.RowKit
def cardsM (d lo hi : Nat) : SpM := (lo * 10 ^ (6 - d), (hi + 1) * 10 ^ (6 - d) - 1)
theorem pow6 {k : Nat} (h : k ≤ 6) : 10 ^ k ≤ 1000000 := Nat.pow_le_pow_right (by decide) h
set_option maxRecDepth 30000 in
set_option maxHeartbeats 4000000 in
theorem cards_any (w : World) (nm : ByteArray) (rk dg lo hi : Nat) (ma : Option Addr) (mn mc : Nat) (has : Bool) (a7 a8 : Nat) (ca : Option Addr) (cn cc : Nat) (dc ch : Bool) (pa : Option Addr) (pn pc : Nat) (ah : Nat) (hd : dg ≤ 6) (hlo : lo ≤ hi) (hhi : hi < 1000000) :
  Calls Tryz.prog 173 #[rlV nm rk dg lo hi ma mn mc has a7 a8 ca cn cc dc ch pa pn pc ah] w fun e w' => e = .returned (.agg #[.int .i64 ((cardsM dg lo hi).1 : Nat), .int .i64 ((cardsM dg lo hi).2 : Nat)]) ∧ Fr (fun _ => False) w w' := by
 have HB0 : Hid ((w.alloc (rlO nm rk dg lo hi ma mn mc has a7 a8 ca cn cc dc ch pa pn pc ah)).heap[w.heap.size]? = some (rlO nm rk dg lo hi ma mn mc has a7 a8 ca cn cc dc ch pa pn pc ah)) := heap_alloc_new w _
 have HF0 : Hid (Fr (fun _ => False) w (w.alloc (rlO nm rk dg lo hi ma mn mc has a7 a8 ca cn cc dc ch pa pn pc ah))) := (Fr.refl _ _).alloc _
 have HB1 : Hid (((w.alloc (rlO nm rk dg lo hi ma mn mc has a7 a8 ca cn cc dc ch pa pn pc ah)).alloc (.cells #[.int .i64 0, .int .i64 0] 118)).heap[w.heap.size + 1]? = some (.cells #[.int .i64 0, .int .i64 0] 118)) := by
  have e := heap_alloc_new (w.alloc (rlO nm rk dg lo hi ma mn mc has a7 a8 ca cn cc dc ch pa pn pc ah)) (.cells #[.int .i64 0, .int .i64 0] 118)
  rw [show (w.alloc (rlO nm rk dg lo hi ma mn mc has a7 a8 ca cn cc dc ch pa pn pc ah)).heap.size = w.heap.size + 1 from by simp] at e
  exact e
 have HF1 : Hid (Fr (fun _ => False) (w.alloc (rlO nm rk dg lo hi ma mn mc has a7 a8 ca cn cc dc ch pa pn pc ah)) ((w.alloc (rlO nm rk dg lo hi ma mn mc has a7 a8 ca cn cc dc ch pa pn pc ah)).alloc (.cells #[.int .i64 0, .int .i64 0] 118))) := (Fr.refl _ _).alloc _
 unfold rlO at HB0 HF0 HB1 HF1
 unfold rlV
 go_enter Tryz.func173, Tryz.ntmps173
 go_upto_region 1 with fail
 generalize w.alloc (.cells #[.string nm, .int .i64 rk, .int .i64 dg, .int .i64 lo, .int .i64 hi, .slice ma mn mc, .bool has, .int .i64 a7, .int .i64 a8, .slice ca cn cc, .bool dc, .bool ch, .slice pa pn pc, .int .i64 ah] 120) = w0 at *
 generalize w0.alloc (.cells #[.int .i64 0, .int .i64 0] 118) = w1 at *
 have HBr := hid (HF1.out.whole HB0.out (by simp))
 have HFr := hid (HF0.out.trans HF1.out)
 obtain ⟨P, hP⟩ : ∃ P, w.heap.size = P := ⟨_, rfl⟩
 have HP := hid hP
 rw [hP] at HBr HB1
 rw [hP]
 clear hP HB0 HF0 HF1
 have x2 : w1.cell? ⟨P, 2, none⟩ = some (.int .i64 (dg : Nat)) := block_cell HBr.out 2 _ rfl
 have x3 : w1.cell? ⟨P, 3, none⟩ = some (.int .i64 (lo : Nat)) := block_cell HBr.out 3 _ rfl
 have x4 : w1.cell? ⟨P, 4, none⟩ = some (.int .i64 (hi : Nat)) := block_cell HBr.out 4 _ rfl
 obtain ⟨q, hq⟩ : ∃ q, 6 - dg = q := ⟨_, rfl⟩
 have hqi : (6 : Int) - (dg : Int) = (q : Int) := by omega
 have hq6 : q ≤ 6 := by omega
 have HC : Hid (cardsM dg lo hi = (lo * 10 ^ q, (hi + 1) * 10 ^ q - 1)) := by show _ = _; unfold cardsM; rw [hq]
 go_wp2_with fail
 try rw [hqi]
 clear hqi hq hd
 go_loop [3, 7] (fun zv kv => ∃ k : Nat, k ≤ q ∧ zv = .int .i64 ((10 ^ k : Nat) : Int) ∧ kv = .int .i64 (k : Nat)) (fun _ kv => q - (intOf kv).toNat)
 case atStart => exact ⟨0, by omega, rfl, rfl⟩
 case round =>
  obtain ⟨k, hk, rfl, rfl⟩ := hrel
  by_cases hlt : k < q
  ·have hki : (k : Int) < (q : Int) := by omega
   obtain ⟨Z, hZ⟩ : ∃ Z, 10 ^ k = Z := ⟨_, rfl⟩
   have hZb : Z ≤ 1000000 := by rw [← hZ]; exact pow6 (by omega)
   rw [hZ]
   go_wp2_with fail
   exact ⟨⟨k + 1, by omega, by rw [Nat.pow_succ, hZ]; simp, by go_num⟩, by simp [intOf]; omega⟩
  ·have hki : ¬ (k : Int) < (q : Int) := by omega
   have hkq : q = k := by omega
   subst hkq
   obtain ⟨Z, hZ⟩ : ∃ Z, 10 ^ q = Z := ⟨_, rfl⟩
   have hZb : Z ≤ 1000000 := by rw [← hZ]; exact pow6 hq6
   have hZ0 : 0 < Z := by rw [← hZ]; exact Nat.pow_pos (by decide)
   rw [hZ] at HC
   rw [hZ]
   clear hZ hlt hk
   have m1 : lo * Z ≤ 1000000 * 1000000 := Nat.mul_le_mul (by omega) hZb
   have m2 : (hi + 1) * Z ≤ 1000000 * 1000000 := Nat.mul_le_mul (by omega) hZb
   have m3 : 1 ≤ (hi + 1) * Z := Nat.mul_pos (by omega) hZ0
   have i1 : (lo : Int) * (Z : Int) = ((lo * Z : Nat) : Int) := by simp
   have i2 : ((hi : Int) + 1) * (Z : Int) = (((hi + 1) * Z : Nat) : Int) := by simp
   obtain ⟨M1, hM1⟩ : ∃ M, lo * Z = M := ⟨_, rfl⟩
   obtain ⟨M2, hM2⟩ : ∃ M, (hi + 1) * Z = M := ⟨_, rfl⟩
   rw [hM1, hM2] at HC
   rw [hM1] at m1 i1
   rw [hM2] at m2 m3 i2
   have f0 := block_cell HB1.out 0 _ rfl
   have f1 := block_cell HB1.out 1 _ rfl
   have z0 := block_frozen HB1.out 0
   have z1 := block_frozen HB1.out 1
   clear hM1 hM2
   go_wp2_with fail
   have i3 : ((M2 : Int) - 1) = ((M2 - 1 : Nat) : Int) := by omega
   rw [i3]
   have e1 := heap_setCell_same w1 (P + 1) 0 _ _ (.int .i64 (M1 : Nat)) HB1.out
   have e2 := heap_setCell_same _ (P + 1) 1 _ _ (.int .i64 ((M2 - 1 : Nat) : Int)) e1
   have s0 : ((w1.setCell ⟨P + 1, 0, none⟩ (.int .i64 (M1 : Nat))).setCell ⟨P + 1, 1, none⟩ (.int .i64 ((M2 - 1 : Nat) : Int))).cell? ⟨P + 1, 0, none⟩ = some (.int .i64 (M1 : Nat)) := block_cell e2 0 _ rfl
   have s1 : ((w1.setCell ⟨P + 1, 0, none⟩ (.int .i64 (M1 : Nat))).setCell ⟨P + 1, 1, none⟩ (.int .i64 ((M2 - 1 : Nat) : Int))).cell? ⟨P + 1, 1, none⟩ = some (.int .i64 ((M2 - 1 : Nat) : Int)) := block_cell e2 1 _ rfl
   have hq : w.heap.size ≤ P + 1 := by have := HP.out; omega
   rw [HC.out]
   refine bodyPost_ret (v := .agg #[.int .i64 (M1 : Nat), .int .i64 ((M2 - 1 : Nat) : Int)]) (by simp [results, Tryz.results173, go_sem, s0, s1]) rfl ⟨rfl, ?_⟩
   exact (HFr.out.setCell (p := ⟨P + 1, 0, none⟩) (Or.inr hq) _).setCell (p := ⟨P + 1, 1, none⟩) (Or.inr hq) _
def listM2 (l : List Nat) (most : Nat) : List SpM := if l = [] then [(0, most)] else l.map fun n => (n, n)
def spRow (l : List SpM) : List Value := l.flatMap fun s => [.int .i64 (s.1 : Nat), .int .i64 (s.2 : Nat)]
theorem spRow_snoc (l : List SpM) (s : SpM) : spRow (l ++ [s]) = spRow l ++ [.int .i64 (s.1 : Nat), .int .i64 (s.2 : Nat)] := by simp [spRow]
theorem Tryz.infoSpan : (Tryz.prog.info? 118).map (fun i => (i.zero, i.size, i.bytes)) = some (some (.agg #[.int .i64 0, .int .i64 0]), 2, 16) := by kernel_rfl
theorem own_sp1 (w : World) (a b : Nat) : (w.alloc (.cells #[.int .i64 (a : Nat), .int .i64 (b : Nat)] 118)).ownsRow w.heap.size 118 2 (.slice (some ⟨w.heap.size, 0, none⟩) 1 1) 1 [.int .i64 (a : Nat), .int .i64 (b : Nat)] :=
 ⟨rfl, .inr ⟨w.heap.size, 1, #[.int .i64 (a : Nat), .int .i64 (b : Nat)], rfl, Nat.le_refl _, heap_alloc_new w _, Nat.le_refl _, by unfold maxLen; simp, by simp, by simp⟩⟩
set_option maxRecDepth 30000 in
set_option maxHeartbeats 4000000 in
theorem listed_any (w : World) (a : Option Addr) (c : Nat) (l : List Nat) (most : Nat) (h : IntsAt w a l) (hl : l.length ≤ 4000) :
  Calls Tryz.prog 174 #[.slice a l.length c, .int .i64 (most : Nat)] w fun e w' => (∃ v, e = .returned v ∧ w'.ownsRow w.heap.size 118 2 v (listM2 l most).length (spRow (listM2 l most))) ∧ Fr (fun _ => False) w w' := by
 obtain ⟨ii, hi, hz0, hz1, hz2⟩ := info_parts Tryz.infoSpan
 by_cases h0 : l = []
 ·subst h0
  have HO := hid (own_sp1 w 0 most)
  have HF : Hid (Fr (fun _ => False) w (w.alloc (.cells #[.int .i64 (0 : Nat), .int .i64 (most : Nat)] 118))) := (Fr.refl _ _).alloc _
  show Calls _ _ #[.slice a 0 c, _] _ _
  clear h hl
  go_enter Tryz.func174, Tryz.ntmps174
  go_wp2_with fail
  go_ret
  exact ⟨⟨_, rfl, HO.out⟩, HF.out⟩
 ·obtain ⟨N, hN⟩ : ∃ N, l.length = N := ⟨_, rfl⟩
  have hN0 : ((N : Int) == 0) = false := by
   have : l.length ≠ 0 := fun e => h0 (List.eq_nil_of_length_eq_zero e)
   simp; omega
  have HN := hid hN
  have HA := hid h
  have hN4 : N ≤ 4000 := by omega
  have HM : Hid (listM2 l most = l.map fun n => (n, n)) := by show _ = _; unfold listM2; rw [if_neg h0]
  rw [hN]
  clear h hl hN h0
  go_enter Tryz.func174, Tryz.ntmps174
  go_wp2_with fail
  go_loopg [5, 7, 16] N (fun m ov _ iv wr => ∃ k, k ≤ N ∧ m = N - k ∧ iv = .int .i64 (k : Nat) ∧ Hid (wr.ownsRow w.heap.size 118 2 ov k (spRow ((l.take k).map fun n => (n, n)))) ∧ Hid (Fr (fun _ => False) w wr))
  case atStart => exact ⟨0, by omega, rfl, rfl, World.ownsRow_nil _ _ _ _, Fr.refl _ _⟩
  case round =>
   obtain ⟨k, hk, rfl, rfl, HO, HFr⟩ := hrel
   obtain ⟨oa, oc, ho⟩ := ownsRow_len HO.out
   subst ho
   by_cases hlt : k < N
   ·have hki : (k : Int) < (N : Int) := by omega
    have hx := List.getElem?_eq_getElem (show k < l.length by have := HN.out; omega)
    obtain ⟨g, ea, hc⟩ := HA.out k _ hx
    have HT : Hid (l.take (k + 1) = l.take k ++ [l[k]'(by have := HN.out; omega)]) := by show _ = _; rw [List.take_add_one, hx]; rfl
    generalize l[k]'(by have := HN.out; omega) = y at *
    subst ea
    have hcr : wr.cell? ⟨g, k, none⟩ = some (.int .i64 (y : Nat)) := (HFr.out.cell (p := ⟨g, k, none⟩) (World.block_lt_of_cell? w _ hc) (by simp)).trans hc
    clear hc hx
    go_wp2_with (at_builtin; refine wpList_append_lies _ rfl (.tmp 20) (.tmp 24) 213 rfl w.heap.size 118 ii _ 2 16 Tryz.underlying213 hi hz0 hz1 hz2 rfl (by decide) (.slice oa k oc) k (spRow ((l.take k).map fun n => (n, n))) rfl ?h1 ⟨wr.heap.size, 0, none⟩ 1 1 [.int .i64 (y : Nat), .int .i64 (y : Nat)] rfl rfl ?h2 ?h3 (by decide) ?h4 ?h5 ?h6 _ rfl ?h7)
    case h1 => exact HO.out.alloc _
    case h2 => exact World.news_of_block (heap_alloc_new wr (.cells #[.int .i64 (y : Nat), .int .i64 (y : Nat)] 118))
    case h3 => simp [Value.oneCell']
    case h4 => unfold maxLen; omega
    case h5 => omega
    case h6 => have := HFr.out.size; simp; omega
    case h7 =>
     intro g2 cap2 w8 hown hgrow hor _
     have HF8 := hid ((HFr.out.alloc _).grown hgrow (fun k hk => Or.inr (HO.out.lt k hk).1))
     have HO8 : Hid (w8.ownsRow w.heap.size 118 2 (.slice (some ⟨g2, 0, none⟩) (k + 1) cap2) (k + 1) (spRow ((l.take (k + 1)).map fun n => (n, n)))) := by
      rw [HT.out, List.map_append, List.map_singleton, spRow_snoc]
      rw [← List.map_take] at hown
      exact hown
     clear hown hgrow hor hcr
     go_wp2_with fail
     go_roundg (N - (k + 1))
     case measure => omega
     case rel => exact ⟨k + 1, by omega, rfl, by go_num, HO8, HF8⟩
   ·have hki : ¬ (k : Int) < (N : Int) := by omega
    have ek : k = N := by omega
    subst ek
    go_wp2_with fail
    go_ret
    refine ⟨⟨_, rfl, ?_⟩, HFr.out⟩
    have e := HO.out
    rw [List.take_of_length_le (by have := HN.out; omega)] at e
    rw [HM.out, List.length_map, HN.out]
    exact e
end Go.Proofs.YtccikgogjfbpeaaGreatDoor
