/- The writer of images: steps, programs. The writer of images: nodes; an image whole. -/
import Derived.Test.YtccikgogjfbpeabGreatDoorWHa
import Derived.Test.YtccikgogjfbpeabGreatDoorWJc
namespace Go.Proofs.YtccikgogjfbpeabGreatDoor
open Go.RowKit
def swO (so : Nat) (a : Option Addr) (n c ru sk : Nat) : Obj := .cells #[.int .u8 (so : Nat), .slice a n c, .int .i64 (ru : Nat), .int .i64 (sk : Nat)] 172
structure SwAt (w0 w : World) (B : Nat) (a : Option Addr) (nums : List Nat) : Prop where
 h0 : w0.heap.size <= B
 f0 : Fr (fun k => B <= k) w0 w
 hi : IntsAt w0 a nums
theorem wnum_box {w : World} {B X t k n : Nat} {cs : Array Value} {L : List UInt8} {kv nv : Int} (h : WtAt w B L) (hX : w.heap[X]? = some (.cells cs t)) (hB : X ≠ B) (ht : t ≠ 5) (hk : k <= 4) (hkv : kv = k) (hnv : nv = n) (hs : L.length + k <= 1000000) :
  Calls Tryz.prog 68 #[.pointer (some ⟨B, 0, none⟩), .int .i64 kv, .int .i64 nv] w fun e w' => e = .returned (.tuple #[]) /\ WtAt w' B (L ++ numW k n) /\ w'.heap[X]? = some (.cells cs t) /\ Wf w B w' :=
 (wnumber_any w B L k n kv nv h hk hkv hnv hs).mono (by rintro e w' ⟨rfl, h1, h2⟩; exact ⟨rfl, h1, h2.box hX hB ht, h2⟩)
set_option maxRecDepth 30000 in
set_option maxHeartbeats 1000000 in
theorem wstep_dec (w : World) (B : Nat) (l : List UInt8) (a : Option Addr) (n c ru sk : Nat) (h : WtAt w B l) (hw : True) (hs : l.length + 2 <= 1000000) :
  Calls Tryz.prog 111 #[.pointer (some ⟨B, 0, none⟩), stV 3 a n c ru sk] w (WtP w B (l ++ (numW 1 3 ++ numW 1 ru))) := by
 have hBw : B < w.heap.size := by obtain ⟨v, hb, _⟩ := h.bx; exact (Array.getElem?_eq_some_iff.1 hb).1
 have HF0 : Hid (F0 w (w.alloc (swO 3 a n c ru sk))) := (Fr.refl _ _).alloc _
 have HB0 : Hid ((w.alloc (swO 3 a n c ru sk)).heap[w.heap.size]? = some (swO 3 a n c ru sk)) := heap_alloc_new w _
 have HW0 := hid (h.fr HF0.o)
 have HX : Hid (w.heap.size ≠ B) := by show _ ≠ _; omega
 have HSW := hid hw
 unfold stV
 unfold swO at HF0 HB0 HW0
 clear h hw
 go_enter Tryz.func111, Tryz.ntmps111
 go_upto_region 1 with fail
 generalize w.alloc _ = w1 at *
 generalize w.heap.size = X at *
 have x0 := block_cell HB0.o 0 _ rfl
 go_wp2_with fail
 refine (wnum_box (k := 1) HW0.o HB0.o HX.o (by decide) (by omega) rfl rfl (by omega)).mono ?_
 rintro e w2 ⟨rfl, hW2, hB2, hf2⟩
 have HW2 := hid hW2
 have HB2 := hid hB2
 have HF2 := hid ((Wf.of (B := B) HF0.o).trans hf2)
 have y0 := block_cell hB2 0 _ rfl
 have y1 := block_cell hB2 1 _ rfl
 have y2 := block_cell hB2 2 _ rfl
 have y3 := block_cell hB2 3 _ rfl
 clear hW2 hB2 hf2 x0
 go_wp2_with fail
 refine (wnum_box (k := 1) HW2.o HB2.o HX.o (by decide) (by omega) rfl rfl (by simp [numW_len]; omega)).mono ?_
 rintro e w3 ⟨rfl, hW, hB, hf⟩
 have HW3 := hid hW
 have HB3 := hid hB
 have HF3 := hid (HF2.o.trans hf)
 clear hW hB hf
 go_wp2_with fail
 go_end0
 refine ⟨rfl, ?_, HF3.o⟩
 rw [<- List.append_assoc]
 exact HW3.o
set_option maxRecDepth 30000 in
set_option maxHeartbeats 1000000 in
theorem wstep_end (w : World) (B : Nat) (l : List UInt8) (a : Option Addr) (n c ru sk : Nat) (h : WtAt w B l) (hw : True) (hs : l.length + 1 <= 1000000) :
  Calls Tryz.prog 111 #[.pointer (some ⟨B, 0, none⟩), stV 6 a n c ru sk] w (WtP w B (l ++ numW 1 6)) := by
 have hBw : B < w.heap.size := by obtain ⟨v, hb, _⟩ := h.bx; exact (Array.getElem?_eq_some_iff.1 hb).1
 have HF0 : Hid (F0 w (w.alloc (swO 6 a n c ru sk))) := (Fr.refl _ _).alloc _
 have HB0 : Hid ((w.alloc (swO 6 a n c ru sk)).heap[w.heap.size]? = some (swO 6 a n c ru sk)) := heap_alloc_new w _
 have HW0 := hid (h.fr HF0.o)
 have HX : Hid (w.heap.size ≠ B) := by show _ ≠ _; omega
 have HSW := hid hw
 unfold stV
 unfold swO at HF0 HB0 HW0
 clear h hw
 go_enter Tryz.func111, Tryz.ntmps111
 go_upto_region 1 with fail
 generalize w.alloc _ = w1 at *
 generalize w.heap.size = X at *
 have x0 := block_cell HB0.o 0 _ rfl
 go_wp2_with fail
 refine (wnum_box (k := 1) HW0.o HB0.o HX.o (by decide) (by omega) rfl rfl (by omega)).mono ?_
 rintro e w2 ⟨rfl, hW2, hB2, hf2⟩
 have HW2 := hid hW2
 have HB2 := hid hB2
 have HF2 := hid ((Wf.of (B := B) HF0.o).trans hf2)
 have y0 := block_cell hB2 0 _ rfl
 have y1 := block_cell hB2 1 _ rfl
 have y2 := block_cell hB2 2 _ rfl
 have y3 := block_cell hB2 3 _ rfl
 clear hW2 hB2 hf2 x0
 go_wp2_with fail
 go_end0
 exact ⟨rfl, HW2.o, HF2.o⟩
set_option maxRecDepth 30000 in
set_option maxHeartbeats 1000000 in
theorem wstep_span (w0 w : World) (B : Nat) (l : List UInt8) (a : Option Addr) (c ru sk x y : Nat) (h : WtAt w B l) (hw : SwAt w0 w B a [x, y]) (hs : l.length + 10 <= 1000000) :
  Calls Tryz.prog 111 #[.pointer (some ⟨B, 0, none⟩), stV 1 a 2 c ru sk] w (WtP w B (l ++ (numW 1 1 ++ (numW 1 sk ++ (numW 4 x ++ numW 4 y))))) := by
 obtain ⟨g, rfl, c0⟩ := hw.hi 0 x rfl
 obtain ⟨g', e, c1⟩ := hw.hi 1 y rfl
 injection e with e
 injection e with e
 subst e
 have HC : Hid (∀ W, Wf w B W -> W.cell? ⟨g, 0, none⟩ = some (.int .i64 (x : Nat)) /\ W.cell? ⟨g, 1, none⟩ = some (.int .i64 (y : Nat))) := fun W hf => ⟨cell_up hw.h0 (hw.f0.trans hf.up) c0, cell_up hw.h0 (hw.f0.trans hf.up) c1⟩
 clear c0 c1
 have hBw : B < w.heap.size := by obtain ⟨v, hb, _⟩ := h.bx; exact (Array.getElem?_eq_some_iff.1 hb).1
 have HF0 : Hid (F0 w (w.alloc (swO 1 (some ⟨g, 0, none⟩) 2 c ru sk))) := (Fr.refl _ _).alloc _
 have HB0 : Hid ((w.alloc (swO 1 (some ⟨g, 0, none⟩) 2 c ru sk)).heap[w.heap.size]? = some (swO 1 (some ⟨g, 0, none⟩) 2 c ru sk)) := heap_alloc_new w _
 have HW0 := hid (h.fr HF0.o)
 have HX : Hid (w.heap.size ≠ B) := by show _ ≠ _; omega
 have HSW := hid hw
 unfold stV
 unfold swO at HF0 HB0 HW0
 clear h hw
 go_enter Tryz.func111, Tryz.ntmps111
 go_upto_region 1 with fail
 generalize w.alloc _ = w1 at *
 generalize w.heap.size = X at *
 have x0 := block_cell HB0.o 0 _ rfl
 go_wp2_with fail
 refine (wnum_box (k := 1) HW0.o HB0.o HX.o (by decide) (by omega) rfl rfl (by omega)).mono ?_
 rintro e w2 ⟨rfl, hW2, hB2, hf2⟩
 have HW2 := hid hW2
 have HB2 := hid hB2
 have HF2 := hid ((Wf.of (B := B) HF0.o).trans hf2)
 have y0 := block_cell hB2 0 _ rfl
 have y1 := block_cell hB2 1 _ rfl
 have y2 := block_cell hB2 2 _ rfl
 have y3 := block_cell hB2 3 _ rfl
 clear hW2 hB2 hf2 x0
 go_wp2_with fail
 refine (wnum_box (k := 1) HW2.o HB2.o HX.o (by decide) (by omega) rfl rfl (by simp [numW_len]; omega)).mono ?_
 rintro e w3 ⟨rfl, hW, hB, hf⟩
 have HW3 := hid hW
 have HB3 := hid hB
 have HF3 := hid (HF2.o.trans hf)
 clear hW hB hf
 obtain ⟨c0, c1⟩ := HC.o _ HF3.o
 have y1 := block_cell HB3.o 1 _ rfl
 go_wp2_with fail
 refine (wnum_box (k := 4) HW3.o HB3.o HX.o (by decide) (by omega) rfl rfl (by simp [numW_len]; omega)).mono ?_
 rintro e w4 ⟨rfl, hW, hB, hf⟩
 have HW4 := hid hW
 have HB4 := hid hB
 have HF4 := hid (HF3.o.trans hf)
 clear hW hB hf
 obtain ⟨c0, c1⟩ := HC.o _ HF4.o
 have y1 := block_cell HB4.o 1 _ rfl
 go_wp2_with fail
 refine (wnum_box (k := 4) HW4.o HB4.o HX.o (by decide) (by omega) rfl rfl (by simp [numW_len]; omega)).mono ?_
 rintro e w5 ⟨rfl, hW, hB, hf⟩
 have HW5 := hid hW
 have HB5 := hid hB
 have HF5 := hid (HF4.o.trans hf)
 clear hW hB hf
 go_wp2_with fail
 go_end0
 refine ⟨rfl, ?_, HF5.o⟩
 have e := HW5.o
 simp only [List.append_assoc] at e ⊢
 exact e
set_option maxRecDepth 30000 in
set_option maxHeartbeats 1000000 in
theorem wstep_0 (w0 w : World) (B : Nat) (l : List UInt8) (a : Option Addr) (n c ru sk : Nat) (nums : List Nat) (h : WtAt w B l) (hw : SwAt w0 w B a nums) (hn : nums.length = n) (h4 : n <= 255) (hs : l.length + 2 + (listW nums).length <= 1000000) :
  Calls Tryz.prog 111 #[.pointer (some ⟨B, 0, none⟩), stV 0 a n c ru sk] w (WtP w B (l ++ (numW 1 0 ++ (numW 1 sk ++ listW nums)))) := by
 have HNn := hid hn
 clear hn
 have hBw : B < w.heap.size := by obtain ⟨v, hb, _⟩ := h.bx; exact (Array.getElem?_eq_some_iff.1 hb).1
 have HF0 : Hid (F0 w (w.alloc (swO 0 a n c ru sk))) := (Fr.refl _ _).alloc _
 have HB0 : Hid ((w.alloc (swO 0 a n c ru sk)).heap[w.heap.size]? = some (swO 0 a n c ru sk)) := heap_alloc_new w _
 have HW0 := hid (h.fr HF0.o)
 have HX : Hid (w.heap.size ≠ B) := by show _ ≠ _; omega
 have HSW := hid hw
 unfold stV
 unfold swO at HF0 HB0 HW0
 clear h hw
 go_enter Tryz.func111, Tryz.ntmps111
 go_upto_region 1 with fail
 generalize w.alloc _ = w1 at *
 generalize w.heap.size = X at *
 have x0 := block_cell HB0.o 0 _ rfl
 go_wp2_with fail
 refine (wnum_box (k := 1) HW0.o HB0.o HX.o (by decide) (by omega) rfl rfl (by omega)).mono ?_
 rintro e w2 ⟨rfl, hW2, hB2, hf2⟩
 have HW2 := hid hW2
 have HB2 := hid hB2
 have HF2 := hid ((Wf.of (B := B) HF0.o).trans hf2)
 have y0 := block_cell hB2 0 _ rfl
 have y1 := block_cell hB2 1 _ rfl
 have y2 := block_cell hB2 2 _ rfl
 have y3 := block_cell hB2 3 _ rfl
 clear hW2 hB2 hf2 x0
 go_wp2_with fail
 refine (wnum_box (k := 1) HW2.o HB2.o HX.o (by decide) (by omega) rfl rfl (by simp [numW_len]; omega)).mono ?_
 rintro e w3 ⟨rfl, hW, hB, hf⟩
 have HW3 := hid hW
 have HB3 := hid hB
 have HF3 := hid (HF2.o.trans hf)
 clear hW hB hf
 have y1 := block_cell HB3.o 1 _ rfl
 go_wp2_with fail
 refine (wlist_any w0 w3 B _ a n c nums HSW.o.h0 (HSW.o.f0.trans HF3.o.up) HSW.o.hi HNn.o h4 HW3.o (by simp only [List.length_append, numW_len]; omega)).mono ?_
 rintro e w4 ⟨rfl, hW, hf⟩
 have HW4 := hid hW
 have HF4 := hid (HF3.o.trans hf)
 clear hW hf
 go_wp2_with fail
 go_end0
 refine ⟨rfl, ?_, HF4.o⟩
 have e := HW4.o
 simp only [List.append_assoc] at e ⊢
 exact e
set_option maxRecDepth 30000 in
set_option maxHeartbeats 1000000 in
theorem wstep_2 (w0 w : World) (B : Nat) (l : List UInt8) (a : Option Addr) (n c ru sk : Nat) (nums : List Nat) (h : WtAt w B l) (hw : SwAt w0 w B a nums) (hn : nums.length = n) (h4 : n <= 255) (hs : l.length + 2 + (listW nums).length <= 1000000) :
  Calls Tryz.prog 111 #[.pointer (some ⟨B, 0, none⟩), stV 2 a n c ru sk] w (WtP w B (l ++ (numW 1 2 ++ (numW 1 sk ++ listW nums)))) := by
 have HNn := hid hn
 clear hn
 have hBw : B < w.heap.size := by obtain ⟨v, hb, _⟩ := h.bx; exact (Array.getElem?_eq_some_iff.1 hb).1
 have HF0 : Hid (F0 w (w.alloc (swO 2 a n c ru sk))) := (Fr.refl _ _).alloc _
 have HB0 : Hid ((w.alloc (swO 2 a n c ru sk)).heap[w.heap.size]? = some (swO 2 a n c ru sk)) := heap_alloc_new w _
 have HW0 := hid (h.fr HF0.o)
 have HX : Hid (w.heap.size ≠ B) := by show _ ≠ _; omega
 have HSW := hid hw
 unfold stV
 unfold swO at HF0 HB0 HW0
 clear h hw
 go_enter Tryz.func111, Tryz.ntmps111
 go_upto_region 1 with fail
 generalize w.alloc _ = w1 at *
 generalize w.heap.size = X at *
 have x0 := block_cell HB0.o 0 _ rfl
 go_wp2_with fail
 refine (wnum_box (k := 1) HW0.o HB0.o HX.o (by decide) (by omega) rfl rfl (by omega)).mono ?_
 rintro e w2 ⟨rfl, hW2, hB2, hf2⟩
 have HW2 := hid hW2
 have HB2 := hid hB2
 have HF2 := hid ((Wf.of (B := B) HF0.o).trans hf2)
 have y0 := block_cell hB2 0 _ rfl
 have y1 := block_cell hB2 1 _ rfl
 have y2 := block_cell hB2 2 _ rfl
 have y3 := block_cell hB2 3 _ rfl
 clear hW2 hB2 hf2 x0
 go_wp2_with fail
 refine (wnum_box (k := 1) HW2.o HB2.o HX.o (by decide) (by omega) rfl rfl (by simp [numW_len]; omega)).mono ?_
 rintro e w3 ⟨rfl, hW, hB, hf⟩
 have HW3 := hid hW
 have HB3 := hid hB
 have HF3 := hid (HF2.o.trans hf)
 clear hW hB hf
 have y1 := block_cell HB3.o 1 _ rfl
 go_wp2_with fail
 refine (wlist_any w0 w3 B _ a n c nums HSW.o.h0 (HSW.o.f0.trans HF3.o.up) HSW.o.hi HNn.o h4 HW3.o (by simp only [List.length_append, numW_len]; omega)).mono ?_
 rintro e w4 ⟨rfl, hW, hf⟩
 have HW4 := hid hW
 have HF4 := hid (HF3.o.trans hf)
 clear hW hf
 go_wp2_with fail
 go_end0
 refine ⟨rfl, ?_, HF4.o⟩
 have e := HW4.o
 simp only [List.append_assoc] at e ⊢
 exact e
set_option maxRecDepth 30000 in
set_option maxHeartbeats 1000000 in
theorem wstep_4 (w0 w : World) (B : Nat) (l : List UInt8) (a : Option Addr) (n c ru sk : Nat) (nums : List Nat) (h : WtAt w B l) (hw : SwAt w0 w B a nums) (hn : nums.length = n) (h4 : n <= 255) (hs : l.length + 2 + (listW nums).length <= 1000000) :
  Calls Tryz.prog 111 #[.pointer (some ⟨B, 0, none⟩), stV 4 a n c ru sk] w (WtP w B (l ++ (numW 1 4 ++ (numW 1 ru ++ listW nums)))) := by
 have HNn := hid hn
 clear hn
 have hBw : B < w.heap.size := by obtain ⟨v, hb, _⟩ := h.bx; exact (Array.getElem?_eq_some_iff.1 hb).1
 have HF0 : Hid (F0 w (w.alloc (swO 4 a n c ru sk))) := (Fr.refl _ _).alloc _
 have HB0 : Hid ((w.alloc (swO 4 a n c ru sk)).heap[w.heap.size]? = some (swO 4 a n c ru sk)) := heap_alloc_new w _
 have HW0 := hid (h.fr HF0.o)
 have HX : Hid (w.heap.size ≠ B) := by show _ ≠ _; omega
 have HSW := hid hw
 unfold stV
 unfold swO at HF0 HB0 HW0
 clear h hw
 go_enter Tryz.func111, Tryz.ntmps111
 go_upto_region 1 with fail
 generalize w.alloc _ = w1 at *
 generalize w.heap.size = X at *
 have x0 := block_cell HB0.o 0 _ rfl
 go_wp2_with fail
 refine (wnum_box (k := 1) HW0.o HB0.o HX.o (by decide) (by omega) rfl rfl (by omega)).mono ?_
 rintro e w2 ⟨rfl, hW2, hB2, hf2⟩
 have HW2 := hid hW2
 have HB2 := hid hB2
 have HF2 := hid ((Wf.of (B := B) HF0.o).trans hf2)
 have y0 := block_cell hB2 0 _ rfl
 have y1 := block_cell hB2 1 _ rfl
 have y2 := block_cell hB2 2 _ rfl
 have y3 := block_cell hB2 3 _ rfl
 clear hW2 hB2 hf2 x0
 go_wp2_with fail
 refine (wnum_box (k := 1) HW2.o HB2.o HX.o (by decide) (by omega) rfl rfl (by simp [numW_len]; omega)).mono ?_
 rintro e w3 ⟨rfl, hW, hB, hf⟩
 have HW3 := hid hW
 have HB3 := hid hB
 have HF3 := hid (HF2.o.trans hf)
 clear hW hB hf
 have y1 := block_cell HB3.o 1 _ rfl
 go_wp2_with fail
 refine (wlist_any w0 w3 B _ a n c nums HSW.o.h0 (HSW.o.f0.trans HF3.o.up) HSW.o.hi HNn.o h4 HW3.o (by simp only [List.length_append, numW_len]; omega)).mono ?_
 rintro e w4 ⟨rfl, hW, hf⟩
 have HW4 := hid hW
 have HF4 := hid (HF3.o.trans hf)
 clear hW hf
 go_wp2_with fail
 go_end0
 refine ⟨rfl, ?_, HF4.o⟩
 have e := HW4.o
 simp only [List.append_assoc] at e ⊢
 exact e
set_option maxRecDepth 30000 in
set_option maxHeartbeats 1000000 in
theorem wstep_5 (w0 w : World) (B : Nat) (l : List UInt8) (a : Option Addr) (n c ru sk : Nat) (nums : List Nat) (h : WtAt w B l) (hw : SwAt w0 w B a nums) (hn : nums.length = n) (h4 : n <= 255) (hs : l.length + 2 + (listW nums).length <= 1000000) :
  Calls Tryz.prog 111 #[.pointer (some ⟨B, 0, none⟩), stV 5 a n c ru sk] w (WtP w B (l ++ (numW 1 5 ++ (numW 1 ru ++ listW nums)))) := by
 have HNn := hid hn
 clear hn
 have hBw : B < w.heap.size := by obtain ⟨v, hb, _⟩ := h.bx; exact (Array.getElem?_eq_some_iff.1 hb).1
 have HF0 : Hid (F0 w (w.alloc (swO 5 a n c ru sk))) := (Fr.refl _ _).alloc _
 have HB0 : Hid ((w.alloc (swO 5 a n c ru sk)).heap[w.heap.size]? = some (swO 5 a n c ru sk)) := heap_alloc_new w _
 have HW0 := hid (h.fr HF0.o)
 have HX : Hid (w.heap.size ≠ B) := by show _ ≠ _; omega
 have HSW := hid hw
 unfold stV
 unfold swO at HF0 HB0 HW0
 clear h hw
 go_enter Tryz.func111, Tryz.ntmps111
 go_upto_region 1 with fail
 generalize w.alloc _ = w1 at *
 generalize w.heap.size = X at *
 have x0 := block_cell HB0.o 0 _ rfl
 go_wp2_with fail
 refine (wnum_box (k := 1) HW0.o HB0.o HX.o (by decide) (by omega) rfl rfl (by omega)).mono ?_
 rintro e w2 ⟨rfl, hW2, hB2, hf2⟩
 have HW2 := hid hW2
 have HB2 := hid hB2
 have HF2 := hid ((Wf.of (B := B) HF0.o).trans hf2)
 have y0 := block_cell hB2 0 _ rfl
 have y1 := block_cell hB2 1 _ rfl
 have y2 := block_cell hB2 2 _ rfl
 have y3 := block_cell hB2 3 _ rfl
 clear hW2 hB2 hf2 x0
 go_wp2_with fail
 refine (wnum_box (k := 1) HW2.o HB2.o HX.o (by decide) (by omega) rfl rfl (by simp [numW_len]; omega)).mono ?_
 rintro e w3 ⟨rfl, hW, hB, hf⟩
 have HW3 := hid hW
 have HB3 := hid hB
 have HF3 := hid (HF2.o.trans hf)
 clear hW hB hf
 have y1 := block_cell HB3.o 1 _ rfl
 go_wp2_with fail
 refine (wlist_any w0 w3 B _ a n c nums HSW.o.h0 (HSW.o.f0.trans HF3.o.up) HSW.o.hi HNn.o h4 HW3.o (by simp only [List.length_append, numW_len]; omega)).mono ?_
 rintro e w4 ⟨rfl, hW, hf⟩
 have HW4 := hid hW
 have HF4 := hid (HF3.o.trans hf)
 clear hW hf
 go_wp2_with fail
 go_end0
 refine ⟨rfl, ?_, HF4.o⟩
 have e := HW4.o
 simp only [List.append_assoc] at e ⊢
 exact e
theorem wstep_any (w0 w : World) (B : Nat) (l : List UInt8) (a : Option Addr) (n c nr nn : Nat) (s : StepM) (hst : StW nr nn s) (hn : s.nums.length = n) (h : WtAt w B l) (hw : SwAt w0 w B a s.nums) (hs : (l ++ stepW s).length <= 1000000) :
  Calls Tryz.prog 111 #[.pointer (some ⟨B, 0, none⟩), stV s.sort a n c s.rule s.skip] w (WtP w B (l ++ stepW s)) := by
 rw [List.length_append] at hs
 subst hn
 rcases hst with ⟨so, hi, nums, k, hso, rfl, k1, k2, l1, l2, hl⟩ | ⟨x, y, k, rfl, k1, k2, hxy, hy⟩ | ⟨j, rfl, hj⟩ | ⟨so, nums, j, hso, rfl, hj, l1, l2, hl⟩ | rfl
 ·rcases hso with ⟨rfl, _⟩ | ⟨rfl, _⟩
  ·exact wstep_0 w0 w B l a _ c 0 k nums h hw rfl (by dsimp only; omega) (by have e : stepW ⟨0, nums, 0, k⟩ = numW 1 0 ++ (numW 1 k ++ listW nums) := rfl; rw [e] at hs; simp only [List.length_append, numW_len] at hs; omega)
  ·exact wstep_2 w0 w B l a _ c 0 k nums h hw rfl (by dsimp only; omega) (by have e : stepW ⟨2, nums, 0, k⟩ = numW 1 2 ++ (numW 1 k ++ listW nums) := rfl; rw [e] at hs; simp only [List.length_append, numW_len] at hs; omega)
 ·exact wstep_span w0 w B l a c 0 k x y h hw (by have e : stepW ⟨1, [x, y], 0, k⟩ = numW 1 1 ++ (numW 1 k ++ (numW 4 x ++ numW 4 y)) := rfl; rw [e] at hs; simp only [List.length_append, numW_len] at hs; omega)
 ·exact wstep_dec w B l a _ c j 0 h trivial (by have e : stepW ⟨3, [], j, 0⟩ = numW 1 3 ++ numW 1 j := rfl; rw [e] at hs; simp only [List.length_append, numW_len] at hs; omega)
 ·rcases hso with rfl | rfl
  ·exact wstep_4 w0 w B l a _ c j 0 nums h hw rfl (by dsimp only; omega) (by have e : stepW ⟨4, nums, j, 0⟩ = numW 1 4 ++ (numW 1 j ++ listW nums) := rfl; rw [e] at hs; simp only [List.length_append, numW_len] at hs; omega)
  ·exact wstep_5 w0 w B l a _ c j 0 nums h hw rfl (by dsimp only; omega) (by have e : stepW ⟨5, nums, j, 0⟩ = numW 1 5 ++ (numW 1 j ++ listW nums) := rfl; rw [e] at hs; simp only [List.length_append, numW_len] at hs; omega)
 ·exact wstep_end w B l a _ c 0 0 h trivial (by have e : stepW ⟨6, [], 0, 0⟩ = numW 1 6 ++ [] := rfl; rw [e] at hs; simp only [List.length_append, numW_len] at hs; omega)
set_option maxRecDepth 30000 in
set_option maxHeartbeats 1000000 in
theorem wprogram_any (w0 w : World) (B Q : Nat) (l : List UInt8) (pa : Option Addr) (n c nr nn : Nat) (p : List StepM) (h0 : w0.heap.size <= B) (hf0 : Fr (fun k => B <= k) w0 w) (hp : PgAt w0 Q pa p) (hst : ∀ s, s ∈ p -> StW nr nn s) (hn : p.length = n) (h4 : n <= 255) (h : WtAt w B l) (hs : (l ++ progW p).length <= 1000000) :
  Calls Tryz.prog 71 #[.pointer (some ⟨B, 0, none⟩), .slice pa n c] w (WtP w B (l ++ progW p)) := by
 have HLn : Hid (∀ i s, p[i]? = some s -> (((l ++ numW 1 n) ++ (p.take i).flatMap stepW) ++ stepW s).length <= 1000000) := fun i s hx => by
  have e := flat_take stepW p (i + 1)
  rw [flat_snoc stepW hx, List.length_append] at e
  unfold progW at hs
  simp only [List.length_append, numW_len] at hs ⊢
  omega
 have HST : Hid (∀ W i s a m c, p[i]? = some s -> Fr (fun k => B <= k) w0 W -> WtAt W B ((l ++ numW 1 n) ++ (p.take i).flatMap stepW) -> IntsAt w0 a s.nums -> s.nums.length = m -> Calls Tryz.prog 111 #[.pointer (some ⟨B, 0, none⟩), stV s.sort a m c s.rule s.skip] W (WtP W B (((l ++ numW 1 n) ++ (p.take i).flatMap stepW) ++ stepW s))) := fun W i s a m c hx hf hW hi hm => wstep_any w0 W B _ a m c nr nn s (hst s (List.mem_of_getElem? hx)) hm hW ⟨h0, hf, hi⟩ (HLn.o i s hx)
 have h1 : l.length + 1 <= 1000000 := by
  unfold progW at hs
  simp only [List.length_append, numW_len] at hs
  omega
 have HI := hid hp
 have HNn := hid hn
 have HF0 : Hid (w0.heap.size <= B /\ Fr (fun k => B <= k) w0 w) := ⟨h0, hf0⟩
 have HW := hid (wnumber_any w B l 1 n 1 n h (by omega) rfl rfl h1)
 have hBw : B < w.heap.size := by obtain ⟨v, hb, _⟩ := h.bx; exact (Array.getElem?_eq_some_iff.1 hb).1
 clear h hs hp hn h0 hf0 hst
 go_enter Tryz.func71, Tryz.ntmps71
 go_wp2_with fail
 refine HW.o.mono ?_
 rintro e w1 ⟨rfl, hW1, hf1⟩
 have HW1 := hid hW1
 have HF1 := hid hf1
 clear hW1 hf1 HW
 go_wp2_with fail
 go_loopg [12] n (fun mm iv wr => ∃ i : Nat, i <= n /\ mm = n - i /\ iv = .int .i64 (i : Nat) /\ Hid (WtAt wr B ((l ++ numW 1 n) ++ (p.take i).flatMap stepW)) /\ Hid (Wf w B wr))
 case atStart => exact ⟨0, Nat.zero_le _, rfl, rfl, by simpa using HW1, HF1⟩
 case round =>
  obtain ⟨i, hik, rfl, rfl, HWr, HFr⟩ := hrel
  by_cases hlt : i < n
  ·have hki : (i : Int) < (n : Int) := by omega
   obtain ⟨s, hx⟩ : ∃ s, p[i]? = some s := ⟨_, List.getElem?_eq_getElem (by rw [HNn.o]; exact hlt)⟩
   obtain ⟨g, na, nc, rfl, _, d0, d1, d2, d3, di, _⟩ := HI.o i s hx
   have hu := HF0.o.2.trans (Wf.up HFr.o)
   have c0 := cell_up HF0.o.1 hu d0
   have c1 := cell_up HF0.o.1 hu d1
   have c2 := cell_up HF0.o.1 hu d2
   have c3 := cell_up HF0.o.1 hu d3
   have HC := hid (fun W (hf : F0 wr W) => HST.o W i s na s.nums.length nc hx (hu.trans (hf.mono (by simp))) (HWr.o.fr hf) di rfl)
   have HS := hid (flat_snoc stepW hx)
   unfold stV at HC
   obtain ⟨m, hm⟩ : ∃ m, s.nums.length = m := ⟨_, rfl⟩
   rw [hm] at HC c1
   clear hx d0 d1 d2 d3 di hu hm
   have hgb : g < wr.heap.size := World.block_lt_of_cell? wr _ c0
   go_wp2_with fail
   refine (HC.o _ ((Fr.refl _ _).alloc _)).mono ?_
   rintro e w2 ⟨rfl, hW2, hf2⟩
   have HW2 : Hid (WtAt w2 B ((l ++ numW 1 n) ++ (p.take (i + 1)).flatMap stepW)) := by
    show WtAt _ _ _
    rw [HS.o, <- List.append_assoc]
    exact hW2
   have HF2 := hid ((HFr.o.trans (Wf.of ((Fr.refl _ _).alloc _))).trans hf2)
   clear hW2 hf2
   go_wp2_with fail
   go_roundg (n - (i + 1))
   case measure => omega
   case rel => exact ⟨i + 1, by omega, rfl, by go_num, HW2, HF2⟩
  ·have e : i = n := by omega
   subst e
   have hki : ¬ (i : Int) < (i : Int) := by omega
   go_wp2_with fail
   go_end0
   have e := HWr.o
   rw [List.take_of_length_le (by rw [HNn.o]; exact Nat.le_refl _), List.append_assoc] at e
   refine ⟨rfl, ?_, HFr.o⟩
   unfold progW
   rw [HNn.o]
   exact e
end Go.Proofs.YtccikgogjfbpeabGreatDoor

namespace Go.Proofs.YtccikgogjfbpeabGreatDoor
open Go.RowKit
def ndO (a b : Value) : Obj := .cells #[a, b] 90
set_option maxRecDepth 30000 in
set_option maxHeartbeats 1000000 in
theorem wnode_leaf (w : World) (B : Nat) (l : List UInt8) (p : Nat) (hp : p <= 255) (h : WtAt w B l) (hs : l.length + 1 <= 1000000) :
  Calls Tryz.prog 72 #[.pointer (some ⟨B, 0, none⟩), .agg #[.pointer none, .int .i64 (p : Nat)]] w (WtP w B (l ++ numW 1 (1 + p))) := by
 have hBw : B < w.heap.size := by obtain ⟨v, hb, _⟩ := h.bx; exact (Array.getElem?_eq_some_iff.1 hb).1
 have HF0 : Hid (F0 w (w.alloc (ndO (.pointer none) (.int .i64 (p : Nat))))) := (Fr.refl _ _).alloc _
 have HB0 : Hid ((w.alloc (ndO (.pointer none) (.int .i64 (p : Nat)))).heap[w.heap.size]? = some (ndO (.pointer none) (.int .i64 (p : Nat)))) := heap_alloc_new w _
 have HW0 := hid (h.fr HF0.o)
 have HX : Hid (w.heap.size ≠ B) := by show _ ≠ _; omega
 unfold ndO at HF0 HB0 HW0
 clear h
 go_enter Tryz.func72, Tryz.ntmps72
 go_upto_region 1 with fail
 generalize w.alloc _ = w1 at *
 generalize w.heap.size = X at *
 have x0 := block_cell HB0.o 0 _ rfl
 have x1 := block_cell HB0.o 1 _ rfl
 go_wp2_with fail
 refine (wnum_box (k := 1) (n := 1 + p) HW0.o HB0.o HX.o (by decide) (by omega) rfl (by omega) (by omega)).mono ?_
 rintro e w2 ⟨rfl, hW2, hB2, hf2⟩
 have HW2 := hid hW2
 have HF2 := hid ((Wf.of (B := B) HF0.o).trans hf2)
 clear hW2 hf2 x0 x1
 go_wp2_with fail
 refine bodyPost_ret (results_none rfl _ _ _) rfl ?_
 exact ⟨rfl, HW2.o, HF2.o⟩
def kidsW (k : Nat -> Tr) (i : Nat) : List UInt8 := (List.range i).flatMap fun d => (k d).wr
theorem kidsW_succ (k : Nat -> Tr) (i : Nat) : kidsW k (i + 1) = kidsW k i ++ (k i).wr := by
 unfold kidsW
 rw [List.range_succ, List.flatMap_append]
 simp
theorem kidsW_le (k : Nat -> Tr) (i j : Nat) : (kidsW k i).length <= (kidsW k (i + j)).length := by
 induction j with
 | zero => exact Nat.le_refl _
 | succ j ih => rw [show i + (j + 1) = (i + j) + 1 from rfl, kidsW_succ, List.length_append]; omega
theorem trAt_shape {w : World} {lo : Nat} : ∀ {t : Tr} {a b : Value}, TrAt w lo t (.agg #[a, b]) -> ∃ x, ∃ y : Nat, a = .pointer x /\ b = .int .i64 (y : Nat)
 | .leaf p, a, b, h => by
  have h : Value.agg #[a, b] = .agg #[.pointer none, .int .i64 (p : Nat)] := h
  injection h with h
  simp at h
  exact ⟨_, p, h.1, h.2⟩
 | .node k, a, b, ⟨K, cs, h, _⟩ => by
  injection h with h
  simp at h
  exact ⟨_, 0, h.1, h.2⟩
set_option maxRecDepth 30000 in
set_option maxHeartbeats 1000000 in
theorem wnode_node (w0 w : World) (B : Nat) (l : List UInt8) (k : Nat -> Tr) (K lo : Nat) (cs : Array Value) (h0 : w0.heap.size <= B) (hf0 : Fr (fun k => B <= k) w0 w) (hK : w0.heap[K]? = some (.cells cs 195)) (hcs : ∀ d, d < 10 -> ∃ a b, cs[d * 2]? = some a /\ cs[d * 2 + 1]? = some b /\ TrAt w0 lo (k d) (.agg #[a, b]))
  (ih : ∀ d, d < 10 -> ∀ W L v, TrAt w0 lo (k d) v -> Fr (fun k => B <= k) w0 W -> WtAt W B L -> (L ++ (k d).wr).length <= 1000000 -> Calls Tryz.prog 72 #[.pointer (some ⟨B, 0, none⟩), v] W (WtP W B (L ++ (k d).wr)))
  (h : WtAt w B l) (hs : (l ++ (Tr.node k).wr).length <= 1000000) :
  Calls Tryz.prog 72 #[.pointer (some ⟨B, 0, none⟩), .agg #[.pointer (some ⟨K, 0, none⟩), .int .i64 0]] w (WtP w B (l ++ (Tr.node k).wr)) := by
 have HE : Hid ((Tr.node k).wr = numW 1 0 ++ kidsW k 10) := rfl
 rw [HE.o] at hs
 simp only [List.length_append, numW_len] at hs
 have HLn : Hid (∀ d, d < 10 -> ((l ++ numW 1 0) ++ kidsW k d ++ (k d).wr).length <= 1000000) := fun d hd => by
  have e := kidsW_le k (d + 1) (9 - d)
  rw [show d + 1 + (9 - d) = 10 from by omega, kidsW_succ, List.length_append] at e
  simp only [List.length_append, numW_len]
  omega
 have HIH := hid ih
 have HCs : Hid (∀ d, d < 10 -> ∃ a b, w0.cell? ⟨K, d * 2, none⟩ = some a /\ w0.cell? ⟨K, d * 2 + 1, none⟩ = some b /\ TrAt w0 lo (k d) (.agg #[a, b])) := fun d hd => by
  obtain ⟨a, b, e1, e2, e3⟩ := hcs d hd
  exact ⟨a, b, block_cell hK _ _ e1, block_cell hK _ _ e2, e3⟩
 have HF : Hid (w0.heap.size <= B /\ Fr (fun k => B <= k) w0 w) := ⟨h0, hf0⟩
 clear ih hcs hK h0 hf0
 have hBw : B < w.heap.size := by obtain ⟨v, hb, _⟩ := h.bx; exact (Array.getElem?_eq_some_iff.1 hb).1
 have HF0 : Hid (F0 w (w.alloc (ndO (.pointer (some ⟨K, 0, none⟩)) (.int .i64 0)))) := (Fr.refl _ _).alloc _
 have HB0 : Hid ((w.alloc (ndO (.pointer (some ⟨K, 0, none⟩)) (.int .i64 0))).heap[w.heap.size]? = some (ndO (.pointer (some ⟨K, 0, none⟩)) (.int .i64 0))) := heap_alloc_new w _
 have HW0 := hid (h.fr HF0.o)
 have HX : Hid (w.heap.size ≠ B) := by show _ ≠ _; omega
 unfold ndO at HF0 HB0 HW0
 clear h
 go_enter Tryz.func72, Tryz.ntmps72
 go_upto_region 1 with fail
 generalize w.alloc _ = w1 at *
 generalize w.heap.size = X at *
 have x0 := block_cell HB0.o 0 _ rfl
 have x1 := block_cell HB0.o 1 _ rfl
 go_wp2_with fail
 refine (wnum_box (k := 1) (n := 0) HW0.o HB0.o HX.o (by decide) (by omega) rfl (by omega) (by omega)).mono ?_
 rintro e w2 ⟨rfl, hW2, hB2, hf2⟩
 have HW2 := hid hW2
 have HF2 := hid ((Wf.of (B := B) HF0.o).trans hf2)
 have y0 := block_cell hB2 0 _ rfl
 clear hW2 hf2 x0 x1 hB2
 go_wp2_with fail
 go_loopg [19] 10 (fun mm iv wr => ∃ i : Nat, i <= 10 /\ mm = 10 - i /\ iv = .int .i64 (i : Nat) /\ Hid (WtAt wr B ((l ++ numW 1 0) ++ kidsW k i)) /\ Hid (Wf w B wr))
 case atStart => exact ⟨0, by omega, rfl, rfl, by simpa [kidsW] using HW2, HF2⟩
 case round =>
  obtain ⟨i, hik, rfl, rfl, HWr, HFr⟩ := hrel
  by_cases hlt : i < 10
  ·have hki : (i : Int) < 10 := by omega
   obtain ⟨a, b, d0, d1, dT⟩ := HCs.o i hlt
   obtain ⟨xp, yp, rfl, rfl⟩ := trAt_shape dT
   have hu := HF.o.2.trans (Wf.up HFr.o)
   have c0 := cell_up HF.o.1 hu d0
   have c1 := cell_up HF.o.1 hu d1
   have HC := hid (fun W (hf : F0 wr W) => HIH.o i hlt W _ _ dT (hu.trans (hf.mono (by simp))) (HWr.o.fr hf) (HLn.o i hlt))
   have hgb : K < wr.heap.size := World.block_lt_of_cell? wr _ c0
   clear d0 d1 dT hu y0
   go_wp2_with fail
   refine (HC.o _ ((Fr.refl _ _).alloc _)).mono ?_
   rintro e w3 ⟨rfl, hW3, hf3⟩
   have HW3 : Hid (WtAt w3 B ((l ++ numW 1 0) ++ kidsW k (i + 1))) := by
    show WtAt _ _ _
    rw [kidsW_succ, <- List.append_assoc]
    exact hW3
   have HF3 := hid ((HFr.o.trans (Wf.of ((Fr.refl _ _).alloc _))).trans hf3)
   clear hW3 hf3
   go_wp2_with fail
   go_roundg (10 - (i + 1))
   case measure => omega
   case rel => exact ⟨i + 1, by omega, rfl, by go_num, HW3, HF3⟩
  ·have e : i = 10 := by omega
   subst e
   go_wp2_with fail
   go_end0
   refine ⟨rfl, ?_, HFr.o⟩
   rw [HE.o, <- List.append_assoc]
   exact HWr.o
theorem wnode_any (w0 : World) (B lo np : Nat) (h0 : w0.heap.size <= B) (hnp : np <= 255) : ∀ (t : Tr) (W : World) (L : List UInt8) (v : Value), t.lows np -> TrAt w0 lo t v -> Fr (fun k => B <= k) w0 W -> WtAt W B L -> (L ++ t.wr).length <= 1000000 -> Calls Tryz.prog 72 #[.pointer (some ⟨B, 0, none⟩), v] W (WtP W B (L ++ t.wr))
 | .leaf p, W, L, v, hl, hv, hf, hW, hs => by
  have hv : v = .agg #[.pointer none, .int .i64 (p : Nat)] := hv
  have hl : p < np := hl
  subst hv
  exact wnode_leaf W B L p (by omega) hW (by simpa [Tr.wr, numW_len] using hs)
 | .node k, W, L, v, hl, ⟨K, cs, hv, _, hK, _, hcs⟩, hf, hW, hs => by
  subst hv
  exact wnode_node w0 W B L k K lo cs h0 hf hK hcs (fun d hd W L v hv hf hW hs => wnode_any w0 B lo np h0 hnp (k d) W L v (hl d hd) hv hf hW hs) hW hs
set_option maxRecDepth 30000 in
set_option maxHeartbeats 1000000 in
theorem sClose_any (s : ByteArray) (w : World) (hs : s.size <= 199992) (hH : Hal w) :
  Calls Tryz.prog 73 #[.string s] w fun e w' => e = .returned (.string ⟨(closeM s.data.toList).toArray⟩) /\ F0 w w' := by
 have hl : s.data.toList.length = s.size := by simp
 have HL := hid hl
 have HH := hid hH
 clear hl hH
 have HWd : Hid (∀ (n : Nat) (nv : Int) (W : World), nv = n -> n < 4294967296 -> Calls Tryz.prog 77 #[.int .u32 nv] W fun e w' => e = .returned (.string ⟨(wordB n).toArray⟩) /\ F0 W w') := fun n nv W e hn => by subst e; exact sword_any n W hn
 go_enter Tryz.func73, Tryz.ntmps73
 go_wp2_with fail
 refine (HWd.o (8 + s.size) _ _ (by omega) (by omega)).mono ?_
 rintro e w1 ⟨rfl, hf1⟩
 have HF1 := hid hf1
 obtain ⟨W1, hW1⟩ : ∃ W1 : ByteArray, (⟨(wordB (8 + s.size)).toArray⟩ : ByteArray) = W1 := ⟨_, rfl⟩
 have hs1 : W1.size = 4 := by rw [<- hW1]; rfl
 have HW1 : Hid (W1.data.toList = wordB (8 + s.size)) := by show _ = _; rw [<- hW1]
 rw [hW1]
 clear hf1 hW1
 have hsa : (W1 ++ s).size = 4 + s.size := by rw [ByteArray.size_append, hs1]
 have hln : W1.size + s.size <= 9223372036854775807 := by omega
 go_wp2_with fail
 obtain ⟨A, hA⟩ : ∃ A, W1 ++ s = A := ⟨_, rfl⟩
 have HA : Hid (A.data.toList = wordB (8 + s.size) ++ s.data.toList) := by show _ = _; rw [<- hA, ByteArray.data_append, Array.toList_append, HW1.o]
 rw [hA] at hsa ⊢
 clear hA hln hs1
 have hsA : A.size <= 200000 := by omega
 refine (ssum_any A w1 hsA (HH.o.fr HF1.o)).mono ?_
 rintro e w2 ⟨rfl, hf2⟩
 have HF2 := hid (HF1.o.trans hf2)
 clear hf2
 go_wp2_with fail
 refine (sword_any (sumM A.data.toList) _ (sumM_lt _)).mono ?_
 rintro e w3 ⟨rfl, hf3⟩
 have HF3 := hid (HF2.o.trans hf3)
 obtain ⟨W2, hW2⟩ : ∃ W2 : ByteArray, (⟨(wordB (sumM A.data.toList)).toArray⟩ : ByteArray) = W2 := ⟨_, rfl⟩
 have hs2 : W2.size = 4 := by rw [<- hW2]; rfl
 have HW2 : Hid (W2.data.toList = wordB (sumM A.data.toList)) := by show _ = _; rw [<- hW2]
 rw [hW2]
 clear hf3 hW2
 have hln : A.size + W2.size <= 9223372036854775807 := by omega
 go_wp2_with fail
 go_ret
 have e : A ++ W2 = ⟨(closeM s.data.toList).toArray⟩ := by
  apply ByteArray.ext
  apply Array.toList_inj.1
  rw [ByteArray.data_append, Array.toList_append, HW2.o, HA.o]
  simp only [closeM, HL.o]
 rw [<- e]
 exact ⟨rfl, HF3.o⟩
end Go.Proofs.YtccikgogjfbpeabGreatDoor
