/- Regions: payments; decides. Regions: decides. -/
import Derived.Test.YtccikgogjfbpeaaGreatDoorYHa
import Derived.Test.YtccikgogjfbpeaaGreatDoorYMh
namespace Go.Proofs.YtccikgogjfbpeaaGreatDoor
open Go.RowKit Go.Shelf
attribute [local go_sem] Oper.semAt_some
theorem three_new {w w' : World} {o1 o2 o3 : Obj} (h : w' = ((w.alloc o1).alloc o2).alloc o3) : w'.heap.size = w.heap.size + 3 ∧ w'.heap[w.heap.size]? = some o1 ∧ w'.heap[w.heap.size + 1]? = some o2 ∧ w'.heap[w.heap.size + 1 + 1]? = some o3 ∧ Fr (fun _ => False) w w' := by
 subst h
 refine ⟨by simp, ?_, ?_, ?_, (((Fr.refl _ _).alloc _).alloc _).alloc _⟩
 ·exact (((Fr.refl (fun _ => False) _).alloc _).alloc _).whole (heap_alloc_new w _) (by simp)
 ·exact ((Fr.refl (fun _ => False) _).alloc _).whole (by have := heap_alloc_new (w.alloc o1) o2; simpa using this) (by simp)
 ·have := heap_alloc_new ((w.alloc o1).alloc o2) o3
  simpa using this
set_option maxRecDepth 30000 in
set_option maxHeartbeats 400000 in
theorem payments_any (A : ArM) (x0 x1 x2 x3 : SlM) (a : Option Addr) (n c : Nat) (w : World) :
  Calls Tryz.prog 113 #[.agg #[spV x0 A.s0, spV x1 A.s1, spV x2 A.s2, spV x3 A.s3], .slice a n c] w fun e w' => ∃ B, e = .returned (.func (.func 212) #[] #[.pointer (some ⟨B, 0, none⟩), .pointer (some ⟨B + 1 + 1, 0, none⟩), .pointer (some ⟨B + 1, 0, none⟩)]) ∧ w.heap.size ≤ B ∧ w'.heap.size = B + 3 ∧ w'.heap[B]? = some (.cells #[.int .i64 ((0 : Nat) : Int)] 3) ∧ w'.heap[B + 1]? = some (.cells #[spV x0 A.s0, spV x1 A.s1, spV x2 A.s2, spV x3 A.s3] 215) ∧ w'.heap[B + 1 + 1]? = some (.cells #[.slice a n c] 217) ∧ Fr (fun _ => False) w w' := by
 have HF : Hid (∀ W, Calls Tryz.prog 172 #[.int .i64 0, .agg #[.slice x0.a A.s0.length x0.c, .slice x1.a A.s1.length x1.c, .slice x2.a A.s2.length x2.c, .slice x3.a A.s3.length x3.c], .slice a n c] W fun e w' => e = .returned (.func (.func 212) #[] #[.pointer (some ⟨W.heap.size, 0, none⟩), .pointer (some ⟨W.heap.size + 1 + 1, 0, none⟩), .pointer (some ⟨W.heap.size + 1, 0, none⟩)]) ∧ w' = ((W.alloc (.cells #[.int .i64 ((0 : Nat) : Int)] 3)).alloc (.cells #[spV x0 A.s0, spV x1 A.s1, spV x2 A.s2, spV x3 A.s3] 215)).alloc (.cells #[.slice a n c] 217)) := fun W => from_any 0 A x0 x1 x2 x3 a n c W
 unfold spV
 go_enter Tryz.func113, Tryz.ntmps113
 go_wp2_with (go_at_call 172; refine (HF.out _).mono ?_)
 rintro e w' ⟨rfl, he⟩
 obtain ⟨t1, t2, t3, t4, t5⟩ := three_new he
 have HX : Hid (w.heap.size ≤ (w.alloc (.cells #[.slice x0.a A.s0.length x0.c, .slice x1.a A.s1.length x1.c, .slice x2.a A.s2.length x2.c, .slice x3.a A.s3.length x3.c] 215)).heap.size ∧ Fr (fun _ => False) w (w.alloc (.cells #[.slice x0.a A.s0.length x0.c, .slice x1.a A.s1.length x1.c, .slice x2.a A.s2.length x2.c, .slice x3.a A.s3.length x3.c] 215))) := ⟨by simp, (Fr.refl _ _).alloc _⟩
 generalize w.alloc (.cells #[.slice x0.a A.s0.length x0.c, .slice x1.a A.s1.length x1.c, .slice x2.a A.s2.length x2.c, .slice x3.a A.s3.length x3.c] 215) = w1 at *
 obtain ⟨B, hB⟩ : ∃ B, w1.heap.size = B := ⟨_, rfl⟩
 rw [hB] at t1 t2 t3 t4 HX
 rw [hB]
 have H1 := hid t1
 have H2 := hid t2
 have H3 := hid t3
 have H4 := hid t4
 have H5 := hid t5
 clear HF he t1 t2 t3 t4 t5 hB
 go_wp2_with fail
 go_ret
 exact ⟨B, rfl, HX.out.1, H1.out, H2.out, H3.out, H4.out, HX.out.2.trans H5.out⟩
end Go.Proofs.YtccikgogjfbpeaaGreatDoor

namespace Go.Proofs.YtccikgogjfbpeaaGreatDoor
open Go.RowKit Go.Shelf
attribute [local go_sem] Oper.semAt_some
theorem area_ne (dg lo hi : Nat) (lm : List Nat) (has : Bool) (a7 a8 : Nat) (lc : List Nat) (i : Nat) : (areaM dg lo hi lm has a7 a8 lc).at i ≠ [] := by
 have h : ∀ (l : List Nat) (m : Nat), listM2 l m ≠ [] := fun l m => by
  unfold listM2
  split
  ·simp
  ·rename_i h; simpa using h
 unfold areaM ArM.at
 split
 ·simp
 ·exact h _ _
 ·simp
 ·exact h _ _
end Go.Proofs.YtccikgogjfbpeaaGreatDoor
