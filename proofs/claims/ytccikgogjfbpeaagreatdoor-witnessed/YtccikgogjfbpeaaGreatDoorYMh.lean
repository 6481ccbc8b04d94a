/- Regions: from's function: the loop over the next side's. Regions: from's function, from one side to the next. -/
import Derived.Test.YtccikgogjfbpeaaGreatDoorYHa
import Derived.Test.YtccikgogjfbpeaaGreatDoorYMg
namespace Go.Proofs.YtccikgogjfbpeaaGreatDoor
open Go.RowKit Go.Shelf
attribute [local go_sem] Oper.semAt_some
def findRange : Code → Option Code
 | .rangeFunc g ps a b => some (.rangeFunc g ps a b)
 | .seq a b => (findRange a).or (findRange b)
 | .block _ c => findRange c
 | .loop c => findRange c
 | _ => none
def frRange (f : Func) : Code := (f.body.bind findRange).getD .skip
set_option maxRecDepth 100000 in
set_option maxHeartbeats 8000000 in
theorem fromD_range (side n l N M : Nat) (hs : side < 4) (S : Nat → Prop) (J Jx : List (PaM × Nat) → World → Prop) (dn xs : List (PaM × Nat)) (Bs By Bn Cs Co Ca : Nat) (w : World) (Q : Exit → Act → World → Prop) (ds : List Deferred)
  (t0 t2 t3 t5 t7 t8 t9 t10 t11 t12 t13 t14 t15 t16 t17 t18 t19 t20 t21 t22 t23 t24 t25 t26 t27 t28 t29 t30 t31 t33 t34 t35 t36 t37 t38 t39 t40 t41 t42 t43 : Value)
  (hseq : SeqO Tryz.prog 212 #[.pointer (some ⟨Cs, 0, none⟩), .pointer (some ⟨Co, 0, none⟩), .pointer (some ⟨Ca, 0, none⟩)] paE (andRd S w.heap.size) xs w)
  (hS : ∀ k, S k → k < M) (hM : M ≤ w.heap.size) (hJ : OwnB M J) (hJx : OwnB M Jx)
  (hY : ∀ pre x W1, pre ++ [x] <+: xs → J (dn ++ pre.map (paF side n)) W1 → YieldAt Fence.wide N Tryz.prog l (paE (paF side n x)) W1 fun e W' => Fr S W1 W' ∧ ((e = .returned (.bool true) ∧ J (dn ++ (pre ++ [x]).map (paF side n)) W') ∨ (e = .returned (.bool false) ∧ Jx (dn ++ (pre ++ [x]).map (paF side n)) W')))
  (hc : ∀ W, Fr S w W → W.cell? ⟨Bs, 0, none⟩ = some (.int .i64 (side : Nat)) ∧ W.cell? ⟨By, 0, none⟩ = some (.func (.yield l) #[] #[]) ∧ W.cell? ⟨Bn, 0, none⟩ = some (.int .i64 (n : Nat)))
  (h0 : J dn w)
  (hdone : ∀ W, Fr S w W → J (dn ++ xs.map (paF side n)) W → W.heap[w.heap.size]? = some (.deferred (some [])) → Q .normal { tmps := #[t0, .pointer (some ⟨Bs, 0, none⟩), t2, t3, .pointer (some ⟨By, 0, none⟩), t5, .pointer (some ⟨Bn, 0, none⟩), t7, t8, t9, t10, t11, t12, t13, t14, t15, t16, t17, t18, t19, t20, t21, t22, t23, t24, t25, t26, t27, t28, t29, t30, t31, .func (.func 212) #[] #[.pointer (some ⟨Cs, 0, none⟩), .pointer (some ⟨Co, 0, none⟩), .pointer (some ⟨Ca, 0, none⟩)], t33, t34, t35, t36, t37, t38, t39, t40, t41, t42, t43], defers := { target := .collected w.heap.size, args := #[] } :: ds } W)
  (hstop : ∀ pre W, pre <+: xs → Fr S w W → Jx (dn ++ pre.map (paF side n)) W → W.heap[w.heap.size]? = some (.deferred (some [])) → Q .ret { tmps := #[t0, .pointer (some ⟨Bs, 0, none⟩), t2, t3, .pointer (some ⟨By, 0, none⟩), t5, .pointer (some ⟨Bn, 0, none⟩), t7, t8, t9, t10, t11, t12, t13, t14, t15, t16, t17, t18, t19, t20, t21, t22, t23, t24, t25, t26, t27, t28, t29, t30, t31, .func (.func 212) #[] #[.pointer (some ⟨Cs, 0, none⟩), .pointer (some ⟨Co, 0, none⟩), .pointer (some ⟨Ca, 0, none⟩)], t33, t34, t35, t36, t37, t38, t39, t40, t41, t42, t43], defers := { target := .collected w.heap.size, args := #[] } :: ds } W) :
  (frRange Tryz.f212).wpIn Fence.wide 2 Tryz.prog Q { tmps := #[t0, .pointer (some ⟨Bs, 0, none⟩), t2, t3, .pointer (some ⟨By, 0, none⟩), t5, .pointer (some ⟨Bn, 0, none⟩), t7, t8, t9, t10, t11, t12, t13, t14, t15, t16, t17, t18, t19, t20, t21, t22, t23, t24, t25, t26, t27, t28, t29, t30, t31, .func (.func 212) #[] #[.pointer (some ⟨Cs, 0, none⟩), .pointer (some ⟨Co, 0, none⟩), .pointer (some ⟨Ca, 0, none⟩)], t33, t34, t35, t36, t37, t38, t39, t40, t41, t42, t43], defers := ds } w := by
 conv => arg 4; whnf
 refine range_own (n := 0) rfl (enters_of Tryz.func212 (by kernel_rfl) rfl) hseq (Fr.refl _ _) (fun _ => rfl) (fun k hk => Nat.lt_of_lt_of_le (hS k hk) hM)
  (fun pre W => J (dn ++ pre.map (paF side n)) W ∧ Fr S w W) (fun c pre W => c = .ret ∧ (Jx (dn ++ pre.map (paF side n)) W ∧ Fr S w W))
  (OwnB.and (OwnB.map (hJ.mono hM) (fun (pre : List (PaM × Nat)) => dn ++ pre.map (paF side n))) (OwnB.fr (Nat.le_refl _))) (fun c => OwnB.and (OwnB.pure (fun (_ : List (PaM × Nat)) => c = .ret)) (OwnB.and (OwnB.map (hJx.mono hM) (fun (pre : List (PaM × Nat)) => dn ++ pre.map (paF side n))) (OwnB.fr (Nat.le_refl _)))) ⟨by simpa using h0, Fr.refl _ _⟩
  (fun x m a' W => ∃ Bx, m ≤ Bx ∧ W.heap[Bx]? = some (.cells #[.int .i64 (x.1.p0 : Nat), .int .i64 (x.1.p1 : Nat), .int .i64 (x.1.p2 : Nat), .int .i64 (x.1.p3 : Nat)] 139) ∧ a' = { tmps := #[t0, .pointer (some ⟨Bs, 0, none⟩), t2, t3, .pointer (some ⟨By, 0, none⟩), t5, .pointer (some ⟨Bn, 0, none⟩), .pointer (some ⟨Bx, 0, none⟩), .int .i64 (x.2 : Nat), t9, t10, t11, t12, t13, t14, t15, t16, t17, t18, t19, t20, t21, t22, t23, t24, t25, t26, t27, t28, t29, t30, t31, .func (.func 212) #[] #[.pointer (some ⟨Cs, 0, none⟩), .pointer (some ⟨Co, 0, none⟩), .pointer (some ⟨Ca, 0, none⟩)], paV x.1, .int .i64 (x.2 : Nat), t35, t36, t37, t38, t39, t40, t41, t42, t43], defers := [] })
  (fun x m a' s A B row hs hg hr => by obtain ⟨Bx, h1, h2, h3⟩ := hs; exact ⟨Bx, h1, ownFrom_block (C := w.heap.size) () A B row h2 hg hr, h3⟩) ?assign ?body ?done ?stop
 case assign =>
  rintro pre x W K hp ⟨hi, hf⟩ hK
  unfold paE paV
  gi_wp2
  exact hK _ _ ((Fr.refl _ _).alloc _) ⟨(hJ.mono hM).alloc _ hi, hf.alloc _⟩ ⟨W.heap.size, Nat.le_refl _, heap_alloc_new W _, rfl⟩
 case body =>
  rintro pre x m a' W hp hm ⟨hi, hf⟩ ⟨Bx, hBx, hB, rfl⟩
  obtain ⟨c1, c2, c3⟩ := hc W hf
  have hlx : Bx < W.heap.size := (Array.getElem?_eq_some_iff.1 hB).1
  have f1 : Fr (fun k => M ≤ k) W (W.setCell ⟨Bx, side, none⟩ (.int .i64 (n : Nat))) := (Fr.refl _ _).setCell (p := ⟨Bx, side, none⟩) (.inl (by show M ≤ Bx; omega)) _
  have f2 : Fr (fun k => S k ∨ m ≤ k) W (W.setCell ⟨Bx, side, none⟩ (.int .i64 (n : Nat))) := (Fr.refl _ _).setCell (p := ⟨Bx, side, none⟩) (.inl (.inr hBx)) _
  obtain ⟨e0, e1, e2, e3⟩ := pa_set x.1 side n hs Bx W _ hB
  have hby : By ≠ Bx := by have := World.block_lt_of_cell? w _ (hc w (Fr.refl _ _)).2.1; show By ≠ Bx; simp at this; omega
  have d2 : (W.setCell ⟨Bx, side, none⟩ (.int .i64 (n : Nat))).cell? ⟨By, 0, none⟩ = some (.func (.yield l) #[] #[]) := (World.cell?_setCell_other _ _ _ _ (by simp)).trans c2
  obtain ⟨u, hu⟩ : ∃ u, W.cell? ⟨Bx, side, none⟩ = some u := pa_cell hs hB
  have hfz : W.frozen? ⟨Bx, side, none⟩ = false := block_frozen hB side
  obtain ⟨fn, tmps, assign, body, hyd, hR⟩ := hY pre x (W.setCell ⟨Bx, side, none⟩ (.int .i64 (n : Nat))) hp (hJ _ _ _ hi f1)
  have HRd := hid hR
  have HF := hid hf
  have HF2 := hid f2
  unfold paE paV paF at hyd
  have hsi : (side : Int) < 4 := by omega
  clear hR hi hf f1 f2 hY hc hdone hstop hseq hJ hJx h0 hB
  gi_wp2
  refine ⟨rfl, ?_⟩
  refine RoundIn.mono (F := Fence.wide.inRound (w.heap.size + 1)) ⟨HRd.out.1, fun c cs _ => HRd.out.2 c cs (room_wide _)⟩ ?_
  rintro e W3 ⟨hf3, (⟨rfl, hj3⟩ | ⟨rfl, hj3⟩)⟩
  ·have HF3 := hid (HF2.out.trans (hf3.mono (fun k h => .inl h)))
   have HJ3 := hid hj3
   clear hf3 hj3 HRd hyd
   gi_wp2
   exact ⟨HF3.out, HJ3.out, HF.out.monoNew HF3.out (fun i h => h.elim .inl (fun h => .inr (by omega)))⟩
  ·have HF3 := hid (HF2.out.trans (hf3.mono (fun k h => .inl h)))
   have HJ3 := hid hj3
   clear hf3 hj3 HRd hyd
   gi_wp2
   exact ⟨HF3.out, rfl, HJ3.out, HF.out.monoNew HF3.out (fun i h => h.elim .inl (fun h => .inr (by omega)))⟩
 case done =>
  rintro W ⟨hi, hf⟩ hD
  exact hdone W hf hi hD
 case stop =>
  rintro c pre W hp ⟨rfl, hi, hf⟩ hD
  gi_wp2
  exact hstop pre W hp hf hi hD
end Go.Proofs.YtccikgogjfbpeaaGreatDoor

namespace Go.Proofs.YtccikgogjfbpeaaGreatDoor
open Go.RowKit Go.Shelf
attribute [local go_sem] Oper.semAt_some
def okPost (Q : Exit → Act → World → Prop) : Exit → Act → World → Prop
 | .normal, a, w => Q .normal a w
 | .ret, a, w => Q .ret a w
 | _, _, _ => False
theorem wp_ok {P : Program} {c : Code} {Q : Exit → Act → World → Prop} {a : Act} {w : World} (h : c.wp P (okPost Q) a w) : c.wp P Q a w := wp_mono h (fun e _ _ h => by
 cases e with
 | normal => exact h
 | ret => exact h
 | _ => exact h.elim)
structure FrRel (S : Nat → Prop) (J : List (PaM × Nat) → World → Prop) (dn : List (PaM × Nat)) (W ws : World) (Ds : List Nat) (wr : World) : Prop where
 j : J dn wr
 f : Fr S ws wr
 nd : Ds.Nodup
 ds : ∀ D, D ∈ Ds → W.heap.size ≤ D ∧ wr.heap[D]? = some (.deferred (some []))
set_option maxRecDepth 100000 in
set_option maxHeartbeats 8000000 in
theorem fromD_step (k side : Nat) (hk : side + k = 3) (Bs Bo Ba c : Nat) (S : Nat → Prop) (A : ArM) (x0 x1 x2 x3 : SlM) (a : Option Addr) (es : List ArE) (w : World)
  (hl : es.length ≤ 10) (hne : A.at side ≠ []) (hb : ∀ e, e ∈ es → ∀ s, s ∈ e.A.at side → s.1 ≤ 10000000000 ∧ s.2 ≤ 10000000000)
  (h : ∀ W, Fr S w W → FromAt W Bs Bo Ba side A x0 x1 x2 x3 a c es)
  (ih : ∀ (n : Nat) (Bs Bo Ba c : Nat) (S : Nat → Prop) (a : Option Addr) (w : World), (∀ W, Fr S w W → FromAt W Bs Bo Ba (side + 1) A x0 x1 x2 x3 a c (havE side n es)) → SeqO Tryz.prog 212 #[.pointer (some ⟨Bs, 0, none⟩), .pointer (some ⟨Bo, 0, none⟩), .pointer (some ⟨Ba, 0, none⟩)] paE S (fromM A k (havE side n es)) w) :
  SeqO Tryz.prog 212 #[.pointer (some ⟨Bs, 0, none⟩), .pointer (some ⟨Bo, 0, none⟩), .pointer (some ⟨Ba, 0, none⟩)] paE S (fromM A (k + 1) es) w := by
 rw [fromM_eq A k side es hk]
 obtain ⟨L, hLe⟩ : ∃ L, startsM side A es = L := ⟨_, rfl⟩
 rw [hLe]
 intro n l J Jx W hW hS hJ hJx hY h0
 have hs : side < 4 := by omega
 have HFA := hid h
 have HIH := hid ih
 have HW := hid hW
 have HSz := hid hS
 have HJ := hid hJ
 have HJx := hid hJx
 have HY := hid hY
 have H0 := hid h0
 have HBd := hid hb
 have HNe := hid hne
 have HK := hid hk
 have HLe := hid hLe
 have hL2 : L.length ≤ 2010 := by rw [← hLe]; exact starts_len hl (h W hW).ar (h W hW).ars
 have HL10 := hid hl
 have hs4 : ((side : Int) == 4) = false := by simp; omega
 have HS4 := hid hs
 refine callsIn_of_wp_marks Tryz.func212 rfl trivial ?_ rfl
 show Code.wpIn _ _ _ _ _ { tmps := #[.func (.yield l) #[] #[], .pointer (some ⟨Bs, 0, none⟩), .pointer (some ⟨Bo, 0, none⟩), .pointer (some ⟨Ba, 0, none⟩)] ++ Array.replicate (Tryz.f212.ntmps - 4) undef, defers := [] } _
 simp only [Tryz.ntmps212, Nat.reduceSub, Array.replicate_succ, Array.replicate_zero, List.push_toArray, List.append_toArray, List.nil_append, List.cons_append]
 refine (wpIn_wide (n := n + 1)).2 (wp_ok ?_)
 obtain ⟨W1, hW1⟩ : ∃ W1, W.alloc (.cells #[.func (.yield l) #[] #[]] 312) = W1 := ⟨_, rfl⟩
 have f1 : Fr S W W1 := by rw [← hW1]; exact (Fr.refl _ _).alloc _
 obtain ⟨By, hBy⟩ : ∃ By, W.heap.size = By := ⟨_, rfl⟩
 have o1 : W1.heap[By]? = some (.cells #[.func (.yield l) #[] #[]] 312) := by rw [← hW1, ← hBy]; exact heap_alloc_new W _
 have j1 : J [] W1 := by rw [← hW1]; exact hJ.alloc _ h0
 have q1 := h W1 (hW.trans f1)
 have c1 := q1.s
 have c2 := q1.o
 have c3 : W1.cell? ⟨Ba, 0, none⟩ = some (.slice x0.a A.s0.length x0.c) := q1.a0
 have c4 : W1.cell? ⟨Ba, 1, none⟩ = some (.slice x1.a A.s1.length x1.c) := q1.a1
 have c5 : W1.cell? ⟨Ba, 2, none⟩ = some (.slice x2.a A.s2.length x2.c) := q1.a2
 have c6 : W1.cell? ⟨Ba, 3, none⟩ = some (.slice x3.a A.s3.length x3.c) := q1.a3
 have HF1 := hid f1
 have HO1 := hid o1
 have HJ1 := hid j1
 have HST := hid (starts_any W1 side A x0 x1 x2 x3 a c es hs q1.ar hne q1.ars hl hb)
 unfold spV at HST
 clear hLe hk q1 f1 o1 j1 h ih hW hS hJ hJx hY h0 hb hne hl hs
 go_upto_region 3 with fail
 have HBy := hid hBy
 clear hW1 hBy
 go_wp2_with (go_at_call 213; refine HST.out.mono ?_)
 rintro e ws ⟨⟨g, cap, hg, rfl, hcl⟩, hfs⟩
 rw [HLe.out] at hcl ⊢
 have HCL := hid hcl
 have HG : Hid (¬ S g) := fun h => by have := HSz.out g h; have := HF1.out.size; omega
 have HFs : Hid (Fr S W1 ws) := hfs.mono (fun _ h => h.elim)
 have HJs : Hid (J [] ws) := HJ.out _ _ _ HJ1.out (hfs.mono (fun _ h => h.elim))
 clear hcl hfs hg HST c1 c2 c3 c4 c5 c6
 go_wp2_with fail
 obtain ⟨I, hI⟩ : ∃ I : Nat → Act → World → Prop, ∀ m a' wr, I m a' wr ↔ ∃ (j : Nat) (Ds : List Nat) (u6 u22 u23 u24 u25 u26 u27 u28 u29 u30 u31 u32 u43 : Value), j ≤ L.length ∧ m = L.length - j ∧ a' = { tmps := #[.func (.yield l) #[] #[], .pointer (some ⟨Bs, 0, none⟩), .pointer (some ⟨Bo, 0, none⟩), .pointer (some ⟨Ba, 0, none⟩), .pointer (some ⟨By, 0, none⟩), undef, u6, undef, undef, .int .i64 (side : Nat), .bool false, undef, undef, undef, undef, undef, .int .i64 (side : Nat), .agg #[.slice x0.a A.s0.length x0.c, .slice x1.a A.s1.length x1.c, .slice x2.a A.s2.length x2.c, .slice x3.a A.s3.length x3.c], .slice a es.length c, .slice (some ⟨g, 0, none⟩) L.length cap, .int .i64 (L.length : Nat), .int .i64 (j : Nat), u22, u23, u24, u25, u26, u27, u28, u29, u30, u31, u32, undef, undef, undef, undef, undef, undef, undef, undef, undef, undef, u43], defers := marksOf Ds } ∧ Hid (FrRel S J (fromD' A k es side (L.take j)) W ws Ds wr) := ⟨_, fun _ _ _ => Iff.rfl⟩
 refine wp_loop_ghost_k I L.length ((hI _ _ _).2 ⟨0, [], _, _, _, _, _, _, _, _, _, _, _, _, _, Nat.zero_le _, rfl, rfl, HJs.out, Fr.refl _ _, List.nodup_nil, by simp⟩) ?_
 intro m a' wr hi J2 K2 hJ2 hK2
 obtain ⟨j, Ds, u6, u22, u23, u24, u25, u26, u27, u28, u29, u30, u31, u32, u43, hj, rfl, rfl, HR⟩ := (hI _ _ _).1 hi
 have HN : Hid (∀ (Ds' : List Nat) (u6 u22 u23 u24 u25 u26 u27 u28 u29 u30 u31 u32 u43 : Value) (wn : World), j < L.length → FrRel S J (fromD' A k es side (L.take (j + 1))) W ws Ds' wn → K2 { tmps := #[.func (.yield l) #[] #[], .pointer (some ⟨Bs, 0, none⟩), .pointer (some ⟨Bo, 0, none⟩), .pointer (some ⟨Ba, 0, none⟩), .pointer (some ⟨By, 0, none⟩), undef, u6, undef, undef, .int .i64 (side : Nat), .bool false, undef, undef, undef, undef, undef, .int .i64 (side : Nat), .agg #[.slice x0.a A.s0.length x0.c, .slice x1.a A.s1.length x1.c, .slice x2.a A.s2.length x2.c, .slice x3.a A.s3.length x3.c], .slice a es.length c, .slice (some ⟨g, 0, none⟩) L.length cap, .int .i64 (L.length : Nat), .int .i64 ((j : Int) + 1), u22, u23, u24, u25, u26, u27, u28, u29, u30, u31, u32, undef, undef, undef, undef, undef, undef, undef, undef, undef, undef, u43], defers := marksOf Ds' } wn) := fun Ds' u6 u22 u23 u24 u25 u26 u27 u28 u29 u30 u31 u32 u43 wn hj1 h1 =>
  hK2 _ _ ⟨L.length - (j + 1), by omega, hJ2 _ _ _ ((hI _ _ _).2 ⟨j + 1, Ds', u6, u22, u23, u24, u25, u26, u27, u28, u29, u30, u31, u32, u43, hj1, rfl, rfl, h1⟩)⟩
 clear hi hI hK2 hJ2 J2 I
 by_cases hlt : j < L.length
 ·have hki : (j : Int) < (L.length : Int) := by omega
  obtain ⟨nj, hnj⟩ : ∃ nj, L[j]? = some nj := ⟨_, List.getElem?_eq_getElem hlt⟩
  have HNJ := hid hnj
  have cl : wr.cell? ⟨g, j, none⟩ = some (.int .i64 (nj : Nat)) := (HR.out.f.cell (p := ⟨g, j, none⟩) (World.block_lt_of_cell? ws _ (HCL.out j nj hnj)) HG.out).trans (HCL.out j nj hnj)
  obtain ⟨w5, hw5⟩ : ∃ w5, wr.alloc (.cells #[.int .i64 (nj : Nat)] 3) = w5 := ⟨_, rfl⟩
  obtain ⟨Bn, hBn⟩ : ∃ Bn, wr.heap.size = Bn := ⟨_, rfl⟩
  have HF5 : Hid (Fr (fun _ => False) wr w5) := by show Fr _ _ _; rw [← hw5]; exact (Fr.refl _ _).alloc _
  have HO5 : Hid (w5.heap[Bn]? = some (.cells #[.int .i64 (nj : Nat)] 3)) := by show _ = _; rw [← hw5, ← hBn]; exact heap_alloc_new wr _
  have HQ : Hid (∀ W', Fr (fun _ => False) w5 W' → FromAt W' Bs Bo Ba side A x0 x1 x2 x3 a c es ∧ W'.cell? ⟨Bn, 0, none⟩ = some (.int .i64 (nj : Nat))) := fun W' hf =>
   ⟨HFA.out W' ((((HW.out.trans HF1.out).trans HFs.out).trans HR.out.f).trans ((HF5.out.trans hf).mono (fun _ h => h.elim))), block_cell (hf.whole HO5.out (by simp)) 0 _ rfl⟩
  have HSP : Hid (∀ W', Fr (fun _ => False) w5 W' → W'.cell? ⟨Bs, 0, none⟩ = some (.int .i64 (side : Nat)) ∧ W'.cell? ⟨Bn, 0, none⟩ = some (.int .i64 (nj : Nat)) ∧ W'.cell? ⟨Bo, 0, none⟩ = some (.slice a es.length c) ∧ W'.cell? ⟨Ba, 0, none⟩ = some (.slice x0.a A.s0.length x0.c) ∧ W'.cell? ⟨Ba, 1, none⟩ = some (.slice x1.a A.s1.length x1.c) ∧ W'.cell? ⟨Ba, 2, none⟩ = some (.slice x2.a A.s2.length x2.c) ∧ W'.cell? ⟨Ba, 3, none⟩ = some (.slice x3.a A.s3.length x3.c)) := fun W' hf => by
   obtain ⟨h1, h2⟩ := HQ.out W' hf
   exact ⟨h1.s, h2, h1.o, h1.a0, h1.a1, h1.a2, h1.a3⟩
  have t1 : IntKind.i64.wrap ((side : Int) + 1) = (side : Int) + 1 := IntWalk.i64_in _ (by have := HS4.out; constructor <;> omega)
  clear hnj
  go_upto_region 6 with fail
  have HBn := hid hBn
  clear hBn hw5 cl
  refine wp_region_held_drew (S := fun W' => W'.cell? ⟨Bs, 0, none⟩ = some (.int .i64 (side : Nat)) ∧ W'.cell? ⟨Bn, 0, none⟩ = some (.int .i64 (nj : Nat)) ∧ W'.cell? ⟨Bo, 0, none⟩ = some (.slice a es.length c) ∧ W'.cell? ⟨Ba, 0, none⟩ = some (.slice x0.a A.s0.length x0.c) ∧ W'.cell? ⟨Ba, 1, none⟩ = some (.slice x1.a A.s1.length x1.c) ∧ W'.cell? ⟨Ba, 2, none⟩ = some (.slice x2.a A.s2.length x2.c) ∧ W'.cell? ⟨Ba, 3, none⟩ = some (.slice x3.a A.s3.length x3.c)) (by kernel_rfl) (HSP.out _ (Fr.refl _ _).drew) (fun hH => ?_)
  refine held_take 0 (v := ?v0z) rfl (by kernel_rfl) (by kernel_rfl) (by kernel_rfl) (fun _ _ _ h => h) rfl ?y0z hH ?r0z
  case y0z => rintro w ⟨s0, s1, s2, s3, s4, s5, s6⟩; go_simp; with_reducible rfl
  try go_frame
  refine held_take 1 (v := ?v1z) rfl (by kernel_rfl) (by kernel_rfl) (by kernel_rfl) (fun _ _ _ h => h) rfl ?y1z hH ?r1z
  case y1z => rintro w ⟨s0, s1, s2, s3, s4, s5, s6⟩; go_simp; with_reducible rfl
  try go_frame
  refine held_take 2 (v := ?v2z) rfl (by kernel_rfl) (by kernel_rfl) (by kernel_rfl) (fun _ _ _ h => h) rfl ?y2z hH ?r2z
  case y2z => rintro w ⟨s0, s1, s2, s3, s4, s5, s6⟩; go_simp; with_reducible rfl
  try go_frame
  refine held_take 3 (v := ?v3z) rfl (by kernel_rfl) (by kernel_rfl) (by kernel_rfl) (fun _ _ _ h => h) rfl ?y3z hH ?r3z
  case y3z => rintro w ⟨s0, s1, s2, s3, s4, s5, s6⟩; go_simp; with_reducible rfl
  try go_frame
  refine held_take 4 (v := ?v4z) rfl (by kernel_rfl) (by kernel_rfl) (by kernel_rfl) (fun _ _ _ h => h) rfl ?y4z hH ?r4z
  case y4z => rintro w ⟨s0, s1, s2, s3, s4, s5, s6⟩; go_simp; with_reducible rfl
  try go_frame
  refine held_take 5 (v := ?v5z) rfl (by kernel_rfl) (by kernel_rfl) (by kernel_rfl) (fun _ _ _ h => h) rfl ?y5z hH ?r5z
  case y5z => rintro w ⟨s0, s1, s2, s3, s4, s5, s6⟩; go_simp; with_reducible rfl
  try go_frame
  clear t1
  refine wpAnyH_ready (rs := [6]) (by kernel_rfl) (by simp) ?_
  refine held_cons rfl (fun K2 hK => ?_) AllReadyH.nil
  try rw [if_pos (by rfl)]
  go_simp
  refine (having_any w5.drew side nj a c es HS4.out (HQ.out _ (Fr.refl _ _).drew).1.ars HL10.out).mono ?_
  rintro e w6 ⟨⟨v, rfl, hv⟩, hf6⟩
  have HF6 : Hid (Fr (fun _ => False) w5 w6) := ((Fr.refl _ _).drew).trans hf6
  obtain ⟨a6, c6, hv6, ha6, hg6⟩ := ars_own hv (fun e he => by
   obtain ⟨i, hi⟩ := List.mem_iff_getElem?.1 (List.mem_filter.1 he).1
   exact ((HQ.out _ HF6.out).1.ars i e hi).1)
  subst hv6
  obtain ⟨N6, hN6⟩ : ∃ N6, (havE side nj es).length = N6 := ⟨_, rfl⟩
  have HN6 := hid hN6
  have HA6 := hid ha6
  have HG6 := hid hg6
  rw [hN6]
  clear hv ha6 hg6 hf6 hN6
  refine hK.out _ _ (HSP.out _ HF6.out) (fun hH => ?_)
  clear hK K2
  try go_frame
  refine wpAnyH_ready (rs := [7]) (by kernel_rfl) (by simp) ?_
  refine held_cons rfl (fun K2 hK => ?_) AllReadyH.nil
  try rw [if_pos (by rfl)]
  go_simp
  have hfr : Calls Tryz.prog 172 #[.int .i64 ((side : Int) + 1), .agg #[.slice x0.a A.s0.length x0.c, .slice x1.a A.s1.length x1.c, .slice x2.a A.s2.length x2.c, .slice x3.a A.s3.length x3.c], .slice a6 N6 c6] w6 _ := from_any (side + 1) A x0 x1 x2 x3 a6 N6 c6 w6
  refine hfr.mono ?_
  rintro e w7 ⟨rfl, he⟩
  obtain ⟨B6, hB6⟩ : ∃ B6, w6.heap.size = B6 := ⟨_, rfl⟩
  rw [hB6]
  have HF7 : Hid (Fr (fun _ => False) w6 w7) := by show Fr _ _ _; rw [he]; exact (((Fr.refl _ _).alloc _).alloc _).alloc _
  have HSz7 : Hid (w7.heap.size = B6 + 3) := by show _ = _; rw [he, ← hB6]; simp
  have HB7s : Hid (w7.heap[B6]? = some (.cells #[.int .i64 (((side + 1 : Nat)) : Int)] 3)) := by
   show _ = _
   rw [he, ← hB6]
   exact (((Fr.refl (fun _ => False) _).alloc _).alloc _).whole (heap_alloc_new w6 _) (by simp)
  have HB7a : Hid (w7.heap[B6 + 1]? = some (.cells #[spV x0 A.s0, spV x1 A.s1, spV x2 A.s2, spV x3 A.s3] 215)) := by
   show _ = _
   rw [he, ← hB6]
   exact ((Fr.refl (fun _ => False) _).alloc _).whole (by have := heap_alloc_new (w6.alloc (.cells #[.int .i64 (((side + 1 : Nat)) : Int)] 3)) (.cells #[spV x0 A.s0, spV x1 A.s1, spV x2 A.s2, spV x3 A.s3] 215); simpa using this) (by simp)
  have HB7o : Hid (w7.heap[B6 + 1 + 1]? = some (.cells #[.slice a6 N6 c6] 217)) := by
   show _ = _
   rw [he, ← hB6]
   have := heap_alloc_new ((w6.alloc (.cells #[.int .i64 (((side + 1 : Nat)) : Int)] 3)).alloc (.cells #[spV x0 A.s0, spV x1 A.s1, spV x2 A.s2, spV x3 A.s3] 215)) (.cells #[.slice a6 N6 c6] 217)
   simpa using this
  have HB6 := hid hB6
  clear hfr he hB6
  refine hK.out _ _ (HSP.out _ (HF6.out.trans HF7.out)) (fun hH => ?_)
  clear hK K2
  try go_frame
  refine wpAnyH_done (by kernel_rfl) ?_ _
  go_wp2_with fail
  refine (wpIn_wide (n := 2)).1 ?_
  have fW7 : Fr S W w7 := ((HF1.out.trans HFs.out).trans HR.out.f).trans (((HF5.out.trans HF6.out).trans HF7.out).mono (fun _ h => h.elim))
  have fw7 : Fr S w w7 := HW.out.trans fW7
  have sz5 := HF5.out.size
  have sz6 := HF6.out.size
  have szr : W.heap.size ≤ wr.heap.size := ((HF1.out.trans HFs.out).trans HR.out.f).size
  have sb6 : W.heap.size ≤ B6 := by have := HB6.out; omega
  have sz7 : w7.heap.size = B6 + 3 := HSz7.out
  have nS : ∀ i, W.heap.size ≤ i → ¬ S i := fun i hi h => by have := HSz.out i h; omega
  have nR : ∀ i, W.heap.size ≤ i → i < B6 + 3 → ¬ andRd S w7.heap.size i := by
   rintro i h1 h2 (h | h | h)
   ·exact nS i h1 h
   ·omega
   ·omega
  have fR : ∀ W', Fr (andRd S w7.heap.size) w7 W' → Fr S w W' := fun W' hf => fw7.monoNew hf (by
   rintro i (h | h | h)
   ·exact .inl h
   ·right; have := fw7.size; omega
   ·right; have := fw7.size; omega)
  have nd : (w7.heap.size :: Ds).Nodup := List.nodup_cons.2 ⟨fun h => by
   have := (Array.getElem?_eq_some_iff.1 (HR.out.ds _ h).2).1
   have := HF5.out.size; have := HB6.out; omega, HR.out.nd⟩
  have hds : ∀ W', Fr S w7 W' → W'.heap[w7.heap.size]? = some (.deferred (some [])) → ∀ D, D ∈ w7.heap.size :: Ds → W.heap.size ≤ D ∧ W'.heap[D]? = some (.deferred (some [])) := fun W' hf hD D hd => by
   rcases List.mem_cons.1 hd with rfl | hd
   ·exact ⟨by omega, hD⟩
   ·obtain ⟨h1, h2⟩ := HR.out.ds D hd
    exact ⟨h1, fr_kept ((((HF5.out.trans HF6.out).trans HF7.out).mono (fun _ h => h.elim)).trans hf) (nS D h1) h2⟩
  refine fromD_range side nj l n W.heap.size HS4.out S J Jx (fromD' A k es side (L.take j)) (fromM A k (havE side nj es)) Bs By Bn B6 (B6 + 1 + 1) (B6 + 1) w7 _ (marksOf Ds) _ _ _ _ _ _ _ _ _ _ _ _ _ _ _ _ _ _ _ _ _ _ _ _ _ _ _ _ _ _ _ _ _ _ _ _ _ _ _ _ ?hseq HSz.out (by omega) HJ.out HJx.out ?hY ?hc ?h0 ?hd ?hst
  case hseq =>
   refine HIH.out nj B6 (B6 + 1 + 1) (B6 + 1) c6 (andRd S w7.heap.size) a6 w7 (fun W' hf => ?_)
   have hq := HFA.out W' (fR W' hf)
   have ba := hf.whole HB7a.out (nR _ (by omega) (by omega))
   have hN := HN6.out
   refine ⟨block_cell (hf.whole HB7s.out (nR _ (by omega) (by omega))) 0 _ rfl, ?_, block_cell ba 0 _ rfl, block_cell ba 1 _ rfl, block_cell ba 2 _ rfl, block_cell ba 3 _ rfl, hq.ar, ?_⟩
   ·rw [hN]; exact block_cell (hf.whole HB7o.out (nR _ (by omega) (by omega))) 0 _ rfl
   ·refine ((HA6.out.fr HF7.out).frS hf (fun g o e _ => ?_) (fun e he => ?_))
    ·have h6 := HG6.out g o e
     have h5 : w5.drew.heap.size = w5.heap.size := rfl
     have := HB6.out
     exact nR g (by omega) (by omega)
    ·obtain ⟨i, hi⟩ := List.mem_iff_getElem?.1 (List.mem_filter.1 he).1
     exact (hq.ars i e hi).1
  case hY =>
   intro pre x W' hp hj
   have eq : (fromD' A k es side (L.take j) ++ pre.map (paF side nj)) ++ [paF side nj x] = fromD' A k es side (L.take j) ++ (pre ++ [x]).map (paF side nj) := by simp
   have hy := HY.out (fromD' A k es side (L.take j) ++ pre.map (paF side nj)) (paF side nj x) W' (by rw [eq]; exact fromD_here HNJ.out hp) hj
   rw [eq] at hy
   exact hy
  case hc =>
   intro W' hf
   have h1 : By = W.heap.size := HBy.out.symm
   have h2 : Bn = wr.heap.size := HBn.out.symm
   refine ⟨(HFA.out W' (fw7.trans hf)).s, ?_, ?_⟩
   ·exact block_cell ((((HFs.out.trans HR.out.f).trans (((HF5.out.trans HF6.out).trans HF7.out).mono (fun _ h => h.elim))).trans hf).whole HO1.out (nS By (by omega))) 0 _ rfl
   ·exact block_cell (hf.whole ((HF6.out.trans HF7.out).whole HO5.out (by simp)) (nS Bn (by omega))) 0 _ rfl
  case h0 => exact HJ.out _ _ _ HR.out.j (((HF5.out.trans HF6.out).trans HF7.out).mono (fun _ h => h.elim))
  case hd =>
   intro W' hf hj hD
   have HRn : Hid (FrRel S J (fromD' A k es side (L.take (j + 1))) W ws (w7.heap.size :: Ds) W') := ⟨by rw [fromD_take HNJ.out]; exact hj, (HR.out.f.trans (((HF5.out.trans HF6.out).trans HF7.out).mono (fun _ h => h.elim))).trans hf, nd, hds W' hf hD⟩
   clear hf hj hD hds nd fR nR nS sz7 sb6 szr sz6 sz5 fw7 fW7 hH HSP HQ
   go_wp2_with fail
   exact HN.out (w7.heap.size :: Ds) _ _ _ _ _ _ _ _ _ _ _ _ _ W' hlt HRn.out
  case hst =>
   intro pre W' hp hf hj hD
   refine leaves_marks (w7.heap.size :: Ds) W' nd (fun D h => (hds W' hf hD D h).2) ?_
   refine ⟨_, results_none rfl _ _ _, ⟨_, rfl⟩, .inr ⟨_, fromD_here HNJ.out hp, ?_⟩⟩
   exact HJx.out _ _ _ hj (fr_shut _ _ (fun D h => (hds W' hf hD D h).1))
 ·have hki : ¬ (j : Int) < (L.length : Int) := by omega
  have ej : L.take j = L := List.take_of_length_le (by omega)
  have HE : Hid (L.take j = L) := ej
  clear hlt ej
  go_wp2_with fail
  refine leaves_marks Ds wr HR.out.nd (fun D h => (HR.out.ds D h).2) ?_
  refine ⟨_, results_none rfl _ _ _, ⟨_, rfl⟩, .inl ?_⟩
  have hj := HR.out.j
  rw [HE.out] at hj
  exact HJ.out _ _ _ hj (fr_shut _ _ (fun D h => (HR.out.ds D h).1))
theorem fromD_seq (A : ArM) (x0 x1 x2 x3 : SlM) (hne : ∀ i, i < 4 → A.at i ≠ []) : ∀ (k : Nat), k ≤ 4 → ∀ (Bs Bo Ba c : Nat) (S : Nat → Prop) (a : Option Addr) (es : List ArE) (w : World), es.length ≤ 10 →
  (∀ e, e ∈ es → ∀ i s, i < 4 → s ∈ e.A.at i → s.1 ≤ 10000000000 ∧ s.2 ≤ 10000000000) → (∀ W, Fr S w W → FromAt W Bs Bo Ba (4 - k) A x0 x1 x2 x3 a c es) →
  SeqO Tryz.prog 212 #[.pointer (some ⟨Bs, 0, none⟩), .pointer (some ⟨Bo, 0, none⟩), .pointer (some ⟨Ba, 0, none⟩)] paE S (fromM A k es) w
 | 0, _, Bs, Bo, Ba, c, S, a, es, w, _, _, h => fromD_end Bs Bo Ba es.length c S a w (fun W hW => ⟨(h W hW).s, (h W hW).o⟩)
 | k + 1, hk, Bs, Bo, Ba, c, S, a, es, w, hl, hb, h => by
  refine fromD_step k (4 - (k + 1)) (by omega) Bs Bo Ba c S A x0 x1 x2 x3 a es w hl (hne _ (by omega)) (fun e he s hs => hb e he _ s (by omega) hs) h (fun n Bs Bo Ba c S a w h' => ?_)
  refine fromD_seq A x0 x1 x2 x3 hne k (by omega) Bs Bo Ba c S a _ w (Nat.le_trans (havE_len _ _ _) hl) (fun e he => hb e (List.mem_filter.1 he).1) (fun W hW => ?_)
  rw [show 4 - k = 4 - (k + 1) + 1 from by omega]
  exact h' W hW
end Go.Proofs.YtccikgogjfbpeaaGreatDoor
