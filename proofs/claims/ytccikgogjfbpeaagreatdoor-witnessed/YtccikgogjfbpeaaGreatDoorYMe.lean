/- Regions: areaOf, whole. -/
import Derived.Test.YtccikgogjfbpeaaGreatDoorYHa
import Derived.Test.YtccikgogjfbpeaaGreatDoorYMd
namespace Go.Proofs.YtccikgogjfbpeaaGreatDoor
open Go.RowKit
theorem SpO.at {w0 w : World} {a : Option Addr} {n c : Nat} {l : List SpM} (h : SpO w0 w (.slice a n c) l) : SpAt w a l := by
 intro k s hs
 have hk := (List.getElem?_eq_some_iff.1 hs).1
 obtain ⟨g, cap, e, hb, _⟩ := World.ownsRow.form h (by omega)
 injection e with e1 e2 e3
 subst e1 e2 e3
 have c0 := World.ownsRow.cellAt h (2 * k) (by omega)
 have c1 := World.ownsRow.cellAt h (2 * k + 1) (by omega)
 have r : ∀ (l : List SpM) (k : Nat) (s : SpM), l[k]? = some s → (spRow l)[2 * k]? = some (.int .i64 (s.1 : Nat)) ∧ (spRow l)[2 * k + 1]? = some (.int .i64 (s.2 : Nat)) := by
  intro l
  induction l with
  | nil => intro k s h; simp at h
  | cons x r ih =>
   intro k s h
   cases k with
   | zero =>
    simp at h
    subst h
    exact ⟨rfl, rfl⟩
   | succ k =>
    simp at h
    have e := ih k s h
    rw [show 2 * (k + 1) = 2 * k + 2 from by omega]
    exact e
 obtain ⟨r0, r1⟩ := r l k s hs
 refine ⟨g, 0, rfl, ?_, ?_⟩
 ·rw [Nat.zero_add, c0, r0]
 ·rw [Nat.zero_add, c1, r1]
theorem SpO.new {w0 w : World} {a : Option Addr} {n c : Nat} {l : List SpM} (h : SpO w0 w (.slice a n c) l) : ∀ g o, a = some ⟨g, o, none⟩ → w0.heap.size ≤ g ∧ g < w.heap.size := by
 rintro g o rfl
 rcases h.2 with ⟨e, _⟩ | ⟨g', cap, cur, e, hb, hg, _⟩
 ·cases e
 ·cases e
  exact ⟨hb, (Array.getElem?_eq_some_iff.1 hg).1⟩
def ArNew (m n : Nat) (x0 x1 x2 x3 : SlM) : Prop := ∀ x, x = x0 ∨ x = x1 ∨ x = x2 ∨ x = x3 → ∀ g o, x.a = some ⟨g, o, none⟩ → m ≤ g ∧ g < n
theorem SpAt.frS {w w' : World} {S : Nat → Prop} {a : Option Addr} {l : List SpM} (h : SpAt w a l) (hf : Fr S w w') (hS : ∀ g o, a = some ⟨g, o, none⟩ → g < w.heap.size → ¬ S g) : SpAt w' a l := by
 intro k s hs
 obtain ⟨g, o, e, h1, h2⟩ := h k s hs
 have hg := World.block_lt_of_cell? w _ h1
 exact ⟨g, o, e, (hf.cell (p := ⟨g, o + 2 * k, none⟩) hg (hS g o e hg)).trans h1, (hf.cell (p := ⟨g, o + 2 * k + 1, none⟩) hg (hS g o e hg)).trans h2⟩
theorem ArV.frS {w w' : World} {S : Nat → Prop} {A : ArM} {x0 x1 x2 x3 : SlM} (h : ArV w A x0 x1 x2 x3) (hf : Fr S w w') (hS : ∀ x, x = x0 ∨ x = x1 ∨ x = x2 ∨ x = x3 → ∀ g o, x.a = some ⟨g, o, none⟩ → g < w.heap.size → ¬ S g) : ArV w' A x0 x1 x2 x3 :=
 ⟨h.p0.frS hf (hS x0 (.inl rfl)), h.p1.frS hf (hS x1 (.inr (.inl rfl))), h.p2.frS hf (hS x2 (.inr (.inr (.inl rfl)))), h.p3.frS hf (hS x3 (.inr (.inr (.inr rfl)))), h.few⟩
def areaM (dg lo hi : Nat) (lm : List Nat) (has : Bool) (a7 a8 : Nat) (lc : List Nat) : ArM := ⟨[cardsM dg lo hi], listM2 lm 9999, [if has then (a7, a8) else (0, 1000000000)], listM2 lc 999⟩
theorem listM2_len {l : List Nat} {m : Nat} (h : l.length ≤ 10) : (listM2 l m).length ≤ 10 := by unfold listM2; split <;> simp [h]
theorem listed_at {w0 W : World} (a : Option Addr) (c : Nat) (l : List Nat) (most : Nat) (h : IntsAt w0 a l) (hl : l.length ≤ 4000) (hf : Fr (fun _ => False) w0 W) :
  Calls Tryz.prog 174 #[.slice a l.length c, .int .i64 (most : Nat)] W fun e w' => (∃ v, e = .returned v ∧ SpO w0 w' v (listM2 l most)) ∧ Fr (fun _ => False) W w' := by
 have hi : IntsAt W a l := fun k x hx => by
  obtain ⟨g, e, hc⟩ := h k x hx
  exact ⟨g, e, (hf.cell (p := ⟨g, k, none⟩) (World.block_lt_of_cell? w0 _ hc) (by simp)).trans hc⟩
 refine (listed_any W a c l most hi hl).mono ?_
 rintro e w' ⟨⟨v, rfl, hv⟩, hf'⟩
 exact ⟨⟨v, rfl, ownsRow_base hv hf.size⟩, hf'⟩
theorem cells14 {w : World} {P : Nat} {v0 v1 v2 v3 v4 v5 v6 v7 v8 v9 v10 v11 v12 v13 : Value} {t : TypeId} (h : w.heap[P]? = some (.cells #[v0, v1, v2, v3, v4, v5, v6, v7, v8, v9, v10, v11, v12, v13] t)) : w.cell? ⟨P, 0, none⟩ = some v0 ∧ w.cell? ⟨P, 1, none⟩ = some v1 ∧ w.cell? ⟨P, 2, none⟩ = some v2 ∧ w.cell? ⟨P, 3, none⟩ = some v3 ∧ w.cell? ⟨P, 4, none⟩ = some v4 ∧ w.cell? ⟨P, 5, none⟩ = some v5 ∧ w.cell? ⟨P, 6, none⟩ = some v6 ∧ w.cell? ⟨P, 7, none⟩ = some v7 ∧ w.cell? ⟨P, 8, none⟩ = some v8 ∧ w.cell? ⟨P, 9, none⟩ = some v9 ∧ w.cell? ⟨P, 10, none⟩ = some v10 ∧ w.cell? ⟨P, 11, none⟩ = some v11 ∧ w.cell? ⟨P, 12, none⟩ = some v12 ∧ w.cell? ⟨P, 13, none⟩ = some v13 := ⟨block_cell h 0 _ rfl, block_cell h 1 _ rfl, block_cell h 2 _ rfl, block_cell h 3 _ rfl, block_cell h 4 _ rfl, block_cell h 5 _ rfl, block_cell h 6 _ rfl, block_cell h 7 _ rfl, block_cell h 8 _ rfl, block_cell h 9 _ rfl, block_cell h 10 _ rfl, block_cell h 11 _ rfl, block_cell h 12 _ rfl, block_cell h 13 _ rfl⟩
set_option maxRecDepth 30000 in
set_option maxHeartbeats 8000000 in
theorem areaOf_any (w : World) (nm : ByteArray) (rk dg lo hi : Nat) (ma : Option Addr) (mc : Nat) (lm : List Nat) (has : Bool) (a7 a8 : Nat) (ca : Option Addr) (cc : Nat) (lc : List Nat) (dc ch : Bool) (pa : Option Addr) (pn pc : Nat) (ah : Nat) (hd : dg ≤ 6) (hlo : lo ≤ hi) (hhi : hi < 1000000) (hm : IntsAt w ma lm) (hml : lm.length ≤ 10) (hc : IntsAt w ca lc) (hcl : lc.length ≤ 10) :
  Calls Tryz.prog 114 #[rlV nm rk dg lo hi ma lm.length mc has a7 a8 ca lc.length cc dc ch pa pn pc ah] w fun e w' => (∃ x0 x1 x2 x3 A, A = areaM dg lo hi lm has a7 a8 lc ∧ e = .returned (.agg #[spV x0 A.s0, spV x1 A.s1, spV x2 A.s2, spV x3 A.s3]) ∧ ArV w' A x0 x1 x2 x3 ∧ ArNew w.heap.size w'.heap.size x0 x1 x2 x3) ∧ Fr (fun _ => False) w w' := by
 have HB0 : Hid ((w.alloc (rlO nm rk dg lo hi ma lm.length mc has a7 a8 ca lc.length cc dc ch pa pn pc ah)).heap[w.heap.size]? = some (rlO nm rk dg lo hi ma lm.length mc has a7 a8 ca lc.length cc dc ch pa pn pc ah)) := heap_alloc_new w _
 have HF0 : Hid (Fr (fun _ => False) w (w.alloc (rlO nm rk dg lo hi ma lm.length mc has a7 a8 ca lc.length cc dc ch pa pn pc ah))) := (Fr.refl _ _).alloc _
 have HB1 : Hid (((w.alloc (rlO nm rk dg lo hi ma lm.length mc has a7 a8 ca lc.length cc dc ch pa pn pc ah)).alloc (.cells #[.slice none 0 0, .slice none 0 0, .slice none 0 0, .slice none 0 0] 215)).heap[w.heap.size + 1]? = some (.cells #[.slice none 0 0, .slice none 0 0, .slice none 0 0, .slice none 0 0] 215)) := by
  have e := heap_alloc_new (w.alloc (rlO nm rk dg lo hi ma lm.length mc has a7 a8 ca lc.length cc dc ch pa pn pc ah)) (.cells #[.slice none 0 0, .slice none 0 0, .slice none 0 0, .slice none 0 0] 215)
  rw [show (w.alloc (rlO nm rk dg lo hi ma lm.length mc has a7 a8 ca lc.length cc dc ch pa pn pc ah)).heap.size = w.heap.size + 1 from by simp] at e
  exact e
 have HF1 : Hid (Fr (fun _ => False) (w.alloc (rlO nm rk dg lo hi ma lm.length mc has a7 a8 ca lc.length cc dc ch pa pn pc ah)) ((w.alloc (rlO nm rk dg lo hi ma lm.length mc has a7 a8 ca lc.length cc dc ch pa pn pc ah)).alloc (.cells #[.slice none 0 0, .slice none 0 0, .slice none 0 0, .slice none 0 0] 215))) := (Fr.refl _ _).alloc _
 have HCd : Hid (∀ W, Calls Tryz.prog 173 #[rlV nm rk dg lo hi ma lm.length mc has a7 a8 ca lc.length cc dc ch pa pn pc ah] W fun e w' => e = .returned (.agg #[.int .i64 ((cardsM dg lo hi).1 : Nat), .int .i64 ((cardsM dg lo hi).2 : Nat)]) ∧ Fr (fun _ => False) W w') := fun W => cards_any W nm rk dg lo hi ma lm.length mc has a7 a8 ca lc.length cc dc ch pa pn pc ah hd hlo hhi
 have HM := hid hm
 have HC := hid hc
 have HMl : Hid (lm.length ≤ 10) := hml
 have HCl : Hid (lc.length ≤ 10) := hcl
 unfold rlO at HB0 HF0 HB1 HF1
 unfold rlV at HCd ⊢
 clear hd hlo hhi hm hml hc hcl
 go_enter Tryz.func114, Tryz.ntmps114
 go_upto_region 1 with fail
 generalize w.alloc (.cells #[.string nm, .int .i64 rk, .int .i64 dg, .int .i64 lo, .int .i64 hi, .slice ma lm.length mc, .bool has, .int .i64 a7, .int .i64 a8, .slice ca lc.length cc, .bool dc, .bool ch, .slice pa pn pc, .int .i64 ah] 120) = w0 at *
 generalize w0.alloc (.cells #[.slice none 0 0, .slice none 0 0, .slice none 0 0, .slice none 0 0] 215) = w1 at *
 have HBr := hid (HF1.out.whole HB0.out (by simp))
 have HFr := hid (HF0.out.trans HF1.out)
 obtain ⟨P, hP⟩ : ∃ P, w.heap.size = P := ⟨_, rfl⟩
 have HP := hid hP
 rw [hP] at HBr HB1
 rw [hP]
 clear hP HB0 HF0 HF1
 obtain ⟨n1, hn1⟩ : ∃ n, lm.length = n := ⟨_, rfl⟩
 obtain ⟨n2, hn2⟩ : ∃ n, lc.length = n := ⟨_, rfl⟩
 have HN1 := hid hn1
 have HN2 := hid hn2
 rw [hn1, hn2] at HBr HCd
 rw [hn1, hn2]
 clear hn1 hn2
 refine wp_region_held_drew (S := fun W => W.heap[P]? = some (.cells #[.string nm, .int .i64 rk, .int .i64 dg, .int .i64 lo, .int .i64 hi, .slice ma n1 mc, .bool has, .int .i64 a7, .int .i64 a8, .slice ca n2 cc, .bool dc, .bool ch, .slice pa pn pc, .int .i64 ah] 120)) (by kernel_rfl) HBr.out (fun hH => ?_)
 refine held_take 0 (v := ?v0z) rfl (by kernel_rfl) (by kernel_rfl) (by kernel_rfl) (fun _ _ _ h => h) rfl ?y0z hH ?r0z
 case y0z =>
  rintro w s0
  obtain ⟨c0, c1, c2, c3, c4, c5, c6, c7, c8, c9, c10, c11, c12, c13⟩ := cells14 s0
  clear s0
  go_simp
  with_reducible rfl
 try go_frame
 refine held_take 3 (v := ?v3z) rfl (by kernel_rfl) (by kernel_rfl) (by kernel_rfl) (fun _ _ _ h => h) rfl ?y3z hH ?r3z
 case y3z =>
  rintro w s0
  obtain ⟨c0, c1, c2, c3, c4, c5, c6, c7, c8, c9, c10, c11, c12, c13⟩ := cells14 s0
  clear s0
  go_simp
  with_reducible rfl
 try go_frame
 refine held_take 4 (v := ?v4z) rfl (by kernel_rfl) (by kernel_rfl) (by kernel_rfl) (fun _ _ _ h => h) rfl ?y4z hH ?r4z
 case y4z =>
  rintro w s0
  obtain ⟨c0, c1, c2, c3, c4, c5, c6, c7, c8, c9, c10, c11, c12, c13⟩ := cells14 s0
  clear s0
  go_simp
  with_reducible rfl
 try go_frame
 refine held_take 6 (v := ?v6z) rfl (by kernel_rfl) (by kernel_rfl) (by kernel_rfl) (fun _ _ _ h => h) rfl ?y6z hH ?r6z
 case y6z =>
  rintro w s0
  obtain ⟨c0, c1, c2, c3, c4, c5, c6, c7, c8, c9, c10, c11, c12, c13⟩ := cells14 s0
  clear s0
  go_simp
  with_reducible rfl
 try go_frame
 refine held_take 8 (v := ?v8z) rfl (by kernel_rfl) (by kernel_rfl) (by kernel_rfl) (fun _ _ _ h => h) rfl ?y8z hH ?r8z
 case y8z =>
  rintro w s0
  obtain ⟨c0, c1, c2, c3, c4, c5, c6, c7, c8, c9, c10, c11, c12, c13⟩ := cells14 s0
  clear s0
  go_simp
  with_reducible rfl
 try go_frame
 refine held_take 9 (v := ?v9z) rfl (by kernel_rfl) (by kernel_rfl) (by kernel_rfl) (fun _ _ _ h => h) rfl ?y9z hH ?r9z
 case y9z =>
  rintro w s0
  obtain ⟨c0, c1, c2, c3, c4, c5, c6, c7, c8, c9, c10, c11, c12, c13⟩ := cells14 s0
  clear s0
  go_simp
  with_reducible rfl
 try go_frame
 refine arS (w0 := w1) (c := cardsM dg lo hi) (l9 := listM2 lm 9999) (l14 := listM2 lc 999) ?hC ?hQ (hid (Fr.refl _ _).drew) _ rfl _ rfl
 case hC =>
  refine ⟨fun W hf => hf.whole HBr.out (by simp), fun W _ => HCd.out W, fun W hf => ?_, fun W hf => ?_⟩
  ·rw [← HN1.out]
   exact listed_at ma mc lm 9999 (HM.out.fr HFr.out (by simp)) (by have := HMl.out; omega) hf
  ·rw [← HN2.out]
   exact listed_at ca cc lc 999 (HC.out.fr HFr.out (by simp)) (by have := HCl.out; omega) hf
 case hQ =>
  refine ⟨fun _ _ d _ _ h => by cases d <;> exact h, ?_⟩
  intro b3 v6 v9 v11 v14 w5 hb3 hh3 h6 h9 h11 h14 hf5
  obtain ⟨y0, k0, e0⟩ := ownsRow_len h6
  obtain ⟨y1, k1, e1⟩ := ownsRow_len h9
  obtain ⟨y2, k2, e2⟩ := ownsRow_len h11
  obtain ⟨y3, k3, e3⟩ := ownsRow_len h14
  subst e0 e1 e2 e3
  have hPw : P + 1 < w1.heap.size := (Array.getElem?_eq_some_iff.1 HB1.out).1
  have HB5 := hid (hf5.whole HBr.out (by simp))
  have HR5 := hid (hf5.whole HB1.out (by simp))
  have HF5 := hid (HFr.out.trans hf5)
  have H6 := hid h6
  have H9 := hid h9
  have H11 := hid h11
  have H14 := hid h14
  have HH := hid hh3
  have hne : b3 ≠ P + 1 := by omega
  have hPb : P ≤ b3 := by omega
  have f6 : w5.cell? ⟨P, 6, none⟩ = some (.bool has) := block_cell HB5.out 6 _ rfl
  have f7 : w5.cell? ⟨P, 7, none⟩ = some (.int .i64 a7) := block_cell HB5.out 7 _ rfl
  have f8 : w5.cell? ⟨P, 8, none⟩ = some (.int .i64 a8) := block_cell HB5.out 8 _ rfl
  clear h6 h9 h11 h14 hh3 hH
  cases has with
  | false =>
   have r0 := block_cell HR5.out 0 _ rfl
   have r1 := block_cell HR5.out 1 _ rfl
   have r2 := block_cell HR5.out 2 _ rfl
   have r3 := block_cell HR5.out 3 _ rfl
   have z0 := block_frozen HR5.out 0
   have z1 := block_frozen HR5.out 1
   have z2 := block_frozen HR5.out 2
   have z3 := block_frozen HR5.out 3
   have q0 := block_cell HH.out 0 _ rfl
   have q1 := block_cell HH.out 1 _ rfl
   have q2 := block_cell HH.out 2 _ rfl
   have q3 := block_cell HH.out 3 _ rfl
   go_wp2_with fail
   have t1 := heap_setCell_same w5 (P + 1) 0 _ _ (.slice y0 1 k0) HR5.out
   have t2 := heap_setCell_same _ (P + 1) 1 _ _ (.slice y1 (listM2 lm 9999).length k1) t1
   have t3 := heap_setCell_same _ (P + 1) 2 _ _ (.slice y2 1 k2) t2
   have t4 := heap_setCell_same _ (P + 1) 3 _ _ (.slice y3 (listM2 lc 999).length k3) t3
   have hP1 : w.heap.size ≤ P + 1 := by have := HP.out; omega
   have hfz := (((HF5.out.setCell (p := ⟨P + 1, 0, none⟩) (Or.inr hP1) (.slice y0 1 k0)).setCell (p := ⟨P + 1, 1, none⟩) (Or.inr hP1) (.slice y1 (listM2 lm 9999).length k1)).setCell (p := ⟨P + 1, 2, none⟩) (Or.inr hP1) (.slice y2 1 k2)).setCell (p := ⟨P + 1, 3, none⟩) (Or.inr hP1) (.slice y3 (listM2 lc 999).length k3)
   have s0 := block_cell t4 0 _ rfl
   have s1 := block_cell t4 1 _ rfl
   have s2 := block_cell t4 2 _ rfl
   have s3 := block_cell t4 3 _ rfl
   refine bodyPost_ret (v := .agg #[.slice y0 1 k0, .slice y1 (listM2 lm 9999).length k1, .slice y2 1 k2, .slice y3 (listM2 lc 999).length k3]) (by simp [results, Tryz.results114, go_sem, s0, s1, s2, s3]) rfl ⟨⟨⟨y0, k0⟩, ⟨y1, k1⟩, ⟨y2, k2⟩, ⟨y3, k3⟩, _, rfl, rfl, ?_, ?_⟩, hfz⟩
   ·refine ⟨?_, ?_, ?_, ?_, fun k => ?_⟩
    ·exact ((((H6.out.set HR5.out).set t1).set t2).set t3).at
    ·exact ((((H9.out.set HR5.out).set t1).set t2).set t3).at
    ·exact ((((H11.out.set HR5.out).set t1).set t2).set t3).at
    ·exact ((((H14.out.set HR5.out).set t1).set t2).set t3).at
    ·unfold areaM ArM.at
     split
     ·simp
     ·exact listM2_len HMl.out
     ·simp
     ·exact listM2_len HCl.out
   ·rintro x (rfl | rfl | rfl | rfl) g o e
    ·exact ⟨Nat.le_trans HFr.out.size (H6.out.new g o e).1, (SpO.new ((((H6.out.set HR5.out).set t1).set t2).set t3) g o e).2⟩
    ·exact ⟨Nat.le_trans HFr.out.size (H9.out.new g o e).1, (SpO.new ((((H9.out.set HR5.out).set t1).set t2).set t3) g o e).2⟩
    ·exact ⟨Nat.le_trans HFr.out.size (H11.out.new g o e).1, (SpO.new ((((H11.out.set HR5.out).set t1).set t2).set t3) g o e).2⟩
    ·exact ⟨Nat.le_trans HFr.out.size (H14.out.new g o e).1, (SpO.new ((((H14.out.set HR5.out).set t1).set t2).set t3) g o e).2⟩
  | true =>
   have hfa : Fr (fun _ => False) w5 (w5.alloc (.cells #[.int .i64 (a7 : Nat), .int .i64 (a8 : Nat)] 118)) := (Fr.refl _ _).alloc _
   have HA := hid hfa
   have HSA : Hid (SpO w1 (w5.alloc (.cells #[.int .i64 (a7 : Nat), .int .i64 (a8 : Nat)] 118)) (.slice (some ⟨w5.heap.size, 0, none⟩) 1 1) [(a7, a8)]) := SpO.one (a7, a8) hf5.size
   have HH6 := hid (hfa.whole HH.out (by simp))
   have p2 := block_cell HH6.out 2 _ rfl
   have pz := block_frozen HH6.out 2
   clear hfa
   go_upto_region 4 with fail
   generalize w5.alloc (.cells #[.int .i64 (a7 : Nat), .int .i64 (a8 : Nat)] 118) = w6 at *
   obtain ⟨B, hB⟩ : ∃ B, w5.heap.size = B := ⟨_, rfl⟩
   rw [hB] at HSA
   rw [hB]
   clear hB p2 pz f6 f7 f8
   have HR6 := hid (HA.out.whole HR5.out (by simp))
   have e7 := heap_setCell_same w6 b3 2 _ _ (.slice (some ⟨B, 0, none⟩) 1 1) HH6.out
   have hfb : Fr (fun k => k = b3) w6 (w6.setCell ⟨b3, 2, none⟩ (.slice (some ⟨B, 0, none⟩) 1 1)) := (Fr.refl (fun k => k = b3) w6).setCell (p := ⟨b3, 2, none⟩) (Or.inl rfl) _
   have HR7 := hid (hfb.whole HR6.out (fun e => hne e.symm))
   have HF7 : Hid (Fr (fun _ => False) w (w6.setCell ⟨b3, 2, none⟩ (.slice (some ⟨B, 0, none⟩) 1 1))) := (HF5.out.trans HA.out).setCell (p := ⟨b3, 2, none⟩) (Or.inr (by have := HP.out; show _ ≤ b3; omega)) _
   have HS6 := hid ((H6.out.fr HA.out).set (k := 2) (u := .slice (some ⟨B, 0, none⟩) 1 1) HH6.out)
   have HS9 := hid ((H9.out.fr HA.out).set (k := 2) (u := .slice (some ⟨B, 0, none⟩) 1 1) HH6.out)
   have HS14 := hid ((H14.out.fr HA.out).set (k := 2) (u := .slice (some ⟨B, 0, none⟩) 1 1) HH6.out)
   have HS11 := hid (HSA.out.set (k := 2) (u := .slice (some ⟨B, 0, none⟩) 1 1) HH6.out)
   have HH7 := hid e7
   clear e7 hfb
   generalize w6.setCell ⟨b3, 2, none⟩ (.slice (some ⟨B, 0, none⟩) 1 1) = w7 at *
   have r0 := block_cell HR7.out 0 _ rfl
   have r1 := block_cell HR7.out 1 _ rfl
   have r2 := block_cell HR7.out 2 _ rfl
   have r3 := block_cell HR7.out 3 _ rfl
   have z0 := block_frozen HR7.out 0
   have z1 := block_frozen HR7.out 1
   have z2 := block_frozen HR7.out 2
   have z3 := block_frozen HR7.out 3
   have q0 := block_cell HH7.out 0 _ rfl
   have q1 := block_cell HH7.out 1 _ rfl
   have q2 := block_cell HH7.out 2 _ rfl
   have q3 := block_cell HH7.out 3 _ rfl
   go_wp2_with fail
   have t1 := heap_setCell_same w7 (P + 1) 0 _ _ (.slice y0 1 k0) HR7.out
   have t2 := heap_setCell_same _ (P + 1) 1 _ _ (.slice y1 (listM2 lm 9999).length k1) t1
   have t3 := heap_setCell_same _ (P + 1) 2 _ _ (.slice (some ⟨B, 0, none⟩) 1 1) t2
   have t4 := heap_setCell_same _ (P + 1) 3 _ _ (.slice y3 (listM2 lc 999).length k3) t3
   have hP1 : w.heap.size ≤ P + 1 := by have := HP.out; omega
   have hfz := (((HF7.out.setCell (p := ⟨P + 1, 0, none⟩) (Or.inr hP1) (.slice y0 1 k0)).setCell (p := ⟨P + 1, 1, none⟩) (Or.inr hP1) (.slice y1 (listM2 lm 9999).length k1)).setCell (p := ⟨P + 1, 2, none⟩) (Or.inr hP1) (.slice (some ⟨B, 0, none⟩) 1 1)).setCell (p := ⟨P + 1, 3, none⟩) (Or.inr hP1) (.slice y3 (listM2 lc 999).length k3)
   have s0 := block_cell t4 0 _ rfl
   have s1 := block_cell t4 1 _ rfl
   have s2 := block_cell t4 2 _ rfl
   have s3 := block_cell t4 3 _ rfl
   refine bodyPost_ret (v := .agg #[.slice y0 1 k0, .slice y1 (listM2 lm 9999).length k1, .slice (some ⟨B, 0, none⟩) 1 1, .slice y3 (listM2 lc 999).length k3]) (by simp [results, Tryz.results114, go_sem, s0, s1, s2, s3]) rfl ⟨⟨⟨y0, k0⟩, ⟨y1, k1⟩, ⟨some ⟨B, 0, none⟩, 1⟩, ⟨y3, k3⟩, _, rfl, rfl, ?_, ?_⟩, hfz⟩
   ·refine ⟨?_, ?_, ?_, ?_, fun k => ?_⟩
    ·exact ((((HS6.out.set HR7.out).set t1).set t2).set t3).at
    ·exact ((((HS9.out.set HR7.out).set t1).set t2).set t3).at
    ·exact ((((HS11.out.set HR7.out).set t1).set t2).set t3).at
    ·exact ((((HS14.out.set HR7.out).set t1).set t2).set t3).at
    ·unfold areaM ArM.at
     split
     ·simp
     ·exact listM2_len HMl.out
     ·simp
     ·exact listM2_len HCl.out
   ·rintro x (rfl | rfl | rfl | rfl) g o e
    ·exact ⟨Nat.le_trans HFr.out.size (HS6.out.new g o e).1, (SpO.new ((((HS6.out.set HR7.out).set t1).set t2).set t3) g o e).2⟩
    ·exact ⟨Nat.le_trans HFr.out.size (HS9.out.new g o e).1, (SpO.new ((((HS9.out.set HR7.out).set t1).set t2).set t3) g o e).2⟩
    ·exact ⟨Nat.le_trans HFr.out.size (HS11.out.new g o e).1, (SpO.new ((((HS11.out.set HR7.out).set t1).set t2).set t3) g o e).2⟩
    ·exact ⟨Nat.le_trans HFr.out.size (HS14.out.new g o e).1, (SpO.new ((((HS14.out.set HR7.out).set t1).set t2).set t3) g o e).2⟩
end Go.Proofs.YtccikgogjfbpeaaGreatDoor
