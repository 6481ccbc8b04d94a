/- Regions: payments; decides. Regions: decides. -/
import Derived.Test.YtccikgogjfbpeaaGreatUHa
import Derived.Test.YtccikgogjfbpeaaGreatUMh
namespace Go.Proofs.YtccikgogjfbpeaaGreat
open Go.RowKit Go.Shelf

attribute [local go_sem] Oper.semAt_some
theorem three_new {w w' : World} {o1 o2 o3 : Obj} (h : w' = ((w.alloc o1).alloc o2).alloc o3) : w'.heap.size = w.heap.size + 3 ∧ w'.heap[w.heap.size]? = some o1 ∧ w'.heap[w.heap.size + 1]? = some o2 ∧ w'.heap[w.heap.size + 1 + 1]? = some o3 ∧ Fr (fun _ => False) w w' := by
 subst h
 refine ⟨by simp, ?_, ?_, ?_, (((Fr.refl _ _).alloc _).alloc _).alloc _⟩
 ·exact (((Fr.refl (fun _ => False) _).alloc _).alloc _).whole (heap_alloc_new w _) (by simp)
 ·exact ((Fr.refl (fun _ => False) _).alloc _).whole (by have := heap_alloc_new (w.alloc o1) o2; simpa using this) (by simp)
 ·have := heap_alloc_new ((w.alloc o1).alloc o2) o3
  simpa using this
set_option maxRecDepth 30000 in
set_option maxHeartbeats 400000 in
theorem payments_any (A : ArM) (x0 x1 x2 x3 : SlM) (a : Option Addr) (n c : Nat) (w : World) :
  Calls Tryz.prog 44 #[.agg #[spV x0 A.s0, spV x1 A.s1, spV x2 A.s2, spV x3 A.s3], .slice a n c] w fun e w' => ∃ B, e = .returned (.func (.func 92) #[] #[.pointer (some ⟨B, 0, none⟩), .pointer (some ⟨B + 1 + 1, 0, none⟩), .pointer (some ⟨B + 1, 0, none⟩)]) ∧ w.heap.size ≤ B ∧ w'.heap.size = B + 3 ∧ w'.heap[B]? = some (.cells #[.int .i64 ((0 : Nat) : Int)] 3) ∧ w'.heap[B + 1]? = some (.cells #[spV x0 A.s0, spV x1 A.s1, spV x2 A.s2, spV x3 A.s3] 119) ∧ w'.heap[B + 1 + 1]? = some (.cells #[.slice a n c] 85) ∧ Fr (fun _ => False) w w' := by
 have HF : Hid (∀ W, Calls Tryz.prog 67 #[.int .i64 0, .agg #[.slice x0.a A.s0.length x0.c, .slice x1.a A.s1.length x1.c, .slice x2.a A.s2.length x2.c, .slice x3.a A.s3.length x3.c], .slice a n c] W fun e w' => e = .returned (.func (.func 92) #[] #[.pointer (some ⟨W.heap.size, 0, none⟩), .pointer (some ⟨W.heap.size + 1 + 1, 0, none⟩), .pointer (some ⟨W.heap.size + 1, 0, none⟩)]) ∧ w' = ((W.alloc (.cells #[.int .i64 ((0 : Nat) : Int)] 3)).alloc (.cells #[spV x0 A.s0, spV x1 A.s1, spV x2 A.s2, spV x3 A.s3] 119)).alloc (.cells #[.slice a n c] 85)) := fun W => from_any 0 A x0 x1 x2 x3 a n c W
 unfold spV
 go_enter Tryz.func44, Tryz.ntmps44
 go_wp2_with (go_at_call 67; refine (HF.out _).mono ?_)
 rintro e w' ⟨rfl, he⟩
 obtain ⟨t1, t2, t3, t4, t5⟩ := three_new he
 have HX : Hid (w.heap.size ≤ (w.alloc (.cells #[.slice x0.a A.s0.length x0.c, .slice x1.a A.s1.length x1.c, .slice x2.a A.s2.length x2.c, .slice x3.a A.s3.length x3.c] 119)).heap.size ∧ Fr (fun _ => False) w (w.alloc (.cells #[.slice x0.a A.s0.length x0.c, .slice x1.a A.s1.length x1.c, .slice x2.a A.s2.length x2.c, .slice x3.a A.s3.length x3.c] 119))) := ⟨by simp, (Fr.refl _ _).alloc _⟩
 generalize w.alloc (.cells #[.slice x0.a A.s0.length x0.c, .slice x1.a A.s1.length x1.c, .slice x2.a A.s2.length x2.c, .slice x3.a A.s3.length x3.c] 119) = w1 at *
 obtain ⟨B, hB⟩ : ∃ B, w1.heap.size = B := ⟨_, rfl⟩
 rw [hB] at t1 t2 t3 t4 HX
 rw [hB]
 have H1 := hid t1
 have H2 := hid t2
 have H3 := hid t3
 have H4 := hid t4
 have H5 := hid t5
 clear HF he t1 t2 t3 t4 t5 hB
 go_wp2_with fail
 go_ret
 exact ⟨B, rfl, HX.out.1, H1.out, H2.out, H3.out, H4.out, HX.out.2.trans H5.out⟩
/-- A rule meets a payment that none of the areas has. -/
def decB (A : ArM) (es : List ArE) : Bool := (fromM A 4 es).any fun y => y.2 == 0
theorem decB_iff {A : ArM} (hA : ∀ side s, s ∈ A.at side → s.1 ≤ s.2) (es : List ArE) : decB A es = true ↔ ∃ p, allB A 4 p = true ∧ ∀ e, e ∈ es → allB e.A 4 p = false := by
 rw [← from_none hA]
 unfold decB
 simp
end Go.Proofs.YtccikgogjfbpeaaGreat

namespace Go.Proofs.YtccikgogjfbpeaaGreat
open Go.RowKit Go.Shelf

attribute [local go_sem] Oper.semAt_some
theorem area_ne (dg lo hi : Nat) (lm : List Nat) (has : Bool) (a7 a8 : Nat) (lc : List Nat) (i : Nat) : (areaM dg lo hi lm has a7 a8 lc).at i ≠ [] := by
 have h : ∀ (l : List Nat) (m : Nat), listM2 l m ≠ [] := fun l m => by
  unfold listM2
  split
  ·simp
  ·rename_i h; simpa using h
 unfold areaM ArM.at
 split
 ·simp
 ·exact h _ _
 ·simp
 ·exact h _ _
set_option maxRecDepth 100000 in
set_option maxHeartbeats 8000000 in
theorem decides_any (w : World) (nm : ByteArray) (rk dg lo hi : Nat) (ma : Option Addr) (mc : Nat) (lm : List Nat) (has : Bool) (a7 a8 : Nat) (ca : Option Addr) (cc : Nat) (lc : List Nat) (dc ch : Bool) (pa : Option Addr) (pn pc : Nat) (ah : Nat) (a : Option Addr) (c : Nat) (es : List ArE) (hd : dg ≤ 6) (hlo : lo ≤ hi) (hhi : hi < 1000000) (hm : IntsAt w ma lm) (hml : lm.length ≤ 10) (hc : IntsAt w ca lc) (hcl : lc.length ≤ 10)
  (he : ArsAt w a es) (hl : es.length ≤ 10) (hb : ∀ e, e ∈ es → ∀ i s, i < 4 → s ∈ e.A.at i → s.1 ≤ 10000000000 ∧ s.2 ≤ 10000000000) :
  Calls Tryz.prog 33 #[rlV nm rk dg lo hi ma lm.length mc has a7 a8 ca lc.length cc dc ch pa pn pc ah, .slice a es.length c] w fun e w' => e = .returned (.bool (decB (areaM dg lo hi lm has a7 a8 lc) es)) ∧ Fr (fun _ => False) w w' := by
 obtain ⟨w0, hw0⟩ : ∃ w0, (w.alloc (rlO nm rk dg lo hi ma lm.length mc has a7 a8 ca lc.length cc dc ch pa pn pc ah)).alloc (.cells #[.bool false] 4) = w0 := ⟨_, rfl⟩
 obtain ⟨P, hP⟩ : ∃ P, w.heap.size = P := ⟨_, rfl⟩
 have HF0 : Hid (Fr (fun _ => False) w w0) := by show Fr _ _ _; rw [← hw0]; exact ((Fr.refl _ _).alloc _).alloc _
 have hs0 : w0.heap.size = P + 2 := by rw [← hw0, ← hP]; simp
 have HB0 : Hid (w0.heap[P]? = some (rlO nm rk dg lo hi ma lm.length mc has a7 a8 ca lc.length cc dc ch pa pn pc ah)) := by
  show _ = _
  rw [← hw0, ← hP]
  exact ((Fr.refl (fun _ => False) _).alloc _).whole (heap_alloc_new w _) (by simp)
 have HB1 : Hid (w0.heap[P + 1]? = some (.cells #[.bool false] 4)) := by
  show _ = _
  rw [← hw0, ← hP]
  have := heap_alloc_new (w.alloc (rlO nm rk dg lo hi ma lm.length mc has a7 a8 ca lc.length cc dc ch pa pn pc ah)) (.cells #[.bool false] 4)
  simpa using this
 have HAr := hid (areaOf_any w0 nm rk dg lo hi ma mc lm has a7 a8 ca cc lc dc ch pa pn pc ah hd hlo hhi (hm.fr HF0.out (by simp)) hml (hc.fr HF0.out (by simp)) hcl)
 have HNe := hid (area_ne dg lo hi lm has a7 a8 lc)
 have HE := hid he
 have HL := hid hl
 have HBd := hid hb
 generalize areaM dg lo hi lm has a7 a8 lc = A at *
 obtain ⟨n1, hn1⟩ : ∃ n, lm.length = n := ⟨_, rfl⟩
 obtain ⟨n2, hn2⟩ : ∃ n, lc.length = n := ⟨_, rfl⟩
 obtain ⟨n3, hn3⟩ : ∃ n, es.length = n := ⟨_, rfl⟩
 have HN3 := hid hn3
 rw [hn1, hn2] at HB0 HAr hw0
 rw [hn1, hn2, hn3]
 unfold rlO at HB0 hw0
 unfold rlV at HAr ⊢
 obtain ⟨c0, c1, c2, c3, c4, c5, c6, c7, c8, c9, c10, c11, c12, c13⟩ := cells14 HB0.out
 clear hn1 hn2 hn3 hd hlo hhi hm hml hc hcl he hl hb
 have hP1 := hid hP
 refine (callsIn_wide (n := 5)).1 ?_
 refine callsIn_of_wp_marks Tryz.func33 rfl trivial ?_ rfl
 simp only [Tryz.ntmps33, List.size_toArray, List.length_cons, List.length_nil, Nat.reduceAdd, Nat.reduceSub, Array.replicate_succ, Array.replicate_zero, List.push_toArray, List.append_toArray, List.nil_append, List.cons_append]
 refine (wpIn_wide (n := 5)).2 (wp_ok ?_)
 go_upto_region 1 with fail
 clear hw0 hP
 go_wp2_with (go_at_call 45; refine HAr.out.mono ?_)
 rintro e w1 ⟨⟨x0, x1, x2, x3, A', rfl, rfl, hav, hnw⟩, hf1⟩
 have HPm := hid (payments_any A' x0 x1 x2 x3 a n3 c w1)
 have HAv := hid hav
 have HNw := hid hnw
 have HF1 := hid hf1
 unfold spV at HPm ⊢
 clear hav hnw hf1 HAr c0 c1 c2 c3 c4 c5 c6 c7 c8 c9 c10 c11 c12 c13
 go_wp2_with (go_at_call 44; refine HPm.out.mono ?_)
 rintro e w2 ⟨B, rfl, hB, hsz, b0, b1, b2, hf2⟩
 have HB := hid hB
 have HSz := hid hsz
 have H0 := hid b0
 have H1 := hid b1
 have H2 := hid b2
 have HF2 := hid hf2
 clear hB hsz b0 b1 b2 hf2 HPm
 go_wp2_with fail
 generalize Value.agg #[.string nm, .int .i64 rk, .int .i64 dg, .int .i64 lo, .int .i64 hi, .slice ma n1 mc, .bool has, .int .i64 a7, .int .i64 a8, .slice ca n2 cc, .bool dc, .bool ch, .slice pa pn pc, .int .i64 ah] = RV
 generalize Value.agg #[.slice x0.a A'.s0.length x0.c, .slice x1.a A'.s1.length x1.c, .slice x2.a A'.s2.length x2.c, .slice x3.a A'.s3.length x3.c] = AV
 have e1 : w.heap.size = P := hP1.out
 have e2 := HF1.out.size
 have e3 := HF2.out.size
 have e4 := HB.out
 have e5 : w2.heap.size = B + 3 := HSz.out
 have o2 : w2.heap[P + 1]? = some (.cells #[.bool false] 4) := (HF1.out.trans HF2.out).whole HB1.out (by simp)
 have hseq : SeqO Tryz.prog 92 #[.pointer (some ⟨B, 0, none⟩), .pointer (some ⟨B + 1 + 1, 0, none⟩), .pointer (some ⟨B + 1, 0, none⟩)] paE (andRd (fun k => k = P + 1) w2.heap.size) (fromM A' 4 es) w2 := by
  have nR : ∀ i, i ≠ P + 1 → i < B + 3 → ¬ andRd (fun k => k = P + 1) w2.heap.size i := by
   rintro i h1 h2 (h | h | h) <;> omega
  refine fromD_seq A' x0 x1 x2 x3 (fun i _ => HNe.out i) 4 (Nat.le_refl _) B (B + 1 + 1) (B + 1) c _ a es w2 HL.out HBd.out (fun W hf => ?_)
  have ba := hf.whole H1.out (nR _ (by omega) (by omega))
  refine ⟨block_cell (hf.whole H0.out (nR _ (by omega) (by omega))) 0 _ rfl, ?_, block_cell ba 0 _ rfl, block_cell ba 1 _ rfl, block_cell ba 2 _ rfl, block_cell ba 3 _ rfl, ?_, ?_⟩
  ·rw [HN3.out]; exact block_cell (hf.whole H2.out (nR _ (by omega) (by omega))) 0 _ rfl
  ·refine (HAv.out.fr HF2.out).frS hf (fun x hx g o e hlt => ?_)
   have h1 := (HNw.out x hx g o e).1
   rintro (h | h | h)
   ·omega
   ·omega
   ·omega
  ·refine HE.out.old ((((HF0.out.trans HF1.out).trans HF2.out).mono (fun _ h => h.elim)).trans (hf.mono ?_))
   rintro k (h | h | h) <;> (show _ ≤ k; omega)
 obtain ⟨xs, hxs⟩ : ∃ xs, fromM A' 4 es = xs := ⟨_, rfl⟩
 rw [hxs] at hseq
 have HXs : Hid (decB A' es = xs.any fun y => y.2 == 0) := by show _ = _; rw [← hxs]; rfl
 have HPB : Hid (P + 1 < w2.heap.size) := by show _ < _; omega
 have HFw : Hid (Fr (fun _ => False) w w2) := (HF0.out.trans HF1.out).trans HF2.out
 have HPw : Hid (w.heap.size ≤ P + 1) := by show _ ≤ _; omega
 clear hxs e1 e2 e3 e4 e5 HN3 H0 H1 H2 HAv HNw HE HL HBd HNe HB HSz HF0 HF1 HF2 HB0 HB1 hs0
 refine (wpIn_wide (n := 2)).1 ?_
 refine range_own (n := 0) (S := fun k => k = P + 1) rfl (enters_of Tryz.func92 (by kernel_rfl) rfl) hseq (Fr.refl _ _) (fun _ => rfl) (by rintro k rfl; exact HPB.out)
  (fun pre W => (∀ y, y ∈ pre → y.2 ≠ 0) ∧ (W.heap[P + 1]? = some (.cells #[.bool false] 4) ∧ Fr (fun k => k = P + 1) w2 W)) (fun co pre W => (co = .ret ∧ ∃ y, y ∈ pre ∧ y.2 = 0) ∧ (W.heap[P + 1]? = some (.cells #[.bool true] 4) ∧ Fr (fun k => k = P + 1) w2 W))
  (OwnB.and (OwnB.pure (fun (pre : List (PaM × Nat)) => ∀ y, y ∈ pre → y.2 ≠ 0)) (OwnB.and (OwnB.block HPB.out) (OwnB.fr (Nat.le_refl _)))) (fun co => OwnB.and (OwnB.pure (fun (pre : List (PaM × Nat)) => co = .ret ∧ ∃ y, y ∈ pre ∧ y.2 = 0)) (OwnB.and (OwnB.block HPB.out) (OwnB.fr (Nat.le_refl _)))) ⟨by simp, o2, Fr.refl _ _⟩
  (fun x _ a' _ => a' = { tmps := #[RV, .slice a n3 c, .pointer (some ⟨P, 0, none⟩), undef, .pointer (some ⟨P + 1, 0, none⟩), undef, .int .i64 (x.2 : Nat), RV, AV, .slice a n3 c, .func (.func 92) #[] #[.pointer (some ⟨B, 0, none⟩), .pointer (some ⟨B + 1 + 1, 0, none⟩), .pointer (some ⟨B + 1, 0, none⟩)], paV x.1, .int .i64 (x.2 : Nat), undef, undef], defers := [] })
  (fun x m a' s W W' row hs hg hr => hs) ?assign ?body ?done ?stop
 case assign =>
  rintro pre x W K hp hi hK
  unfold paE
  gi_wp2
  exact hK _ _ (Fr.refl _ _) hi rfl
 case body =>
  rintro pre x m a' W hp hm ⟨hi, ho, hf⟩ rfl
  have HI := hid hi
  have HF := hid hf
  have HO := hid ho
  have z0 := block_cell ho 0 _ rfl
  have z1 := block_frozen ho 0
  clear hi hf ho o2 hseq
  by_cases hx : x.2 = 0
  ·have hz : ((x.2 : Int) == 0) = true := by simp [hx]
   have HX := hid hx
   clear hx
   gi_wp2
   refine ⟨(Fr.refl _ _).setCell (p := ⟨P + 1, 0, none⟩) (.inl (.inl rfl)) _, ⟨rfl, x, by simp, HX.out⟩, heap_setCell_same W (P + 1) 0 _ _ _ HO.out, HF.out.setCell (p := ⟨P + 1, 0, none⟩) (.inl rfl) _⟩
  ·have hz : ((x.2 : Int) == 0) = false := by simp; omega
   have HX := hid hx
   clear hx
   gi_wp2
   refine ⟨Fr.refl _ _, fun y hy => ?_, HO.out, HF.out⟩
   rcases List.mem_append.1 hy with hy | hy
   ·exact HI.out y hy
   ·rw [List.mem_singleton.1 hy]; exact HX.out
 case done =>
  rintro W ⟨hi, ho, hf⟩ hD
  have HI := hid hi
  have HF := hid hf
  have HO := hid ho
  have HD := hid hD
  have z0 := block_cell ho 0 _ rfl
  have z1 := block_frozen ho 0
  clear hi hf ho hD o2 hseq
  go_wp2_with fail
  have f1 : Fr (fun k => k = P + 1) w2 (W.setCell ⟨P + 1, 0, none⟩ (.bool false)) := HF.out.setCell (p := ⟨P + 1, 0, none⟩) (.inl rfl) _
  have o1 := heap_setCell_same W (P + 1) 0 _ _ (.bool false) HO.out
  have hne : P + 1 ≠ w2.heap.size := by have := HPB.out; omega
  have d1 : (W.setCell ⟨P + 1, 0, none⟩ (.bool false)).heap[w2.heap.size]? = some (.deferred (some [])) := ((Fr.refl (fun k => k = P + 1) W).setCell (p := ⟨P + 1, 0, none⟩) (.inl rfl) _).whole HD.out (fun e => hne e.symm)
  refine leaves_marks [w2.heap.size] _ (by simp) (fun D h => by rw [List.mem_singleton.1 h]; exact d1) ?_
  have o3 : ((W.setCell ⟨P + 1, 0, none⟩ (.bool false)).putObj w2.heap.size (.deferred none)).heap[P + 1]? = some (.cells #[.bool false] 4) := (World.putObj_heap_other (by omega)).trans o1
  refine ⟨.bool false, ?_, ?_, ?_⟩
  ·have c3 := block_cell o3 0 _ rfl
   show (results _ _).run _ ((W.setCell ⟨P + 1, 0, none⟩ (.bool false)).putObj w2.heap.size (.deferred none)) = _
   simp [results, Tryz.results33, go_sem, c3]
   rfl
  ·rw [HXs.out]
   congr 2
   symm
   rw [List.any_eq_false]
   intro y hy
   have := HI.out y hy
   simp [this]
  ·exact HFw.out.monoNew (f1.mono (T := fun k => k = P + 1 ∨ k = w2.heap.size) (fun _ h => .inl h) |>.trans (fr_put (.inr rfl) _)) (fun k h => .inr (by have := HPw.out; have := HFw.out.size; omega))
 case stop =>
  rintro co pre W hp ⟨⟨rfl, y, hy, hy0⟩, ho, hf⟩ hD
  have HF := hid hf
  have HO := hid ho
  have HD := hid hD
  have HP := hid hp
  have HY := hid (show y ∈ pre ∧ y.2 = 0 from ⟨hy, hy0⟩)
  clear hf ho hD o2 hseq hy hy0 hp
  gi_wp2
  have hne : P + 1 ≠ w2.heap.size := by have := HPB.out; omega
  refine leaves_marks [w2.heap.size] _ (by simp) (fun D h => by rw [List.mem_singleton.1 h]; exact HD.out) ?_
  have o3 : (W.putObj w2.heap.size (.deferred none)).heap[P + 1]? = some (.cells #[.bool true] 4) := (World.putObj_heap_other (by omega)).trans HO.out
  refine ⟨.bool true, ?_, ?_, ?_⟩
  ·have c3 := block_cell o3 0 _ rfl
   show (results _ _).run _ (W.putObj w2.heap.size (.deferred none)) = _
   simp [results, Tryz.results33, go_sem, c3]
   rfl
  ·rw [HXs.out]
   congr 2
   symm
   rw [List.any_eq_true]
   exact ⟨y, HP.out.subset HY.out.1, by simp [HY.out.2]⟩
  ·exact HFw.out.monoNew (HF.out.mono (T := fun k => k = P + 1 ∨ k = w2.heap.size) (fun _ h => .inl h) |>.trans (fr_put (.inr rfl) _)) (fun k h => .inr (by have := HPw.out; have := HFw.out.size; omega))
end Go.Proofs.YtccikgogjfbpeaaGreat
