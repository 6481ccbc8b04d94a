/- A rule is added to the book. -/
import Derived.Test.YtccikgogjfbpeabGreatDoorWHa
import Derived.Test.YtccikgogjfbpeabGreatDoorWQi
namespace Go.Proofs.YtccikgogjfbpeabGreatDoor
open Go.RowKit
def addRuleM (rts : List RouteM) (rls : List RuleM) (r : RuleE) : Except (Nat × Nat) RuleM :=
 if rls.length = 8 then .error (6, r.name.line)
 else if hasName r.name.text rls = true then .error (4, r.name.line)
 else if 1000 < valOf r.rank then .error (5, r.rank.line)
 else if 6 < r.bin.1.text.size then .error (5, r.bin.1.line)
 else if r.bin.2.text.size ≠ r.bin.1.text.size then .error (5, r.bin.2.line)
 else if ¬ valOf r.bin.1 <= valOf r.bin.2 then .error (5, r.bin.2.line)
 else match numsFrom 9999 0 r.mcc with
 | .error f => .error f
 | .ok mccs => if r.amount.any (fun ab => decide (¬ valOf ab.1 <= valOf ab.2)) = true then .error (5, (r.amount.map (fun ab => ab.2.line)).getD 0)
  else match numsFrom 999 0 r.cur with
  | .error f => .error f
  | .ok curs => match plsFrom rts 0 r.act.routes with
   | .error f => .error f
   | .ok ps => .ok ⟨r.name.text, valOf r.rank, r.bin.1.text.size, valOf r.bin.1, valOf r.bin.2, mccs, r.amount.map (fun ab => (valOf ab.1, valOf ab.2)), curs, r.act.decline, r.act.cheapest, ps, rts.length⟩
theorem Tryz.infoRule : (Tryz.prog.info? 108).map (fun i => (i.zero, i.size, i.bytes)) = some (some (.agg #[.string ByteArray.empty, .int .i64 0, .int .i64 0, .int .i64 0, .int .i64 0, .slice none 0 0, .bool false, .int .i64 0, .int .i64 0, .slice none 0 0, .bool false, .bool false, .slice none 0 0, .int .i64 0]), 14, 160) := by kernel_rfl
def ALPost (x : Except (Nat × Nat) RuleM) (w : World) (B : Nat) (vr : Value) (rts : List RouteM) (rls : List RuleM) (xs : List Value) (e : Ending) (w' : World) : Prop :=
 match x with
 | .ok r => e = .returned (.tuple #[]) /\ (∃ vl c, Bk w' B vr vl rts (rls ++ [r]) (xs ++ c)) /\ Below B w w'
 | .error f => e = faultE f.1 f.2 /\ Below B w w'
theorem ALPost.ok {x : Except (Nat × Nat) RuleM} {w w' : World} {B : Nat} {vr : Value} {rts : List RouteM} {rls : List RuleM} {xs : List Value} {e : Ending} {r : RuleM} (h : x = .ok r) : ALPost x w B vr rts rls xs e w' ↔ e = .returned (.tuple #[]) /\ (∃ vl c, Bk w' B vr vl rts (rls ++ [r]) (xs ++ c)) /\ Below B w w' := by subst h; exact Iff.rfl
theorem ALPost.err {x : Except (Nat × Nat) RuleM} {w w' : World} {B : Nat} {vr : Value} {rts : List RouteM} {rls : List RuleM} {xs : List Value} {e : Ending} {f : Nat × Nat} (h : x = .error f) : ALPost x w B vr rts rls xs e w' ↔ e = faultE f.1 f.2 /\ Below B w w' := by subst h; exact Iff.rfl
theorem bk_appendL {w W2 w1 : World} {B : Nat} {vr vl V : Value} {rts : List RouteM} {rls : List RuleM} {xs : List Value} {rl : RuleM} {c : List Value} (h : Bk w B vr vl rts rls xs) (hru : RuV (B + 1) w rl c) (h2 : Below w.heap.size w W2) (hg : W2.grownBy w1 vl.ownBlock) (ho : w1.ownsRow (B + 1) 108 14 V (rls.length + 1) (xs ++ c)) :
  w1.cell? ⟨B, 1, none⟩ = some vl /\ (∀ o, w1.frozen? ⟨B, o, none⟩ = false) /\ (rls.length <= 7 -> Bk (w1.setCell ⟨B, 1, none⟩ V) B vr V rts (rls ++ [rl]) (xs ++ c) /\ Below B w (w1.setCell ⟨B, 1, none⟩ V)) := by
 have hl : B < w.heap.size := World.block_lt_of_cell? w _ h.c0
 have hne : ∀ j, j <= B -> some j ≠ vl.ownBlock := fun j hj e => by have := h.lo.lt j e.symm; omega
 have hc : ∀ o, w1.cell? ⟨B, o, none⟩ = w.cell? ⟨B, o, none⟩ := fun o => (hg.cell_far ⟨B, o, none⟩ (Nat.lt_of_lt_of_le hl h2.size) (hne B (Nat.le_refl _))).trans (h2.cell (p := ⟨B, o, none⟩) hl)
 have hf : ∀ o, w1.frozen? ⟨B, o, none⟩ = w.frozen? ⟨B, o, none⟩ := fun o => (hg.frozen_far ⟨B, o, none⟩ (Nat.lt_of_lt_of_le hl h2.size) (hne B (Nat.le_refl _))).trans (h2.frozen (p := ⟨B, o, none⟩) hl)
 have hlo : W2.ownsRow (B + 1) 108 14 vl rls.length xs := ownsRow_fr h.lo (Fr.of_below (S := fun _ => False) h2) (by simp)
 have hB : Below B w w1 := (h2.mono (by omega)).trans ⟨hg.os, hg.tape, hg.output, hg.size, fun k hk => hg.block k (Nat.lt_of_lt_of_le (by omega) h2.size) (hne k (by omega))⟩
 have hk : ∀ v n ys, w.ownsRow (B + 1) 3 1 v n ys -> (w1.setCell ⟨B, 1, none⟩ V).ownsRow (B + 1) 3 1 v n ys := fun v n ys hv => by
  have h3 : W2.ownsRow (B + 1) 3 1 v n ys := ownsRow_fr hv (Fr.of_below (S := fun _ => False) h2) (by simp)
  exact ownsRow_setCell_below (h3.kept hg (own_ne h3 hlo (by decide))) (by simp) _
 refine ⟨(hc 1).trans h.c1, fun o => (hf o).trans (h.fz o), fun h5 => ⟨⟨?_, ?_, fun o => by simp [hf o, h.fz o], ?_, ?_, RuVs.snoc (hru.keep hk) (RuVs.keep hk h.ru), h.r6, by simp; omega⟩, hB.setCell (by simp) _⟩⟩
 ·rw [World.cell?_setCell_other _ _ _ _ (by simp)]; exact (hc 0).trans h.c0
 ·exact World.cell?_setCell_same _ _ _ ((hc 1).trans h.c1)
 ·have h3 : W2.ownsRow (B + 1) 144 3 vr rts.length (rtRow rts) := ownsRow_fr h.ro (Fr.of_below (S := fun _ => False) h2) (by simp)
  exact ownsRow_setCell_below (h3.kept hg (own_ne h3 hlo (by decide))) (by simp) _
 ·rw [List.length_append]; exact ownsRow_setCell_below ho (by simp) _
structure AdSt (w wc : World) (N : Nat) (es cs : Array Value) : Prop where
 fr : F0 w wc
 he : wc.heap[w.heap.size]? = some (.cells es 238)
 hn : wc.heap[N]? = some (.cells cs 108)
 nl : w.heap.size < N
section
variable {w wc wd : World} {N : Nat} {es cs : Array Value}
theorem AdSt.step (h : AdSt w wc N es cs) (hf : F0 wc wd) : AdSt w wd N es cs := ⟨h.fr.trans hf, hf.whole h.he (by simp), hf.whole h.hn (by simp), h.nl⟩
theorem AdSt.write (h : AdSt w wc N es cs) (j : Nat) (u : Value) : AdSt w (wc.setCell ⟨N, j, none⟩ u) N es (cs.setIfInBounds j u) :=
 have hf : Fr (fun k => k = N) wc (wc.setCell ⟨N, j, none⟩ u) := (Fr.refl (fun k => k = N) _).setCell (p := ⟨N, j, none⟩) (Or.inl rfl) _
 have hl := h.nl
 ⟨h.fr.monoNew hf (fun k hk => Or.inr (by omega)), hf.whole h.he (by omega), heap_set h.hn j u, h.nl⟩
theorem AdSt.lt (h : AdSt w wc N es cs) : N < wc.heap.size := (Array.getElem?_eq_some_iff.1 h.hn).1
end
theorem ownsRow_wr {w : World} {N : Nat} {e : TypeId} {size : Nat} {v : Value} {n : Nat} {xs : List Value} (h : w.ownsRow (N + 1) e size v n xs) (j : Nat) (u : Value) : (w.setCell ⟨N, j, none⟩ u).ownsRow (N + 1) e size v n xs := ownsRow_setCell_below h (by simp) u
set_option maxRecDepth 30000 in
set_option maxHeartbeats 2000000 in
theorem addRule_none (w : World) (B b0 : Nat) (vr vl : Value) (rts : List RouteM) (rls : List RuleM) (xs : List Value) (r : RuleE) (vm vc vp : Value) (h : Bk w B vr vl rts rls xs)
  (hn : r.name.text.size <= 3000) (dr : Dg r.rank.text) (d1 : Dg r.bin.1.text) (d2 : Dg r.bin.2.text) (dm : ∀ t, t ∈ r.mcc -> Dg t.text) (dc : ∀ t, t ∈ r.cur -> Dg t.text) 
  (ham : r.amount = none) (hm : w.ownsRow b0 207 3 vm r.mcc.length (tkRow r.mcc)) (hc : w.ownsRow b0 207 3 vc r.cur.length (tkRow r.cur)) (hp : w.ownsRow b0 207 3 vp r.act.routes.length (tkRow r.act.routes))
  (fm : r.mcc.length <= 4000) (fc : r.cur.length <= 4000) (fp : r.act.routes.length <= 4000) :
  Calls Tryz.prog 267 #[ruleV r vm vc vp, .pointer (some ⟨B, 0, none⟩)] w (ALPost (addRuleM rts rls r) w B vr rts rls xs) := by
 obtain ⟨m1, m2, m3, rfl⟩ := ownsRow_slice hm
 obtain ⟨c1, c2, c3, rfl⟩ := ownsRow_slice hc
 obtain ⟨p1, p2, p3, rfl⟩ := ownsRow_slice hp
 obtain ⟨la, lc, rfl⟩ := ownsRow_len h.lo
 obtain ⟨ra, rc, rfl⟩ := ownsRow_len h.ro
 obtain ⟨ii, hi0, hz0, hz1, hz2⟩ := info_parts Tryz.infoRule
 have HK := hid h
 have hBl : B < w.heap.size := World.block_lt_of_cell? w _ h.c0
 have HV : ruleV r (.slice m1 m2 m3) (.slice c1 c2 c3) (.slice p1 p2 p3) = .agg #[.int .i64 r.name.sort, .string r.name.text, .int .i64 r.name.line, .int .i64 r.rank.sort, .string r.rank.text, .int .i64 r.rank.line, .int .i64 r.bin.1.sort, .string r.bin.1.text, .int .i64 r.bin.1.line, .int .i64 r.bin.2.sort, .string r.bin.2.text, .int .i64 r.bin.2.line, .slice m1 m2 m3, .slice c1 c2 c3, .bool false, .int .i64 0, .string ⟨#[]⟩, .int .i64 0, .int .i64 0, .string ⟨#[]⟩, .int .i64 0, .bool r.act.decline, .bool r.act.cheapest, .slice p1 p2 p3] := by unfold ruleV; rw [ham]; rfl
 have HNS := hid hn
 have HDR := hid dr
 have HD1 := hid d1
 have HD2 := hid d2
 have HDM := hid dm
 have HDC := hid dc
 have HMR := hid hm
 have HCR := hid hc
 have HPR := hid hp
 have HFM : Hid (r.mcc.length <= 4000 /\ r.cur.length <= 4000 /\ r.act.routes.length <= 4000) := ⟨fm, fc, fp⟩
 have HAM := hid ham
 have c1' := h.c1
 have HAL : Hid (F0 w (w.alloc (.cells #[.int .i64 r.name.sort, .string r.name.text, .int .i64 r.name.line, .int .i64 r.rank.sort, .string r.rank.text, .int .i64 r.rank.line, .int .i64 r.bin.1.sort, .string r.bin.1.text, .int .i64 r.bin.1.line, .int .i64 r.bin.2.sort, .string r.bin.2.text, .int .i64 r.bin.2.line, .slice m1 m2 m3, .slice c1 c2 c3, .bool false, .int .i64 0, .string ⟨#[]⟩, .int .i64 0, .int .i64 0, .string ⟨#[]⟩, .int .i64 0, .bool r.act.decline, .bool r.act.cheapest, .slice p1 p2 p3] 238))) := (Fr.refl _ _).alloc _
 rw [HV]
 clear HV h hn dr d1 d2 dm dc ham hm hc hp fm fc fp
 by_cases h8 : rls.length = 8
 ·have hq : ((rls.length : Int) == 8) = true := by simp; omega
  have H8 : Hid (addRuleM rts rls r = .error (6, r.name.line)) := by show _ = _; unfold addRuleM; rw [if_pos h8]
  clear h8
  go_enter Tryz.func267, Tryz.ntmps267
  go_wp2_with fail
  refine (giveUp_any r.name 6 _ _ (by rfl)).mono ?_
  rintro e w9 ⟨he, hf⟩
  unfold faultE at he
  subst he
  exact ⟨rfl, (ALPost.err H8.o).2 ⟨rfl, (HAL.o.trans hf).below (by omega) (by simp)⟩⟩
 have hq : ((rls.length : Int) == 8) = false := by simp; omega
 have H8 := hid h8
 clear h8
 go_enter Tryz.func267, Tryz.ntmps267
 go_wp2_with fail
 refine (hasRule_any _ B _ _ rts rls xs r.name.text (HK.o.fr HAL.o (by simp))).mono ?_
 rintro e w1 ⟨rfl, hf⟩
 have HE1 := hid (hf.whole (heap_alloc_new w _) (by simp))
 have HF1 := hid (HAL.o.trans hf)
 have hEl : w.heap.size < w1.heap.size := (Array.getElem?_eq_some_iff.1 HE1.o).1
 clear hf c1'
 cases hh : hasName r.name.text rls with
 | true =>
  have HQ : Hid (addRuleM rts rls r = .error (4, r.name.line)) := by show _ = _; unfold addRuleM; rw [if_neg H8.o, if_pos hh]
  have e0 := block_cell HE1.o 0 _ rfl
  have e1 := block_cell HE1.o 1 _ rfl
  have e2 := block_cell HE1.o 2 _ rfl
  clear hh
  go_wp2_with fail
  refine (giveUp_any r.name 4 _ _ (by rfl)).mono ?_
  rintro e w9 ⟨he, hf⟩
  unfold faultE at he
  subst he
  exact ⟨rfl, (ALPost.err HQ.o).2 ⟨rfl, (HF1.o.trans hf).below (by omega) (by simp)⟩⟩
 | false =>
  have HH : Hid (¬ hasName r.name.text rls = true) := by show ¬ _; rw [hh]; simp
  have e1 := block_cell HE1.o 1 _ rfl
  clear hh
  have hx1 : ¬ w.heap.size = w1.heap.size := by omega
  have hx2 : ¬ w1.heap.size = w.heap.size := by omega
  go_wp2_with fail
  refine (Clone_any r.name.text _ HNS.o).mono ?_
  rintro e w2 ⟨rfl, hf⟩
  have S2 : Hid (AdSt w w2 w1.heap.size _ #[.string ⟨#[]⟩, .int .i64 0, .int .i64 0, .int .i64 0, .int .i64 0, .slice none 0 0, .bool false, .int .i64 0, .int .i64 0, .slice none 0 0, .bool false, .bool false, .slice none 0 0, .int .i64 0]) := ⟨(HF1.o.alloc _).trans hf, hf.whole (((Fr.refl (fun _ => False) _).alloc _).whole HE1.o (by simp)) (by simp), hf.whole (heap_alloc_new w1 _) (by simp), hEl⟩
  clear hf e1 HE1
  have n0 := block_cell S2.o.hn 0 _ rfl
  have nf := block_frozen S2.o.hn
  have e3 := block_cell S2.o.he 3 _ rfl
  have e4 := block_cell S2.o.he 4 _ rfl
  have e5 := block_cell S2.o.he 5 _ rfl
  go_wp2_with fail
  clear n0 nf e3 e4 e5
  have S3 : Hid (AdSt w _ w1.heap.size _ #[.string r.name.text, .int .i64 0, .int .i64 0, .int .i64 0, .int .i64 0, .slice none 0 0, .bool false, .int .i64 0, .int .i64 0, .slice none 0 0, .bool false, .bool false, .slice none 0 0, .int .i64 0]) := (S2.o.write 0 (.string r.name.text))
  clear S2
  generalize (w2.setCell ⟨w1.heap.size, 0, none⟩ (.string r.name.text)) = w3 at *
  by_cases hb1 : 1000 < valOf r.rank
  ·
   have HQ : Hid (addRuleM rts rls r = .error (5, r.rank.line)) := by show _ = _; unfold addRuleM; rw [if_neg H8.o, if_neg HH.o, if_pos hb1]
   refine (upTo_bad r.rank _ 1000 _ HDR.o hb1 (by rfl)).mono ?_
   rintro e w9 ⟨he, hf⟩
   unfold faultE at he
   subst he
   exact ⟨rfl, (ALPost.err HQ.o).2 ⟨rfl, (S3.o.fr.trans hf).below (by omega) (by simp)⟩⟩
  have HB1 := hid hb1
  refine (upTo_ok r.rank _ 1000 _ HDR.o (by omega) (by rfl)).mono ?_
  rintro e w4 ⟨rfl, hf⟩
  have S4 := hid (S3.o.step hf)
  clear hf hb1 S3
  generalize hrk : valOf r.rank = rk at *
  have HRK := hid hrk
  clear hrk
  have n1 := block_cell S4.o.hn 1 _ rfl
  have nf := block_frozen S4.o.hn
  have e6 := block_cell S4.o.he 6 _ rfl
  have e7 := block_cell S4.o.he 7 _ rfl
  have e8 := block_cell S4.o.he 8 _ rfl
  have e9 := block_cell S4.o.he 9 _ rfl
  have e10 := block_cell S4.o.he 10 _ rfl
  have e11 := block_cell S4.o.he 11 _ rfl
  go_wp2_with fail
  clear n1 nf e6 e7 e8 e9 e10 e11
  have S5 : Hid (AdSt w _ w1.heap.size _ #[.string r.name.text, .int .i64 rk, .int .i64 0, .int .i64 0, .int .i64 0, .slice none 0 0, .bool false, .int .i64 0, .int .i64 0, .slice none 0 0, .bool false, .bool false, .slice none 0 0, .int .i64 0]) := (S4.o.write 1 (.int .i64 rk))
  clear S4
  generalize (w4.setCell ⟨w1.heap.size, 1, none⟩ (.int .i64 rk)) = w5 at *
  by_cases hb2 : 6 < r.bin.1.text.size
  ·
   have HQ : Hid (addRuleM rts rls r = .error (5, r.bin.1.line)) := by show _ = _; unfold addRuleM; rw [if_neg H8.o, if_neg HH.o, HRK.o, if_neg (show ¬ 1000 < rk from HB1.o), if_pos hb2]
   refine (digits_long r.bin.1 r.bin.2 _ hb2).mono ?_
   rintro e w9 ⟨he, hf⟩
   unfold faultE at he
   subst he
   exact ⟨rfl, (ALPost.err HQ.o).2 ⟨rfl, (S5.o.fr.trans hf).below (by omega) (by simp)⟩⟩
  by_cases hb3 : r.bin.2.text.size = r.bin.1.text.size
  rotate_left
  ·
   have HQ : Hid (addRuleM rts rls r = .error (5, r.bin.2.line)) := by show _ = _; unfold addRuleM; rw [if_neg H8.o, if_neg HH.o, HRK.o, if_neg (show ¬ 1000 < rk from HB1.o), if_neg hb2, if_pos hb3]
   refine (digits_other r.bin.1 r.bin.2 _ (by omega) hb3).mono ?_
   rintro e w9 ⟨he, hf⟩
   unfold faultE at he
   subst he
   exact ⟨rfl, (ALPost.err HQ.o).2 ⟨rfl, (S5.o.fr.trans hf).below (by omega) (by simp)⟩⟩
  have HB2 := hid hb2
  have HB3 : Hid (¬ r.bin.2.text.size ≠ r.bin.1.text.size) := fun hne => hne hb3
  refine (digits_ok r.bin.1 r.bin.2 _ (by omega) hb3).mono ?_
  rintro e w6 ⟨rfl, hf⟩
  have S6 := hid (S5.o.step hf)
  clear hf hb2 hb3 S5
  have n2 := block_cell S6.o.hn 2 _ rfl
  have nf := block_frozen S6.o.hn
  have e6 := block_cell S6.o.he 6 _ rfl
  have e7 := block_cell S6.o.he 7 _ rfl
  have e8 := block_cell S6.o.he 8 _ rfl
  have e9 := block_cell S6.o.he 9 _ rfl
  have e10 := block_cell S6.o.he 10 _ rfl
  have e11 := block_cell S6.o.he 11 _ rfl
  go_wp2_with fail
  clear n2 nf e6 e7 e8 e9 e10 e11
  have S7 : Hid (AdSt w _ w1.heap.size _ #[.string r.name.text, .int .i64 rk, .int .i64 r.bin.1.text.size, .int .i64 0, .int .i64 0, .slice none 0 0, .bool false, .int .i64 0, .int .i64 0, .slice none 0 0, .bool false, .bool false, .slice none 0 0, .int .i64 0]) := (S6.o.write 2 (.int .i64 r.bin.1.text.size))
  clear S6
  generalize (w6.setCell ⟨w1.heap.size, 2, none⟩ (.int .i64 r.bin.1.text.size)) = w7 at *
  refine (span_any r.bin.1 r.bin.2 _ HD1.o HD2.o).mono ?_
  rintro e w8 ⟨hs, hf⟩
  by_cases hb4 : valOf r.bin.1 <= valOf r.bin.2
  rotate_left
  ·
   have HQ : Hid (addRuleM rts rls r = .error (5, r.bin.2.line)) := by show _ = _; unfold addRuleM; rw [if_neg H8.o, if_neg HH.o, HRK.o, if_neg (show ¬ 1000 < rk from HB1.o), if_neg (show ¬ 6 < r.bin.1.text.size from by have := HB2.o; omega), if_neg HB3.o, if_pos hb4]
   have he := (SpanE.bad hb4).1 hs
   unfold faultE at he
   subst he
   exact ⟨rfl, (ALPost.err HQ.o).2 ⟨rfl, (S7.o.fr.trans hf).below (by omega) (by simp)⟩⟩
  obtain rfl := (SpanE.ok hb4).1 hs
  have S8 := hid (S7.o.step hf)
  have HB4 : Hid (¬ ¬ valOf r.bin.1 <= valOf r.bin.2) := fun hne => hne hb4
  clear hf hb4 hs S7
  generalize hlo : valOf r.bin.1 = lo at *
  generalize hhi : valOf r.bin.2 = hi at *
  have HLO := hid hlo
  have HHI := hid hhi
  clear hlo hhi
  simp only [spanV]
  have n3 := block_cell S8.o.hn 3 _ rfl
  have n4 := block_cell S8.o.hn 4 _ rfl
  have nf := block_frozen S8.o.hn
  have e12 := block_cell S8.o.he 12 _ rfl
  go_wp2_with fail
  clear n3 n4 nf e12
  have S9 : Hid (AdSt w _ w1.heap.size _ #[.string r.name.text, .int .i64 rk, .int .i64 r.bin.1.text.size, .int .i64 lo, .int .i64 hi, .slice none 0 0, .bool false, .int .i64 0, .int .i64 0, .slice none 0 0, .bool false, .bool false, .slice none 0 0, .int .i64 0]) := ((S8.o.write 3 (.int .i64 lo)).write 4 (.int .i64 hi))
  clear S8
  generalize ((w8.setCell ⟨w1.heap.size, 3, none⟩ (.int .i64 lo)).setCell ⟨w1.heap.size, 4, none⟩ (.int .i64 hi)) = w10 at *
  refine (numbers_any _ b0 _ r.mcc 9999 _ (ownsRow_fr HMR.o S9.o.fr (by simp)) HDM.o HFM.o.1 (by rfl)).mono ?_
  intro e w11 hT
  cases hN : numsFrom 9999 0 r.mcc with
  | error f =>
   obtain ⟨he, hf⟩ := (NPost.err hN).1 hT
   unfold faultE at he
   subst he
   exact ⟨rfl, (ALPost.err (by show _ = _; unfold addRuleM; rw [if_neg H8.o, if_neg HH.o, HRK.o, if_neg (show ¬ 1000 < rk from HB1.o), if_neg (show ¬ 6 < r.bin.1.text.size from by have := HB2.o; omega), if_neg HB3.o, HLO.o, HHI.o, if_neg (show ¬ ¬ lo <= hi from fun h => h (by have := HB4.o; omega)), hN])).2 ⟨rfl, (S9.o.fr.trans hf).below (by omega) (by simp)⟩⟩
  | ok mccs =>
   obtain ⟨⟨v, rfl, hown⟩, hf⟩ := (NPost.ok hN).1 hT
   obtain ⟨q1, q2, q3, rfl⟩ := ownsRow_slice hown
   have HN1 := hid hN
   have R1 := hid (ownsRow_base hown S9.o.lt)
   have S11 := hid (S9.o.step hf)
   clear hf hT hN hown S9
   have n5 := block_cell S11.o.hn 5 _ rfl
   have nf := block_frozen S11.o.hn
   have e14 := block_cell S11.o.he 14 _ rfl
   have e13 := block_cell S11.o.he 13 _ rfl
   go_wp2_with fail
   clear n5 nf e14 e13
   have S12 : Hid (AdSt w _ w1.heap.size _ #[.string r.name.text, .int .i64 rk, .int .i64 r.bin.1.text.size, .int .i64 lo, .int .i64 hi, .slice q1 q2 q3, .bool false, .int .i64 0, .int .i64 0, .slice none 0 0, .bool false, .bool false, .slice none 0 0, .int .i64 0]) := (S11.o.write 5 (.slice q1 q2 q3))
   have R1w := hid ((ownsRow_wr R1.o 5 (.slice q1 q2 q3)))
   clear R1
   clear S11
   generalize (w11.setCell ⟨w1.heap.size, 5, none⟩ (.slice q1 q2 q3)) = w12 at *
   have R1 := R1w
   clear R1w
   refine (numbers_any _ b0 _ r.cur 999 _ (ownsRow_fr HCR.o S12.o.fr (by simp)) HDC.o HFM.o.2.1 (by rfl)).mono ?_
   intro e w13 hT
   cases hN : numsFrom 999 0 r.cur with
   | error f =>
    obtain ⟨he, hf⟩ := (NPost.err hN).1 hT
    unfold faultE at he
    subst he
    exact ⟨rfl, (ALPost.err (by show _ = _; unfold addRuleM; rw [if_neg H8.o, if_neg HH.o, HRK.o, if_neg (show ¬ 1000 < rk from HB1.o), if_neg (show ¬ 6 < r.bin.1.text.size from by have := HB2.o; omega), if_neg HB3.o, HLO.o, HHI.o, if_neg (show ¬ ¬ lo <= hi from fun h => h (by have := HB4.o; omega)), HN1.o]; dsimp only; rw [HAM.o, if_neg (by simp), hN])).2 ⟨rfl, (S12.o.fr.trans hf).below (by omega) (by simp)⟩⟩
   | ok curs =>
    obtain ⟨⟨v, rfl, hown⟩, hf⟩ := (NPost.ok hN).1 hT
    obtain ⟨s1, s2, s3, rfl⟩ := ownsRow_slice hown
    have HN2 := hid hN
    have R2 := hid (ownsRow_base hown S12.o.lt)
    have S13 := hid (S12.o.step hf)
    have R1w := hid (ownsRow_fr R1.o hf (by simp))
    clear R1
    have R1 := R1w
    clear R1w
    clear hf hT hN hown S12
    have n9 := block_cell S13.o.hn 9 _ rfl
    have n10 := block_cell S13.o.hn 10 _ rfl
    have n11 := block_cell S13.o.hn 11 _ rfl
    have nf := block_frozen S13.o.hn
    have e21 := block_cell S13.o.he 21 _ rfl
    have e22 := block_cell S13.o.he 22 _ rfl
    have e23 := block_cell S13.o.he 23 _ rfl
    go_wp2_with fail
    clear n9 n10 n11 nf e21 e22 e23
    have S14 : Hid (AdSt w _ w1.heap.size _ #[.string r.name.text, .int .i64 rk, .int .i64 r.bin.1.text.size, .int .i64 lo, .int .i64 hi, .slice q1 q2 q3, .bool false, .int .i64 0, .int .i64 0, .slice s1 s2 s3, .bool r.act.decline, .bool r.act.cheapest, .slice none 0 0, .int .i64 0]) := (((S13.o.write 9 (.slice s1 s2 s3)).write 10 (.bool r.act.decline)).write 11 (.bool r.act.cheapest))
    have R1w := hid ((ownsRow_wr (ownsRow_wr (ownsRow_wr R1.o 9 (.slice s1 s2 s3)) 10 (.bool r.act.decline)) 11 (.bool r.act.cheapest)))
    clear R1
    have R2w := hid ((ownsRow_wr (ownsRow_wr (ownsRow_wr R2.o 9 (.slice s1 s2 s3)) 10 (.bool r.act.decline)) 11 (.bool r.act.cheapest)))
    clear R2
    clear S13
    generalize (((w13.setCell ⟨w1.heap.size, 9, none⟩ (.slice s1 s2 s3)).setCell ⟨w1.heap.size, 10, none⟩ (.bool r.act.decline)).setCell ⟨w1.heap.size, 11, none⟩ (.bool r.act.cheapest)) = w14 at *
    have R1 := R1w
    clear R1w
    have R2 := R2w
    clear R2w
    refine (places_any _ B b0 (B + 1) _ _ r.act.routes rts (HK.o.fr S14.o.fr (by simp)).c0 (HK.o.fr S14.o.fr (by simp)).ro HK.o.r6 (ownsRow_fr HPR.o S14.o.fr (by simp)) HFM.o.2.2).mono ?_
    intro e w15 hT
    cases hN : plsFrom rts 0 r.act.routes with
    | error f =>
     obtain ⟨he, hf⟩ := (NPost.err hN).1 hT
     unfold faultE at he
     subst he
     exact ⟨rfl, (ALPost.err (by show _ = _; unfold addRuleM; rw [if_neg H8.o, if_neg HH.o, HRK.o, if_neg (show ¬ 1000 < rk from HB1.o), if_neg (show ¬ 6 < r.bin.1.text.size from by have := HB2.o; omega), if_neg HB3.o, HLO.o, HHI.o, if_neg (show ¬ ¬ lo <= hi from fun h => h (by have := HB4.o; omega)), HN1.o]; dsimp only; rw [HAM.o, if_neg (by simp), HN2.o]; dsimp only; rw [hN])).2 ⟨rfl, (S14.o.fr.trans hf).below (by omega) (by simp)⟩⟩
    | ok ps =>
     obtain ⟨⟨v, rfl, hown⟩, hf⟩ := (NPost.ok hN).1 hT
     obtain ⟨t1, t2, t3, rfl⟩ := ownsRow_slice hown
     have HN3 := hid hN
     have R3 := hid (ownsRow_base hown S14.o.lt)
     have S15 := hid (S14.o.step hf)
     have R1w := hid (ownsRow_fr R1.o hf (by simp))
     clear R1
     have R1 := R1w
     clear R1w
     have R2w := hid (ownsRow_fr R2.o hf (by simp))
     clear R2
     have R2 := R2w
     clear R2w
     clear hf hT hN hown S14
     have HQ : Hid (addRuleM rts rls r = .ok ⟨r.name.text, rk, r.bin.1.text.size, lo, hi, mccs, none, curs, r.act.decline, r.act.cheapest, ps, rts.length⟩) := by show _ = _; unfold addRuleM; rw [if_neg H8.o, if_neg HH.o, HRK.o, if_neg (show ¬ 1000 < rk from HB1.o), if_neg (show ¬ 6 < r.bin.1.text.size from by have := HB2.o; omega), if_neg HB3.o, HLO.o, HHI.o, if_neg (show ¬ ¬ lo <= hi from fun h => h (by have := HB4.o; omega)), HN1.o]; dsimp only; rw [HAM.o, if_neg (by simp), HN2.o]; dsimp only; rw [HN3.o]; rfl
     have c0 := (HK.o.fr S15.o.fr (by simp)).c0
     have n12 := block_cell S15.o.hn 12 _ rfl
     have n13 := block_cell S15.o.hn 13 _ rfl
     have nf := block_frozen S15.o.hn
     go_wp2_with fail
     clear n12 n13 nf
     have S16 := hid (((S15.o.write 12 (.slice t1 t2 t3)).write 13 (.int .i64 rts.length)))
     have R1w := hid ((ownsRow_wr (ownsRow_wr R1.o 12 (.slice t1 t2 t3)) 13 (.int .i64 rts.length)))
     clear R1
     have R2w := hid ((ownsRow_wr (ownsRow_wr R2.o 12 (.slice t1 t2 t3)) 13 (.int .i64 rts.length)))
     clear R2
     have R3w := hid ((ownsRow_wr (ownsRow_wr R3.o 12 (.slice t1 t2 t3)) 13 (.int .i64 rts.length)))
     clear R3
     clear S15
     generalize ((w15.setCell ⟨w1.heap.size, 12, none⟩ (.slice t1 t2 t3)).setCell ⟨w1.heap.size, 13, none⟩ (.int .i64 rts.length)) = w16 at *
     have R1 := R1w
     clear R1w
     have R2 := R2w
     clear R2w
     have R3 := R3w
     clear R3w
     clear c0
     have HK7 := hid (HK.o.fr S16.o.fr (by simp))
     have HRU : Hid (RuV (B + 1) w16 ⟨r.name.text, rk, r.bin.1.text.size, lo, hi, mccs, none, curs, r.act.decline, r.act.cheapest, ps, rts.length⟩ [.string r.name.text, .int .i64 rk, .int .i64 r.bin.1.text.size, .int .i64 lo, .int .i64 hi, .slice q1 q2 q3, .bool false, .int .i64 0, .int .i64 0, .slice s1 s2 s3, .bool r.act.decline, .bool r.act.cheapest, .slice t1 t2 t3, .int .i64 rts.length]) := ⟨_, _, _, rfl, ownsRow_base R1.o (by omega), ownsRow_base R2.o (by omega), ownsRow_base R3.o (by omega)⟩
     have c1 := HK7.o.c1
     have hl8 := HK.o.l8
     have hB7 : B < w16.heap.size := World.block_lt_of_cell? w16 _ c1
     have HR7l : w1.heap.size < w16.heap.size := S16.o.lt
     refine wp_region_held_drew (S := fun w' => w'.heap[w1.heap.size]? = some (.cells #[.string r.name.text, .int .i64 rk, .int .i64 r.bin.1.text.size, .int .i64 lo, .int .i64 hi, .slice q1 q2 q3, .bool false, .int .i64 0, .int .i64 0, .slice s1 s2 s3, .bool r.act.decline, .bool r.act.cheapest, .slice t1 t2 t3, .int .i64 rts.length] 108)) (by kernel_rfl) ?_ (fun hH => ?_)
     ·exact S16.o.hn
     refine htk 0 (v := ?v0) ?y0 hH ?r0
     case y0 =>
      intro w hw
      go_simp
      with_reducible rfl
     go_frame
     refine htk 1 (v := ?v1) ?y1 hH ?r1
     case y1 =>
      intro w hw
      go_simp
      with_reducible rfl
     go_frame
     refine htk 2 (v := ?v2) ?y2 hH ?r2
     case y2 =>
      intro w hw
      go_simp
      with_reducible rfl
     go_frame
     refine htk 3 (v := ?v3) ?y3 hH ?r3
     case y3 =>
      intro w hw
      go_simp
      with_reducible rfl
     go_frame
     refine htk 5 (v := ?v5) ?y5 hH ?r5
     case y5 =>
      intro w hw
      have g0 := block_cell hw 0 _ rfl
      have g1 := block_cell hw 1 _ rfl
      have g2 := block_cell hw 2 _ rfl
      have g3 := block_cell hw 3 _ rfl
      have g4 := block_cell hw 4 _ rfl
      have g5 := block_cell hw 5 _ rfl
      have g6 := block_cell hw 6 _ rfl
      have g7 := block_cell hw 7 _ rfl
      have g8 := block_cell hw 8 _ rfl
      have g9 := block_cell hw 9 _ rfl
      have g10 := block_cell hw 10 _ rfl
      have g11 := block_cell hw 11 _ rfl
      have g12 := block_cell hw 12 _ rfl
      have g13 := block_cell hw 13 _ rfl
      go_simp
      with_reducible rfl
     go_frame
     refine wpAnyH_ready (rs := [4, 6]) (by kernel_rfl) (by simp) ?_
     refine held_cons rfl (fun K hK => ?_) ?_
     ·rw [if_pos (by rfl)]
      go_simp
      refine hK.out _ _ hH (fun _ => ?_)
      clear hK K
      try go_frame
      refine wpAnyH_ready (rs := [6]) (by kernel_rfl) (by simp) ?_
      refine held_cons rfl (fun K hK => ?_) AllReadyH.nil
      rw [if_pos (by rfl)]
      go_simp
      refine hK.out _ _ ?_ (fun hH => ?_)
      ·exact ((Fr.refl (fun _ => False) _).alloc _).whole hH (by simp)
      clear hK K
      try go_frame
      refine wpAnyH_ready (rs := [7]) (by kernel_rfl) (by simp) ?_
      refine held_cons rfl (fun K hK => ?_) AllReadyH.nil
      refine step_append_lies _ rfl (.tmp 75) (.tmp 77) 57 rfl (B + 1) 108 ii _ 14 160 Tryz.underlying57 hi0 hz0 hz1 hz2 rfl (by decide) (.slice la rls.length lc) rls.length xs rfl ?h1 ⟨w16.heap.size, 0, none⟩ 1 1 [.string r.name.text, .int .i64 rk, .int .i64 r.bin.1.text.size, .int .i64 lo, .int .i64 hi, .slice q1 q2 q3, .bool false, .int .i64 0, .int .i64 0, .slice s1 s2 s3, .bool r.act.decline, .bool r.act.cheapest, .slice t1 t2 t3, .int .i64 rts.length] rfl rfl ?h2 ?h3 (by decide) ?h4 ?h5 ?h6 _ rfl ?h7
      case h1 => exact (HK7.o.lo.alloc _).drew
      case h2 => exact World.news_of_block (heap_alloc_new w16 _)
      case h3 => simp [Value.oneCell']
      case h4 => unfold maxLen; omega
      case h5 => omega
      case h6 => simp; omega
      case h7 =>
       intro g2 cap2 w17 hown hgrow _ _
       have hal : Below w16.heap.size w16 (w16.alloc (.cells #[.string r.name.text, .int .i64 rk, .int .i64 r.bin.1.text.size, .int .i64 lo, .int .i64 hi, .slice q1 q2 q3, .bool false, .int .i64 0, .int .i64 0, .slice s1 s2 s3, .bool r.act.decline, .bool r.act.cheapest, .slice t1 t2 t3, .int .i64 rts.length] 108)).drew := ((Below.refl _ _).alloc (Nat.le_refl _) _).drew
       have hbk := bk_appendL HK7.o HRU.o hal hgrow hown
       have d1 := hbk.1
       have df := hbk.2.1
       have HBK := hid (hbk.2.2 (by have := H8.o; omega))
       have hfar : some w1.heap.size ≠ (Value.slice la rls.length lc).ownBlock := fun e => by have := (HK.o.lo.lt _ e.symm).2; omega
       have hS17 : w17.heap[w1.heap.size]? = some (.cells #[.string r.name.text, .int .i64 rk, .int .i64 r.bin.1.text.size, .int .i64 lo, .int .i64 hi, .slice q1 q2 q3, .bool false, .int .i64 0, .int .i64 0, .slice s1 s2 s3, .bool r.act.decline, .bool r.act.cheapest, .slice t1 t2 t3, .int .i64 rts.length] 108) := (hgrow.block _ (Nat.lt_of_lt_of_le HR7l hal.size) hfar).trans ((hal.block _ HR7l).trans S16.o.hn)
       clear hbk hgrow hown hal hfar
       refine hK.out _ _ hS17 (fun hH => ?_)
       clear hK K hS17
       go_frame
       refine htk 8 (v := ?v8A) ?y8A hH ?r8A
       case y8A =>
        intro w hw
        go_simp
        with_reducible rfl
       go_frame
       refine htk 9 (v := ?v9A) ?y9A hH ?r9A
       case y9A =>
        intro w hw
        go_simp
        with_reducible rfl
       go_frame
       refine wpAnyH_ready (rs := [10]) (by kernel_rfl) (by simp) ?_
       refine held_cons rfl (fun K hK => ?_) AllReadyH.nil
       rw [if_pos (by rfl)]
       go_simp
       refine hK.out _ _ ?_ (fun _ => ?_)
       ·exact ((Fr.refl (fun k => k = B) _).setCell (p := ⟨B, 1, none⟩) (Or.inl rfl) _).whole hH (by omega)
       clear hK K
       try go_frame
       refine wpAnyH_done (by kernel_rfl) ?_ _
       go_wp2
       go_end0
       exact (ALPost.ok HQ.o).2 ⟨rfl, ⟨_, _, HBK.o.1⟩, (S16.o.fr.below (by omega) (by simp)).trans HBK.o.2⟩
     ·refine held_cons rfl (fun K hK => ?_) AllReadyH.nil
      rw [if_pos (by rfl)]
      go_simp
      refine hK.out _ _ ?_ (fun hH => ?_)
      ·exact ((Fr.refl (fun _ => False) _).alloc _).whole hH (by simp)
      clear hK K
      try go_frame
      refine wpAnyH_ready (rs := [4]) (by kernel_rfl) (by simp) ?_
      refine held_cons rfl (fun K hK => ?_) AllReadyH.nil
      rw [if_pos (by rfl)]
      have c1' : (w16.alloc (.cells #[.string r.name.text, .int .i64 rk, .int .i64 r.bin.1.text.size, .int .i64 lo, .int .i64 hi, .slice q1 q2 q3, .bool false, .int .i64 0, .int .i64 0, .slice s1 s2 s3, .bool r.act.decline, .bool r.act.cheapest, .slice t1 t2 t3, .int .i64 rts.length] 108)).cell? ⟨B, 1, none⟩ = some (.slice la rls.length lc) := by rw [World.cell?_alloc_some _ _ _ (by simp [c1])]; exact c1
      go_simp
      refine hK.out _ _ hH (fun _ => ?_)
      clear hK K c1'
      try go_frame
      refine wpAnyH_ready (rs := [7]) (by kernel_rfl) (by simp) ?_
      refine held_cons rfl (fun K hK => ?_) AllReadyH.nil
      refine step_append_lies _ rfl (.tmp 75) (.tmp 77) 57 rfl (B + 1) 108 ii _ 14 160 Tryz.underlying57 hi0 hz0 hz1 hz2 rfl (by decide) (.slice la rls.length lc) rls.length xs rfl ?h1 ⟨w16.heap.size, 0, none⟩ 1 1 [.string r.name.text, .int .i64 rk, .int .i64 r.bin.1.text.size, .int .i64 lo, .int .i64 hi, .slice q1 q2 q3, .bool false, .int .i64 0, .int .i64 0, .slice s1 s2 s3, .bool r.act.decline, .bool r.act.cheapest, .slice t1 t2 t3, .int .i64 rts.length] rfl rfl ?h2 ?h3 (by decide) ?h4 ?h5 ?h6 _ rfl ?h7
      case h1 => exact (HK7.o.lo.alloc _).drew
      case h2 => exact World.news_of_block (heap_alloc_new w16 _)
      case h3 => simp [Value.oneCell']
      case h4 => unfold maxLen; omega
      case h5 => omega
      case h6 => simp; omega
      case h7 =>
       intro g2 cap2 w17 hown hgrow _ _
       have hal : Below w16.heap.size w16 (w16.alloc (.cells #[.string r.name.text, .int .i64 rk, .int .i64 r.bin.1.text.size, .int .i64 lo, .int .i64 hi, .slice q1 q2 q3, .bool false, .int .i64 0, .int .i64 0, .slice s1 s2 s3, .bool r.act.decline, .bool r.act.cheapest, .slice t1 t2 t3, .int .i64 rts.length] 108)).drew := ((Below.refl _ _).alloc (Nat.le_refl _) _).drew
       have hbk := bk_appendL HK7.o HRU.o hal hgrow hown
       have d1 := hbk.1
       have df := hbk.2.1
       have HBK := hid (hbk.2.2 (by have := H8.o; omega))
       have hfar : some w1.heap.size ≠ (Value.slice la rls.length lc).ownBlock := fun e => by have := (HK.o.lo.lt _ e.symm).2; omega
       have hS17 : w17.heap[w1.heap.size]? = some (.cells #[.string r.name.text, .int .i64 rk, .int .i64 r.bin.1.text.size, .int .i64 lo, .int .i64 hi, .slice q1 q2 q3, .bool false, .int .i64 0, .int .i64 0, .slice s1 s2 s3, .bool r.act.decline, .bool r.act.cheapest, .slice t1 t2 t3, .int .i64 rts.length] 108) := (hgrow.block _ (Nat.lt_of_lt_of_le HR7l hal.size) hfar).trans ((hal.block _ HR7l).trans S16.o.hn)
       clear hbk hgrow hown hal hfar
       refine hK.out _ _ hS17 (fun hH => ?_)
       clear hK K hS17
       go_frame
       refine htk 8 (v := ?v8B) ?y8B hH ?r8B
       case y8B =>
        intro w hw
        go_simp
        with_reducible rfl
       go_frame
       refine htk 9 (v := ?v9B) ?y9B hH ?r9B
       case y9B =>
        intro w hw
        go_simp
        with_reducible rfl
       go_frame
       refine wpAnyH_ready (rs := [10]) (by kernel_rfl) (by simp) ?_
       refine held_cons rfl (fun K hK => ?_) AllReadyH.nil
       rw [if_pos (by rfl)]
       go_simp
       refine hK.out _ _ ?_ (fun _ => ?_)
       ·exact ((Fr.refl (fun k => k = B) _).setCell (p := ⟨B, 1, none⟩) (Or.inl rfl) _).whole hH (by omega)
       clear hK K
       try go_frame
       refine wpAnyH_done (by kernel_rfl) ?_ _
       go_wp2
       go_end0
       exact (ALPost.ok HQ.o).2 ⟨rfl, ⟨_, _, HBK.o.1⟩, (S16.o.fr.below (by omega) (by simp)).trans HBK.o.2⟩
set_option maxRecDepth 30000 in
set_option maxHeartbeats 2000000 in
theorem addRule_some (w : World) (B b0 : Nat) (vr vl : Value) (rts : List RouteM) (rls : List RuleM) (xs : List Value) (r : RuleE) (aa ab : Tk) (vm vc vp : Value) (h : Bk w B vr vl rts rls xs)
  (hn : r.name.text.size <= 3000) (dr : Dg r.rank.text) (d1 : Dg r.bin.1.text) (d2 : Dg r.bin.2.text) (dm : ∀ t, t ∈ r.mcc -> Dg t.text) (dc : ∀ t, t ∈ r.cur -> Dg t.text) (da : Dg aa.text) (db : Dg ab.text) 
  (ham : r.amount = some (aa, ab)) (hm : w.ownsRow b0 207 3 vm r.mcc.length (tkRow r.mcc)) (hc : w.ownsRow b0 207 3 vc r.cur.length (tkRow r.cur)) (hp : w.ownsRow b0 207 3 vp r.act.routes.length (tkRow r.act.routes))
  (fm : r.mcc.length <= 4000) (fc : r.cur.length <= 4000) (fp : r.act.routes.length <= 4000) :
  Calls Tryz.prog 267 #[ruleV r vm vc vp, .pointer (some ⟨B, 0, none⟩)] w (ALPost (addRuleM rts rls r) w B vr rts rls xs) := by
 obtain ⟨m1, m2, m3, rfl⟩ := ownsRow_slice hm
 obtain ⟨c1, c2, c3, rfl⟩ := ownsRow_slice hc
 obtain ⟨p1, p2, p3, rfl⟩ := ownsRow_slice hp
 obtain ⟨la, lc, rfl⟩ := ownsRow_len h.lo
 obtain ⟨ra, rc, rfl⟩ := ownsRow_len h.ro
 obtain ⟨ii, hi0, hz0, hz1, hz2⟩ := info_parts Tryz.infoRule
 have HK := hid h
 have hBl : B < w.heap.size := World.block_lt_of_cell? w _ h.c0
 have HV : ruleV r (.slice m1 m2 m3) (.slice c1 c2 c3) (.slice p1 p2 p3) = .agg #[.int .i64 r.name.sort, .string r.name.text, .int .i64 r.name.line, .int .i64 r.rank.sort, .string r.rank.text, .int .i64 r.rank.line, .int .i64 r.bin.1.sort, .string r.bin.1.text, .int .i64 r.bin.1.line, .int .i64 r.bin.2.sort, .string r.bin.2.text, .int .i64 r.bin.2.line, .slice m1 m2 m3, .slice c1 c2 c3, .bool true, .int .i64 aa.sort, .string aa.text, .int .i64 aa.line, .int .i64 ab.sort, .string ab.text, .int .i64 ab.line, .bool r.act.decline, .bool r.act.cheapest, .slice p1 p2 p3] := by unfold ruleV; rw [ham]; rfl
 have HNS := hid hn
 have HDR := hid dr
 have HD1 := hid d1
 have HD2 := hid d2
 have HDM := hid dm
 have HDC := hid dc
 have HDA := hid da
 have HDB := hid db
 have HMR := hid hm
 have HCR := hid hc
 have HPR := hid hp
 have HFM : Hid (r.mcc.length <= 4000 /\ r.cur.length <= 4000 /\ r.act.routes.length <= 4000) := ⟨fm, fc, fp⟩
 have HAM := hid ham
 have c1' := h.c1
 have HAL : Hid (F0 w (w.alloc (.cells #[.int .i64 r.name.sort, .string r.name.text, .int .i64 r.name.line, .int .i64 r.rank.sort, .string r.rank.text, .int .i64 r.rank.line, .int .i64 r.bin.1.sort, .string r.bin.1.text, .int .i64 r.bin.1.line, .int .i64 r.bin.2.sort, .string r.bin.2.text, .int .i64 r.bin.2.line, .slice m1 m2 m3, .slice c1 c2 c3, .bool true, .int .i64 aa.sort, .string aa.text, .int .i64 aa.line, .int .i64 ab.sort, .string ab.text, .int .i64 ab.line, .bool r.act.decline, .bool r.act.cheapest, .slice p1 p2 p3] 238))) := (Fr.refl _ _).alloc _
 rw [HV]
 clear HV h hn dr d1 d2 dm dc da db ham hm hc hp fm fc fp
 by_cases h8 : rls.length = 8
 ·have hq : ((rls.length : Int) == 8) = true := by simp; omega
  have H8 : Hid (addRuleM rts rls r = .error (6, r.name.line)) := by show _ = _; unfold addRuleM; rw [if_pos h8]
  clear h8
  go_enter Tryz.func267, Tryz.ntmps267
  go_wp2_with fail
  refine (giveUp_any r.name 6 _ _ (by rfl)).mono ?_
  rintro e w9 ⟨he, hf⟩
  unfold faultE at he
  subst he
  exact ⟨rfl, (ALPost.err H8.o).2 ⟨rfl, (HAL.o.trans hf).below (by omega) (by simp)⟩⟩
 have hq : ((rls.length : Int) == 8) = false := by simp; omega
 have H8 := hid h8
 clear h8
 go_enter Tryz.func267, Tryz.ntmps267
 go_wp2_with fail
 refine (hasRule_any _ B _ _ rts rls xs r.name.text (HK.o.fr HAL.o (by simp))).mono ?_
 rintro e w1 ⟨rfl, hf⟩
 have HE1 := hid (hf.whole (heap_alloc_new w _) (by simp))
 have HF1 := hid (HAL.o.trans hf)
 have hEl : w.heap.size < w1.heap.size := (Array.getElem?_eq_some_iff.1 HE1.o).1
 clear hf c1'
 cases hh : hasName r.name.text rls with
 | true =>
  have HQ : Hid (addRuleM rts rls r = .error (4, r.name.line)) := by show _ = _; unfold addRuleM; rw [if_neg H8.o, if_pos hh]
  have e0 := block_cell HE1.o 0 _ rfl
  have e1 := block_cell HE1.o 1 _ rfl
  have e2 := block_cell HE1.o 2 _ rfl
  clear hh
  go_wp2_with fail
  refine (giveUp_any r.name 4 _ _ (by rfl)).mono ?_
  rintro e w9 ⟨he, hf⟩
  unfold faultE at he
  subst he
  exact ⟨rfl, (ALPost.err HQ.o).2 ⟨rfl, (HF1.o.trans hf).below (by omega) (by simp)⟩⟩
 | false =>
  have HH : Hid (¬ hasName r.name.text rls = true) := by show ¬ _; rw [hh]; simp
  have e1 := block_cell HE1.o 1 _ rfl
  clear hh
  have hx1 : ¬ w.heap.size = w1.heap.size := by omega
  have hx2 : ¬ w1.heap.size = w.heap.size := by omega
  go_wp2_with fail
  refine (Clone_any r.name.text _ HNS.o).mono ?_
  rintro e w2 ⟨rfl, hf⟩
  have S2 : Hid (AdSt w w2 w1.heap.size _ #[.string ⟨#[]⟩, .int .i64 0, .int .i64 0, .int .i64 0, .int .i64 0, .slice none 0 0, .bool false, .int .i64 0, .int .i64 0, .slice none 0 0, .bool false, .bool false, .slice none 0 0, .int .i64 0]) := ⟨(HF1.o.alloc _).trans hf, hf.whole (((Fr.refl (fun _ => False) _).alloc _).whole HE1.o (by simp)) (by simp), hf.whole (heap_alloc_new w1 _) (by simp), hEl⟩
  clear hf e1 HE1
  have n0 := block_cell S2.o.hn 0 _ rfl
  have nf := block_frozen S2.o.hn
  have e3 := block_cell S2.o.he 3 _ rfl
  have e4 := block_cell S2.o.he 4 _ rfl
  have e5 := block_cell S2.o.he 5 _ rfl
  go_wp2_with fail
  clear n0 nf e3 e4 e5
  have S3 : Hid (AdSt w _ w1.heap.size _ #[.string r.name.text, .int .i64 0, .int .i64 0, .int .i64 0, .int .i64 0, .slice none 0 0, .bool false, .int .i64 0, .int .i64 0, .slice none 0 0, .bool false, .bool false, .slice none 0 0, .int .i64 0]) := (S2.o.write 0 (.string r.name.text))
  clear S2
  generalize (w2.setCell ⟨w1.heap.size, 0, none⟩ (.string r.name.text)) = w3 at *
  by_cases hb1 : 1000 < valOf r.rank
  ·
   have HQ : Hid (addRuleM rts rls r = .error (5, r.rank.line)) := by show _ = _; unfold addRuleM; rw [if_neg H8.o, if_neg HH.o, if_pos hb1]
   refine (upTo_bad r.rank _ 1000 _ HDR.o hb1 (by rfl)).mono ?_
   rintro e w9 ⟨he, hf⟩
   unfold faultE at he
   subst he
   exact ⟨rfl, (ALPost.err HQ.o).2 ⟨rfl, (S3.o.fr.trans hf).below (by omega) (by simp)⟩⟩
  have HB1 := hid hb1
  refine (upTo_ok r.rank _ 1000 _ HDR.o (by omega) (by rfl)).mono ?_
  rintro e w4 ⟨rfl, hf⟩
  have S4 := hid (S3.o.step hf)
  clear hf hb1 S3
  generalize hrk : valOf r.rank = rk at *
  have HRK := hid hrk
  clear hrk
  have n1 := block_cell S4.o.hn 1 _ rfl
  have nf := block_frozen S4.o.hn
  have e6 := block_cell S4.o.he 6 _ rfl
  have e7 := block_cell S4.o.he 7 _ rfl
  have e8 := block_cell S4.o.he 8 _ rfl
  have e9 := block_cell S4.o.he 9 _ rfl
  have e10 := block_cell S4.o.he 10 _ rfl
  have e11 := block_cell S4.o.he 11 _ rfl
  go_wp2_with fail
  clear n1 nf e6 e7 e8 e9 e10 e11
  have S5 : Hid (AdSt w _ w1.heap.size _ #[.string r.name.text, .int .i64 rk, .int .i64 0, .int .i64 0, .int .i64 0, .slice none 0 0, .bool false, .int .i64 0, .int .i64 0, .slice none 0 0, .bool false, .bool false, .slice none 0 0, .int .i64 0]) := (S4.o.write 1 (.int .i64 rk))
  clear S4
  generalize (w4.setCell ⟨w1.heap.size, 1, none⟩ (.int .i64 rk)) = w5 at *
  by_cases hb2 : 6 < r.bin.1.text.size
  ·
   have HQ : Hid (addRuleM rts rls r = .error (5, r.bin.1.line)) := by show _ = _; unfold addRuleM; rw [if_neg H8.o, if_neg HH.o, HRK.o, if_neg (show ¬ 1000 < rk from HB1.o), if_pos hb2]
   refine (digits_long r.bin.1 r.bin.2 _ hb2).mono ?_
   rintro e w9 ⟨he, hf⟩
   unfold faultE at he
   subst he
   exact ⟨rfl, (ALPost.err HQ.o).2 ⟨rfl, (S5.o.fr.trans hf).below (by omega) (by simp)⟩⟩
  by_cases hb3 : r.bin.2.text.size = r.bin.1.text.size
  rotate_left
  ·
   have HQ : Hid (addRuleM rts rls r = .error (5, r.bin.2.line)) := by show _ = _; unfold addRuleM; rw [if_neg H8.o, if_neg HH.o, HRK.o, if_neg (show ¬ 1000 < rk from HB1.o), if_neg hb2, if_pos hb3]
   refine (digits_other r.bin.1 r.bin.2 _ (by omega) hb3).mono ?_
   rintro e w9 ⟨he, hf⟩
   unfold faultE at he
   subst he
   exact ⟨rfl, (ALPost.err HQ.o).2 ⟨rfl, (S5.o.fr.trans hf).below (by omega) (by simp)⟩⟩
  have HB2 := hid hb2
  have HB3 : Hid (¬ r.bin.2.text.size ≠ r.bin.1.text.size) := fun hne => hne hb3
  refine (digits_ok r.bin.1 r.bin.2 _ (by omega) hb3).mono ?_
  rintro e w6 ⟨rfl, hf⟩
  have S6 := hid (S5.o.step hf)
  clear hf hb2 hb3 S5
  have n2 := block_cell S6.o.hn 2 _ rfl
  have nf := block_frozen S6.o.hn
  have e6 := block_cell S6.o.he 6 _ rfl
  have e7 := block_cell S6.o.he 7 _ rfl
  have e8 := block_cell S6.o.he 8 _ rfl
  have e9 := block_cell S6.o.he 9 _ rfl
  have e10 := block_cell S6.o.he 10 _ rfl
  have e11 := block_cell S6.o.he 11 _ rfl
  go_wp2_with fail
  clear n2 nf e6 e7 e8 e9 e10 e11
  have S7 : Hid (AdSt w _ w1.heap.size _ #[.string r.name.text, .int .i64 rk, .int .i64 r.bin.1.text.size, .int .i64 0, .int .i64 0, .slice none 0 0, .bool false, .int .i64 0, .int .i64 0, .slice none 0 0, .bool false, .bool false, .slice none 0 0, .int .i64 0]) := (S6.o.write 2 (.int .i64 r.bin.1.text.size))
  clear S6
  generalize (w6.setCell ⟨w1.heap.size, 2, none⟩ (.int .i64 r.bin.1.text.size)) = w7 at *
  refine (span_any r.bin.1 r.bin.2 _ HD1.o HD2.o).mono ?_
  rintro e w8 ⟨hs, hf⟩
  by_cases hb4 : valOf r.bin.1 <= valOf r.bin.2
  rotate_left
  ·
   have HQ : Hid (addRuleM rts rls r = .error (5, r.bin.2.line)) := by show _ = _; unfold addRuleM; rw [if_neg H8.o, if_neg HH.o, HRK.o, if_neg (show ¬ 1000 < rk from HB1.o), if_neg (show ¬ 6 < r.bin.1.text.size from by have := HB2.o; omega), if_neg HB3.o, if_pos hb4]
   have he := (SpanE.bad hb4).1 hs
   unfold faultE at he
   subst he
   exact ⟨rfl, (ALPost.err HQ.o).2 ⟨rfl, (S7.o.fr.trans hf).below (by omega) (by simp)⟩⟩
  obtain rfl := (SpanE.ok hb4).1 hs
  have S8 := hid (S7.o.step hf)
  have HB4 : Hid (¬ ¬ valOf r.bin.1 <= valOf r.bin.2) := fun hne => hne hb4
  clear hf hb4 hs S7
  generalize hlo : valOf r.bin.1 = lo at *
  generalize hhi : valOf r.bin.2 = hi at *
  have HLO := hid hlo
  have HHI := hid hhi
  clear hlo hhi
  simp only [spanV]
  have n3 := block_cell S8.o.hn 3 _ rfl
  have n4 := block_cell S8.o.hn 4 _ rfl
  have nf := block_frozen S8.o.hn
  have e12 := block_cell S8.o.he 12 _ rfl
  go_wp2_with fail
  clear n3 n4 nf e12
  have S9 : Hid (AdSt w _ w1.heap.size _ #[.string r.name.text, .int .i64 rk, .int .i64 r.bin.1.text.size, .int .i64 lo, .int .i64 hi, .slice none 0 0, .bool false, .int .i64 0, .int .i64 0, .slice none 0 0, .bool false, .bool false, .slice none 0 0, .int .i64 0]) := ((S8.o.write 3 (.int .i64 lo)).write 4 (.int .i64 hi))
  clear S8
  generalize ((w8.setCell ⟨w1.heap.size, 3, none⟩ (.int .i64 lo)).setCell ⟨w1.heap.size, 4, none⟩ (.int .i64 hi)) = w10 at *
  refine (numbers_any _ b0 _ r.mcc 9999 _ (ownsRow_fr HMR.o S9.o.fr (by simp)) HDM.o HFM.o.1 (by rfl)).mono ?_
  intro e w11 hT
  cases hN : numsFrom 9999 0 r.mcc with
  | error f =>
   obtain ⟨he, hf⟩ := (NPost.err hN).1 hT
   unfold faultE at he
   subst he
   exact ⟨rfl, (ALPost.err (by show _ = _; unfold addRuleM; rw [if_neg H8.o, if_neg HH.o, HRK.o, if_neg (show ¬ 1000 < rk from HB1.o), if_neg (show ¬ 6 < r.bin.1.text.size from by have := HB2.o; omega), if_neg HB3.o, HLO.o, HHI.o, if_neg (show ¬ ¬ lo <= hi from fun h => h (by have := HB4.o; omega)), hN])).2 ⟨rfl, (S9.o.fr.trans hf).below (by omega) (by simp)⟩⟩
  | ok mccs =>
   obtain ⟨⟨v, rfl, hown⟩, hf⟩ := (NPost.ok hN).1 hT
   obtain ⟨q1, q2, q3, rfl⟩ := ownsRow_slice hown
   have HN1 := hid hN
   have R1 := hid (ownsRow_base hown S9.o.lt)
   have S11 := hid (S9.o.step hf)
   clear hf hT hN hown S9
   have n5 := block_cell S11.o.hn 5 _ rfl
   have n6 := block_cell S11.o.hn 6 _ rfl
   have nf := block_frozen S11.o.hn
   have e14 := block_cell S11.o.he 14 _ rfl
   have e15 := block_cell S11.o.he 15 _ rfl
   have e16 := block_cell S11.o.he 16 _ rfl
   have e17 := block_cell S11.o.he 17 _ rfl
   have e18 := block_cell S11.o.he 18 _ rfl
   have e19 := block_cell S11.o.he 19 _ rfl
   have e20 := block_cell S11.o.he 20 _ rfl
   go_wp2_with fail
   clear n5 n6 nf e14 e15 e16 e17 e18 e19 e20
   have S11b : Hid (AdSt w _ w1.heap.size _ #[.string r.name.text, .int .i64 rk, .int .i64 r.bin.1.text.size, .int .i64 lo, .int .i64 hi, .slice q1 q2 q3, .bool true, .int .i64 0, .int .i64 0, .slice none 0 0, .bool false, .bool false, .slice none 0 0, .int .i64 0]) := ((S11.o.write 5 (.slice q1 q2 q3)).write 6 (.bool true))
   have R1w := hid ((ownsRow_wr (ownsRow_wr R1.o 5 (.slice q1 q2 q3)) 6 (.bool true)))
   clear R1
   clear S11
   generalize ((w11.setCell ⟨w1.heap.size, 5, none⟩ (.slice q1 q2 q3)).setCell ⟨w1.heap.size, 6, none⟩ (.bool true)) = w11b at *
   have R1 := R1w
   clear R1w
   refine (spanUpTo_any aa ab _ _ HDA.o HDB.o (by rfl)).mono ?_
   rintro e w11c ⟨hs, hf⟩
   by_cases hb5 : valOf aa <= valOf ab
   rotate_left
   ·
    have HQ : Hid (addRuleM rts rls r = .error (5, ab.line)) := by show _ = _; unfold addRuleM; rw [if_neg H8.o, if_neg HH.o, HRK.o, if_neg (show ¬ 1000 < rk from HB1.o), if_neg (show ¬ 6 < r.bin.1.text.size from by have := HB2.o; omega), if_neg HB3.o, HLO.o, HHI.o, if_neg (show ¬ ¬ lo <= hi from fun h => h (by have := HB4.o; omega)), HN1.o]; dsimp only; rw [HAM.o, if_pos (by simpa using hb5)]; rfl
    have he := (SpanE.bad hb5).1 hs
    unfold faultE at he
    subst he
    exact ⟨rfl, (ALPost.err HQ.o).2 ⟨rfl, (S11b.o.fr.trans hf).below (by omega) (by simp)⟩⟩
   obtain rfl := (SpanE.ok hb5).1 hs
   have S11d := hid (S11b.o.step hf)
   have R1w := hid (ownsRow_fr R1.o hf (by simp))
   clear R1
   have R1 := R1w
   clear R1w
   have HB5 := hid hb5
   clear hf hb5 hs S11b
   generalize hal : valOf aa = al at *
   generalize hah : valOf ab = ah at *
   have HVA := hid hal
   have HVB := hid hah
   clear hal hah
   simp only [spanV]
   have n7 := block_cell S11d.o.hn 7 _ rfl
   have n8 := block_cell S11d.o.hn 8 _ rfl
   have nf := block_frozen S11d.o.hn
   have e13 := block_cell S11d.o.he 13 _ rfl
   go_wp2_with fail
   clear n7 n8 nf e13
   have S12 : Hid (AdSt w _ w1.heap.size _ #[.string r.name.text, .int .i64 rk, .int .i64 r.bin.1.text.size, .int .i64 lo, .int .i64 hi, .slice q1 q2 q3, .bool true, .int .i64 al, .int .i64 ah, .slice none 0 0, .bool false, .bool false, .slice none 0 0, .int .i64 0]) := ((S11d.o.write 7 (.int .i64 al)).write 8 (.int .i64 ah))
   have R1w := hid ((ownsRow_wr (ownsRow_wr R1.o 7 (.int .i64 al)) 8 (.int .i64 ah)))
   clear R1
   clear S11d
   generalize ((w11c.setCell ⟨w1.heap.size, 7, none⟩ (.int .i64 al)).setCell ⟨w1.heap.size, 8, none⟩ (.int .i64 ah)) = w12 at *
   have R1 := R1w
   clear R1w
   refine (numbers_any _ b0 _ r.cur 999 _ (ownsRow_fr HCR.o S12.o.fr (by simp)) HDC.o HFM.o.2.1 (by rfl)).mono ?_
   intro e w13 hT
   cases hN : numsFrom 999 0 r.cur with
   | error f =>
    obtain ⟨he, hf⟩ := (NPost.err hN).1 hT
    unfold faultE at he
    subst he
    exact ⟨rfl, (ALPost.err (by show _ = _; unfold addRuleM; rw [if_neg H8.o, if_neg HH.o, HRK.o, if_neg (show ¬ 1000 < rk from HB1.o), if_neg (show ¬ 6 < r.bin.1.text.size from by have := HB2.o; omega), if_neg HB3.o, HLO.o, HHI.o, if_neg (show ¬ ¬ lo <= hi from fun h => h (by have := HB4.o; omega)), HN1.o]; dsimp only; rw [HAM.o, if_neg (by have := HB5.o; have := HVA.o; have := HVB.o; simp; omega), hN])).2 ⟨rfl, (S12.o.fr.trans hf).below (by omega) (by simp)⟩⟩
   | ok curs =>
    obtain ⟨⟨v, rfl, hown⟩, hf⟩ := (NPost.ok hN).1 hT
    obtain ⟨s1, s2, s3, rfl⟩ := ownsRow_slice hown
    have HN2 := hid hN
    have R2 := hid (ownsRow_base hown S12.o.lt)
    have S13 := hid (S12.o.step hf)
    have R1w := hid (ownsRow_fr R1.o hf (by simp))
    clear R1
    have R1 := R1w
    clear R1w
    clear hf hT hN hown S12
    have n9 := block_cell S13.o.hn 9 _ rfl
    have n10 := block_cell S13.o.hn 10 _ rfl
    have n11 := block_cell S13.o.hn 11 _ rfl
    have nf := block_frozen S13.o.hn
    have e21 := block_cell S13.o.he 21 _ rfl
    have e22 := block_cell S13.o.he 22 _ rfl
    have e23 := block_cell S13.o.he 23 _ rfl
    go_wp2_with fail
    clear n9 n10 n11 nf e21 e22 e23
    have S14 := hid ((((S13.o.write 9 (.slice s1 s2 s3)).write 10 (.bool r.act.decline)).write 11 (.bool r.act.cheapest)))
    have R1w := hid ((ownsRow_wr (ownsRow_wr (ownsRow_wr R1.o 9 (.slice s1 s2 s3)) 10 (.bool r.act.decline)) 11 (.bool r.act.cheapest)))
    clear R1
    have R2w := hid ((ownsRow_wr (ownsRow_wr (ownsRow_wr R2.o 9 (.slice s1 s2 s3)) 10 (.bool r.act.decline)) 11 (.bool r.act.cheapest)))
    clear R2
    clear S13
    generalize (((w13.setCell ⟨w1.heap.size, 9, none⟩ (.slice s1 s2 s3)).setCell ⟨w1.heap.size, 10, none⟩ (.bool r.act.decline)).setCell ⟨w1.heap.size, 11, none⟩ (.bool r.act.cheapest)) = w14 at *
    have R1 := R1w
    clear R1w
    have R2 := R2w
    clear R2w
    refine (places_any _ B b0 (B + 1) _ _ r.act.routes rts (HK.o.fr S14.o.fr (by simp)).c0 (HK.o.fr S14.o.fr (by simp)).ro HK.o.r6 (ownsRow_fr HPR.o S14.o.fr (by simp)) HFM.o.2.2).mono ?_
    intro e w15 hT
    cases hN : plsFrom rts 0 r.act.routes with
    | error f =>
     obtain ⟨he, hf⟩ := (NPost.err hN).1 hT
     unfold faultE at he
     subst he
     exact ⟨rfl, (ALPost.err (by show _ = _; unfold addRuleM; rw [if_neg H8.o, if_neg HH.o, HRK.o, if_neg (show ¬ 1000 < rk from HB1.o), if_neg (show ¬ 6 < r.bin.1.text.size from by have := HB2.o; omega), if_neg HB3.o, HLO.o, HHI.o, if_neg (show ¬ ¬ lo <= hi from fun h => h (by have := HB4.o; omega)), HN1.o]; dsimp only; rw [HAM.o, if_neg (by have := HB5.o; have := HVA.o; have := HVB.o; simp; omega), HN2.o]; dsimp only; rw [hN])).2 ⟨rfl, (S14.o.fr.trans hf).below (by omega) (by simp)⟩⟩
    | ok ps =>
     obtain ⟨⟨v, rfl, hown⟩, hf⟩ := (NPost.ok hN).1 hT
     obtain ⟨t1, t2, t3, rfl⟩ := ownsRow_slice hown
     have HN3 := hid hN
     have R3 := hid (ownsRow_base hown S14.o.lt)
     have S15 := hid (S14.o.step hf)
     have R1w := hid (ownsRow_fr R1.o hf (by simp))
     clear R1
     have R1 := R1w
     clear R1w
     have R2w := hid (ownsRow_fr R2.o hf (by simp))
     clear R2
     have R2 := R2w
     clear R2w
     clear hf hT hN hown S14
     have HQ : Hid (addRuleM rts rls r = .ok ⟨r.name.text, rk, r.bin.1.text.size, lo, hi, mccs, some (al, ah), curs, r.act.decline, r.act.cheapest, ps, rts.length⟩) := by show _ = _; unfold addRuleM; rw [if_neg H8.o, if_neg HH.o, HRK.o, if_neg (show ¬ 1000 < rk from HB1.o), if_neg (show ¬ 6 < r.bin.1.text.size from by have := HB2.o; omega), if_neg HB3.o, HLO.o, HHI.o, if_neg (show ¬ ¬ lo <= hi from fun h => h (by have := HB4.o; omega)), HN1.o]; dsimp only; rw [HAM.o, if_neg (by have := HB5.o; have := HVA.o; have := HVB.o; simp; omega), HN2.o]; dsimp only; rw [HN3.o]; simp only [Option.map_some]; rw [HVA.o, HVB.o]
     have c0 := (HK.o.fr S15.o.fr (by simp)).c0
     have n12 := block_cell S15.o.hn 12 _ rfl
     have n13 := block_cell S15.o.hn 13 _ rfl
     have nf := block_frozen S15.o.hn
     go_wp2_with fail
     clear n12 n13 nf
     have S16 := hid (((S15.o.write 12 (.slice t1 t2 t3)).write 13 (.int .i64 rts.length)))
     have R1w := hid ((ownsRow_wr (ownsRow_wr R1.o 12 (.slice t1 t2 t3)) 13 (.int .i64 rts.length)))
     clear R1
     have R2w := hid ((ownsRow_wr (ownsRow_wr R2.o 12 (.slice t1 t2 t3)) 13 (.int .i64 rts.length)))
     clear R2
     have R3w := hid ((ownsRow_wr (ownsRow_wr R3.o 12 (.slice t1 t2 t3)) 13 (.int .i64 rts.length)))
     clear R3
     clear S15
     generalize ((w15.setCell ⟨w1.heap.size, 12, none⟩ (.slice t1 t2 t3)).setCell ⟨w1.heap.size, 13, none⟩ (.int .i64 rts.length)) = w16 at *
     have R1 := R1w
     clear R1w
     have R2 := R2w
     clear R2w
     have R3 := R3w
     clear R3w
     clear c0
     have HK7 := hid (HK.o.fr S16.o.fr (by simp))
     have HRU : Hid (RuV (B + 1) w16 ⟨r.name.text, rk, r.bin.1.text.size, lo, hi, mccs, some (al, ah), curs, r.act.decline, r.act.cheapest, ps, rts.length⟩ [.string r.name.text, .int .i64 rk, .int .i64 r.bin.1.text.size, .int .i64 lo, .int .i64 hi, .slice q1 q2 q3, .bool true, .int .i64 al, .int .i64 ah, .slice s1 s2 s3, .bool r.act.decline, .bool r.act.cheapest, .slice t1 t2 t3, .int .i64 rts.length]) := ⟨_, _, _, rfl, ownsRow_base R1.o (by omega), ownsRow_base R2.o (by omega), ownsRow_base R3.o (by omega)⟩
     have c1 := HK7.o.c1
     have hl8 := HK.o.l8
     have hB7 : B < w16.heap.size := World.block_lt_of_cell? w16 _ c1
     have HR7l : w1.heap.size < w16.heap.size := S16.o.lt
     refine wp_region_held_drew (S := fun w' => w'.heap[w1.heap.size]? = some (.cells #[.string r.name.text, .int .i64 rk, .int .i64 r.bin.1.text.size, .int .i64 lo, .int .i64 hi, .slice q1 q2 q3, .bool true, .int .i64 al, .int .i64 ah, .slice s1 s2 s3, .bool r.act.decline, .bool r.act.cheapest, .slice t1 t2 t3, .int .i64 rts.length] 108)) (by kernel_rfl) ?_ (fun hH => ?_)
     ·exact S16.o.hn
     refine htk 0 (v := ?v0) ?y0 hH ?r0
     case y0 =>
      intro w hw
      go_simp
      with_reducible rfl
     go_frame
     refine htk 1 (v := ?v1) ?y1 hH ?r1
     case y1 =>
      intro w hw
      go_simp
      with_reducible rfl
     go_frame
     refine htk 2 (v := ?v2) ?y2 hH ?r2
     case y2 =>
      intro w hw
      go_simp
      with_reducible rfl
     go_frame
     refine htk 3 (v := ?v3) ?y3 hH ?r3
     case y3 =>
      intro w hw
      go_simp
      with_reducible rfl
     go_frame
     refine htk 5 (v := ?v5) ?y5 hH ?r5
     case y5 =>
      intro w hw
      have g0 := block_cell hw 0 _ rfl
      have g1 := block_cell hw 1 _ rfl
      have g2 := block_cell hw 2 _ rfl
      have g3 := block_cell hw 3 _ rfl
      have g4 := block_cell hw 4 _ rfl
      have g5 := block_cell hw 5 _ rfl
      have g6 := block_cell hw 6 _ rfl
      have g7 := block_cell hw 7 _ rfl
      have g8 := block_cell hw 8 _ rfl
      have g9 := block_cell hw 9 _ rfl
      have g10 := block_cell hw 10 _ rfl
      have g11 := block_cell hw 11 _ rfl
      have g12 := block_cell hw 12 _ rfl
      have g13 := block_cell hw 13 _ rfl
      go_simp
      with_reducible rfl
     go_frame
     refine wpAnyH_ready (rs := [4, 6]) (by kernel_rfl) (by simp) ?_
     refine held_cons rfl (fun K hK => ?_) ?_
     ·rw [if_pos (by rfl)]
      go_simp
      refine hK.out _ _ hH (fun _ => ?_)
      clear hK K
      try go_frame
      refine wpAnyH_ready (rs := [6]) (by kernel_rfl) (by simp) ?_
      refine held_cons rfl (fun K hK => ?_) AllReadyH.nil
      rw [if_pos (by rfl)]
      go_simp
      refine hK.out _ _ ?_ (fun hH => ?_)
      ·exact ((Fr.refl (fun _ => False) _).alloc _).whole hH (by simp)
      clear hK K
      try go_frame
      refine wpAnyH_ready (rs := [7]) (by kernel_rfl) (by simp) ?_
      refine held_cons rfl (fun K hK => ?_) AllReadyH.nil
      refine step_append_lies _ rfl (.tmp 75) (.tmp 77) 57 rfl (B + 1) 108 ii _ 14 160 Tryz.underlying57 hi0 hz0 hz1 hz2 rfl (by decide) (.slice la rls.length lc) rls.length xs rfl ?h1 ⟨w16.heap.size, 0, none⟩ 1 1 [.string r.name.text, .int .i64 rk, .int .i64 r.bin.1.text.size, .int .i64 lo, .int .i64 hi, .slice q1 q2 q3, .bool true, .int .i64 al, .int .i64 ah, .slice s1 s2 s3, .bool r.act.decline, .bool r.act.cheapest, .slice t1 t2 t3, .int .i64 rts.length] rfl rfl ?h2 ?h3 (by decide) ?h4 ?h5 ?h6 _ rfl ?h7
      case h1 => exact (HK7.o.lo.alloc _).drew
      case h2 => exact World.news_of_block (heap_alloc_new w16 _)
      case h3 => simp [Value.oneCell']
      case h4 => unfold maxLen; omega
      case h5 => omega
      case h6 => simp; omega
      case h7 =>
       intro g2 cap2 w17 hown hgrow _ _
       have hal : Below w16.heap.size w16 (w16.alloc (.cells #[.string r.name.text, .int .i64 rk, .int .i64 r.bin.1.text.size, .int .i64 lo, .int .i64 hi, .slice q1 q2 q3, .bool true, .int .i64 al, .int .i64 ah, .slice s1 s2 s3, .bool r.act.decline, .bool r.act.cheapest, .slice t1 t2 t3, .int .i64 rts.length] 108)).drew := ((Below.refl _ _).alloc (Nat.le_refl _) _).drew
       have hbk := bk_appendL HK7.o HRU.o hal hgrow hown
       have d1 := hbk.1
       have df := hbk.2.1
       have HBK := hid (hbk.2.2 (by have := H8.o; omega))
       have hfar : some w1.heap.size ≠ (Value.slice la rls.length lc).ownBlock := fun e => by have := (HK.o.lo.lt _ e.symm).2; omega
       have hS17 : w17.heap[w1.heap.size]? = some (.cells #[.string r.name.text, .int .i64 rk, .int .i64 r.bin.1.text.size, .int .i64 lo, .int .i64 hi, .slice q1 q2 q3, .bool true, .int .i64 al, .int .i64 ah, .slice s1 s2 s3, .bool r.act.decline, .bool r.act.cheapest, .slice t1 t2 t3, .int .i64 rts.length] 108) := (hgrow.block _ (Nat.lt_of_lt_of_le HR7l hal.size) hfar).trans ((hal.block _ HR7l).trans S16.o.hn)
       clear hbk hgrow hown hal hfar
       refine hK.out _ _ hS17 (fun hH => ?_)
       clear hK K hS17
       go_frame
       refine htk 8 (v := ?v8A) ?y8A hH ?r8A
       case y8A =>
        intro w hw
        go_simp
        with_reducible rfl
       go_frame
       refine htk 9 (v := ?v9A) ?y9A hH ?r9A
       case y9A =>
        intro w hw
        go_simp
        with_reducible rfl
       go_frame
       refine wpAnyH_ready (rs := [10]) (by kernel_rfl) (by simp) ?_
       refine held_cons rfl (fun K hK => ?_) AllReadyH.nil
       rw [if_pos (by rfl)]
       go_simp
       refine hK.out _ _ ?_ (fun _ => ?_)
       ·exact ((Fr.refl (fun k => k = B) _).setCell (p := ⟨B, 1, none⟩) (Or.inl rfl) _).whole hH (by omega)
       clear hK K
       try go_frame
       refine wpAnyH_done (by kernel_rfl) ?_ _
       go_wp2
       go_end0
       exact (ALPost.ok HQ.o).2 ⟨rfl, ⟨_, _, HBK.o.1⟩, (S16.o.fr.below (by omega) (by simp)).trans HBK.o.2⟩
     ·refine held_cons rfl (fun K hK => ?_) AllReadyH.nil
      rw [if_pos (by rfl)]
      go_simp
      refine hK.out _ _ ?_ (fun hH => ?_)
      ·exact ((Fr.refl (fun _ => False) _).alloc _).whole hH (by simp)
      clear hK K
      try go_frame
      refine wpAnyH_ready (rs := [4]) (by kernel_rfl) (by simp) ?_
      refine held_cons rfl (fun K hK => ?_) AllReadyH.nil
      rw [if_pos (by rfl)]
      have c1' : (w16.alloc (.cells #[.string r.name.text, .int .i64 rk, .int .i64 r.bin.1.text.size, .int .i64 lo, .int .i64 hi, .slice q1 q2 q3, .bool true, .int .i64 al, .int .i64 ah, .slice s1 s2 s3, .bool r.act.decline, .bool r.act.cheapest, .slice t1 t2 t3, .int .i64 rts.length] 108)).cell? ⟨B, 1, none⟩ = some (.slice la rls.length lc) := by rw [World.cell?_alloc_some _ _ _ (by simp [c1])]; exact c1
      go_simp
      refine hK.out _ _ hH (fun _ => ?_)
      clear hK K c1'
      try go_frame
      refine wpAnyH_ready (rs := [7]) (by kernel_rfl) (by simp) ?_
      refine held_cons rfl (fun K hK => ?_) AllReadyH.nil
      refine step_append_lies _ rfl (.tmp 75) (.tmp 77) 57 rfl (B + 1) 108 ii _ 14 160 Tryz.underlying57 hi0 hz0 hz1 hz2 rfl (by decide) (.slice la rls.length lc) rls.length xs rfl ?h1 ⟨w16.heap.size, 0, none⟩ 1 1 [.string r.name.text, .int .i64 rk, .int .i64 r.bin.1.text.size, .int .i64 lo, .int .i64 hi, .slice q1 q2 q3, .bool true, .int .i64 al, .int .i64 ah, .slice s1 s2 s3, .bool r.act.decline, .bool r.act.cheapest, .slice t1 t2 t3, .int .i64 rts.length] rfl rfl ?h2 ?h3 (by decide) ?h4 ?h5 ?h6 _ rfl ?h7
      case h1 => exact (HK7.o.lo.alloc _).drew
      case h2 => exact World.news_of_block (heap_alloc_new w16 _)
      case h3 => simp [Value.oneCell']
      case h4 => unfold maxLen; omega
      case h5 => omega
      case h6 => simp; omega
      case h7 =>
       intro g2 cap2 w17 hown hgrow _ _
       have hal : Below w16.heap.size w16 (w16.alloc (.cells #[.string r.name.text, .int .i64 rk, .int .i64 r.bin.1.text.size, .int .i64 lo, .int .i64 hi, .slice q1 q2 q3, .bool true, .int .i64 al, .int .i64 ah, .slice s1 s2 s3, .bool r.act.decline, .bool r.act.cheapest, .slice t1 t2 t3, .int .i64 rts.length] 108)).drew := ((Below.refl _ _).alloc (Nat.le_refl _) _).drew
       have hbk := bk_appendL HK7.o HRU.o hal hgrow hown
       have d1 := hbk.1
       have df := hbk.2.1
       have HBK := hid (hbk.2.2 (by have := H8.o; omega))
       have hfar : some w1.heap.size ≠ (Value.slice la rls.length lc).ownBlock := fun e => by have := (HK.o.lo.lt _ e.symm).2; omega
       have hS17 : w17.heap[w1.heap.size]? = some (.cells #[.string r.name.text, .int .i64 rk, .int .i64 r.bin.1.text.size, .int .i64 lo, .int .i64 hi, .slice q1 q2 q3, .bool true, .int .i64 al, .int .i64 ah, .slice s1 s2 s3, .bool r.act.decline, .bool r.act.cheapest, .slice t1 t2 t3, .int .i64 rts.length] 108) := (hgrow.block _ (Nat.lt_of_lt_of_le HR7l hal.size) hfar).trans ((hal.block _ HR7l).trans S16.o.hn)
       clear hbk hgrow hown hal hfar
       refine hK.out _ _ hS17 (fun hH => ?_)
       clear hK K hS17
       go_frame
       refine htk 8 (v := ?v8B) ?y8B hH ?r8B
       case y8B =>
        intro w hw
        go_simp
        with_reducible rfl
       go_frame
       refine htk 9 (v := ?v9B) ?y9B hH ?r9B
       case y9B =>
        intro w hw
        go_simp
        with_reducible rfl
       go_frame
       refine wpAnyH_ready (rs := [10]) (by kernel_rfl) (by simp) ?_
       refine held_cons rfl (fun K hK => ?_) AllReadyH.nil
       rw [if_pos (by rfl)]
       go_simp
       refine hK.out _ _ ?_ (fun _ => ?_)
       ·exact ((Fr.refl (fun k => k = B) _).setCell (p := ⟨B, 1, none⟩) (Or.inl rfl) _).whole hH (by omega)
       clear hK K
       try go_frame
       refine wpAnyH_done (by kernel_rfl) ?_ _
       go_wp2
       go_end0
       exact (ALPost.ok HQ.o).2 ⟨rfl, ⟨_, _, HBK.o.1⟩, (S16.o.fr.below (by omega) (by simp)).trans HBK.o.2⟩
end Go.Proofs.YtccikgogjfbpeabGreatDoor
