/- The law: pick; still, where no list came out; a table's plain text. The law's world, where no list came out: its tables; compiles. -/
import Derived.Test.YtccikgogjfbpeaaGreatDoorZe
import Derived.Test.YtccikgogjfbpeaaGreatDoorZh
import Derived.Test.YtccikgogjfbpeaaGreatDoorQn
namespace Go.Proofs.YtccikgogjfbpeaaGreatDoor
open Go.RowKit

/-- Which of n things a raw number speaks of. -/
def pickM (c : Int) (n : Nat) : Nat := ((if c < 0 then -(c + 1) else c) % (n : Int)).toNat
theorem pickM_lt (c : Int) (n : Nat) (h : 0 < n) : pickM c n < n := by
 unfold pickM
 have h1 := Int.emod_nonneg (if c < 0 then -(c + 1) else c) (b := (n : Int)) (by omega)
 have h2 := Int.emod_lt_of_pos (if c < 0 then -(c + 1) else c) (b := (n : Int)) (by omega)
 omega
set_option maxRecDepth 30000 in
set_option maxHeartbeats 400000 in
theorem pick_any (c : Int) (n : Nat) (w : World) (h1 : -9223372036854775808 ≤ c) (h2 : c ≤ 9223372036854775807) (h0 : 0 < n) (hn : n ≤ 1000000) :
  Calls Tryz.prog 44 #[.int .i64 c, .int .i64 n] w fun e w' => e = .returned (.int .i64 (pickM c n)) ∧ w' = w := by
 have hi0 : (0 : Int) < (n : Int) := by omega
 have hin : (n : Int) ≤ 1000000 := by omega
 have hne : ((n : Int) == 0) = false := by simp; omega
 by_cases hc : c < 0
 ·have HM : Hid ((pickM c n : Int) = (-(c + 1)) % (n : Int)) := by
   show _ = _
   unfold pickM
   rw [if_pos hc, Int.toNat_of_nonneg (Int.emod_nonneg _ (by omega))]
  clear h0 hn
  go_enter Tryz.func44, Tryz.ntmps44
  go_wp2
  go_ret
  exact ⟨ret_int (by rw [HM.out, ← Int.neg_tmod, Int.tmod_eq_emod_of_nonneg (by omega)]), rfl⟩
 ·have HM : Hid ((pickM c n : Int) = c % (n : Int)) := by
   show _ = _
   unfold pickM
   rw [if_neg hc, Int.toNat_of_nonneg (Int.emod_nonneg _ (by omega))]
  have hc' : 0 ≤ c := by omega
  clear h0 hn
  go_enter Tryz.func44, Tryz.ntmps44
  go_wp2
  go_ret
  exact ⟨ret_int (by rw [HM.out]), rfl⟩

set_option maxRecDepth 30000 in
set_option maxHeartbeats 400000 in
theorem still_none (w : World) (L : Nat) (h2 : w.cell? ⟨L, 2, none⟩ = some (.slice none 0 0)) (h3 : w.cell? ⟨L, 3, none⟩ = some (.slice none 0 0)) :
  Calls Tryz.prog 29 #[.pointer (some ⟨L, 0, none⟩)] w fun e w' => e = .returned (.bool true) ∧ w' = w := by
 go_enter Tryz.func29, Tryz.ntmps29
 go_wp2
 go_loop [3] (fun i => i = .int .i64 0) (fun _ => 0)
 case atStart => rfl
 case round =>
  subst hrel
  go_wp2
  go_loop [5] (fun i => i = .int .i64 0) (fun _ => 0)
  case atStart => rfl
  case round =>
   subst hrel
   go_wp2
   go_ret
   exact ⟨rfl, rfl⟩

set_option maxRecDepth 30000 in
set_option maxHeartbeats 400000 in
theorem TText_any (w : World) (T Bb : Nat) (vr vl : Value) (rts : List RouteM) (rls : List RuleM) (xs : List Value) (hT : w.cell? ⟨T, 0, none⟩ = some (.pointer (some ⟨Bb, 0, none⟩))) (hk : Bk w Bb vr vl rts rls xs) (ho : BookOk rts rls) (ht : Tab w) :
  Calls Tryz.prog 17 #[.pointer (some ⟨T, 0, none⟩)] w fun e w' => e = .returned (.string (strB (bookJ rts rls))) ∧ Fr (fun _ => False) w w' := by
 have HC : Hid (Calls Tryz.prog 33 #[.pointer (some ⟨Bb, 0, none⟩)] w fun e w' => e = .returned (.string (strB (bookJ rts rls))) ∧ Fr (fun _ => False) w w') := Plain_any w Bb vr vl rts rls xs hk ho ht
 clear hk ho ht
 go_enter Tryz.func17, Tryz.ntmps17
 go_wp2_with fail
 refine HC.out.mono ?_
 rintro e w1 ⟨rfl, hf⟩
 have HF : Hid (Fr (fun _ => False) w w1) := hf
 clear hf hT
 go_wp2
 go_ret
 exact ⟨rfl, HF.out⟩
end Go.Proofs.YtccikgogjfbpeaaGreatDoor

namespace Go.Proofs.YtccikgogjfbpeaaGreatDoor
open Go.RowKit

theorem RulesAt.frS {w w' : World} {B q : Nat} {body : List Tk} {rts : List RouteM} {rls : List RuleM} {S : Nat → Prop} (h : RulesAt w B q body rts rls) (hf : Fr S w w') (hS : ∀ k, S k → k < B) : RulesAt w' B q body rts rls := by
 obtain ⟨⟨a, c, h1, h2⟩, hq, hb, ht, B2, vr, vl, xs, r0, r1, r2, r3, r4, r5⟩ := h
 have hn : ∀ k, B ≤ k → ¬ S k := fun k hk hs => by have := hS k hs; omega
 have h2S : ∀ k, S k → k < B2 := fun k hk => Nat.lt_of_lt_of_le (hS k hk) r0
 refine ⟨⟨a, c, (hf.cell (p := ⟨q, 0, none⟩) hq.2 (hn q hq.1)).trans h1, fun h0 => ?_⟩, ⟨hq.1, Nat.lt_of_lt_of_le hq.2 hf.size⟩, hb, ht, B2, vr, vl, xs, r0, (hf.cell (p := ⟨q, 1, none⟩) hq.2 (hn q hq.1)).trans r1, (hf.cell (p := ⟨q, 2, none⟩) hq.2 (hn q hq.1)).trans r2, ownsRow_fr r3 hf h2S, ownsRow_fr r4 hf h2S, RrVs.keep (fun v n ys hv => ownsRow_fr hv hf h2S) r5⟩
 obtain ⟨g, e, h3, h4, h5⟩ := h2 h0
 exact ⟨g, e, h3, Nat.lt_of_lt_of_le h4 hf.size, h5.fr hf h4 (hn g h3)⟩
theorem RulesAt.less {w : World} {B B' q : Nat} {body : List Tk} {rts : List RouteM} {rls : List RuleM} (h : RulesAt w B q body rts rls) (hB : B' ≤ B) : RulesAt w B' q body rts rls := by
 obtain ⟨⟨a, c, h1, h2⟩, hq, hb, ht, B2, vr, vl, xs, r0, r1, r2, r3, r4, r5⟩ := h
 refine ⟨⟨a, c, h1, fun h0 => ?_⟩, ⟨Nat.le_trans hB hq.1, hq.2⟩, hb, ht, B2, vr, vl, xs, Nat.le_trans hB r0, r1, r2, r3, r4, r5⟩
 obtain ⟨g, e, h3, h4, h5⟩ := h2 h0
 exact ⟨g, e, Nat.le_trans hB h3, h4, h5⟩

/-- A table of the law's in block X, from a on: the program's, and the document's, of the same rules. -/
def TabAt (w : World) (a X : Nat) : Prop :=
 ∃ T q Bb TT vr vl rts rls xs body, a ≤ X ∧ w.heap[X]? = some (.cells #[.pointer (some ⟨T, 0, none⟩), .pointer (some ⟨q, 0, none⟩), .bool false, .bool false, .slice none 0 0, .slice none 0 0] 97) ∧
  a ≤ T ∧ w.cell? ⟨T, 0, none⟩ = some (.pointer (some ⟨Bb, 0, none⟩)) ∧ w.cell? ⟨T, 1, none⟩ = some (.pointer (some ⟨TT, 0, none⟩)) ∧ a ≤ Bb ∧ Bk w Bb vr vl rts rls xs ∧ TreeAt a w TT vr rls (stageF (rankF rls) rls.length) ∧ BookOk rts rls ∧ RulesAt w a q body rts rls
theorem TabAt.fr {w w' : World} {a X : Nat} {S : Nat → Prop} (h : TabAt w a X) (hf : Fr S w w') (hS : ∀ k, S k → k < a) : TabAt w' a X := by
 obtain ⟨T, q, Bb, TT, vr, vl, rts, rls, xs, body, h1, h2, h3, h4, k4, h5, h6, k6, h7, h8⟩ := h
 have hn : ∀ k, a ≤ k → ¬ S k := fun k hk hs => by have := hS k hs; omega
 exact ⟨T, q, Bb, TT, vr, vl, rts, rls, xs, body, h1, hf.whole h2 (hn X h1), h3, (hf.cell (p := ⟨T, 0, none⟩) (World.block_lt_of_cell? w _ h4) (hn T h3)).trans h4, (hf.cell (p := ⟨T, 1, none⟩) (World.block_lt_of_cell? w _ k4) (hn T h3)).trans k4, h5, h6.fr hf (fun k hk => Nat.lt_of_lt_of_le (hS k hk) h5), k6.fr hf hS, h7, h8.frS hf hS⟩
/-- An element of the law's row of tables: as it was when it was made, nothing of it has turned. -/
def LEnt (w : World) (L : Nat) (v x : Value) : Prop :=
 ∃ w0 a X, x = .pointer (some ⟨X, 0, none⟩) ∧ L < a ∧ TabAt w0 a X ∧ Fr (fun k => k < a) w0 w ∧ ∀ g, v.ownBlock = some g → g < a ∨ w0.heap.size ≤ g
structure LSt (w : World) (L : Nat) (v : Value) (xs : List Value) : Prop where
 c0 : w.cell? ⟨L, 0, none⟩ = some v
 c2 : w.cell? ⟨L, 2, none⟩ = some (.slice none 0 0)
 c3 : w.cell? ⟨L, 3, none⟩ = some (.slice none 0 0)
 fz : ∀ o, w.frozen? ⟨L, o, none⟩ = false
 own : w.ownsRow (L + 1) 93 1 v xs.length xs
 few : xs.length ≤ 20
 en : ∀ x, x ∈ xs → LEnt w L v x
theorem LEnt.fr {w w' : World} {L : Nat} {v x : Value} {S : Nat → Prop} (h : LEnt w L v x) (hf : Fr S w w') (hS : ∀ k, S k → k = L ∨ v.ownBlock = some k) : LEnt w' L v x := by
 obtain ⟨w0, a, X, h1, h2, h3, h4, h5⟩ := h
 refine ⟨w0, a, X, h1, h2, h3, h4.monoNew hf (fun k hk => ?_), h5⟩
 rcases hS k hk with e | e
 ·exact Or.inl (by omega)
 ·exact h5 k e
theorem LSt.fr {w w' : World} {L : Nat} {v : Value} {xs : List Value} (h : LSt w L v xs) (hf : Fr (fun _ => False) w w') : LSt w' L v xs := by
 have hl : L < w.heap.size := World.block_lt_of_cell? w _ h.c0
 exact ⟨(hf.cell (p := ⟨L, 0, none⟩) hl (by simp)).trans h.c0, (hf.cell (p := ⟨L, 2, none⟩) hl (by simp)).trans h.c2, (hf.cell (p := ⟨L, 3, none⟩) hl (by simp)).trans h.c3, fun o => (hf.frozen (p := ⟨L, o, none⟩) hl (by simp)).trans (h.fz o), ownsRow_fr h.own hf (by simp), h.few, fun x hx => (h.en x hx).fr hf (by simp)⟩
/-- One table more. -/
theorem LSt.more {w w0 w5 : World} {L a X g cap : Nat} {v : Value} {xs : List Value} (h : LSt w L v xs) (h0 : Fr (fun _ => False) w w0) (hL : L < a) (hv : ∀ k, v.ownBlock = some k → k < a) (ht : TabAt w0 a X) (o : Obj)
  (hg : (w0.alloc o).grownBy w5 v.ownBlock) (ho : w5.ownsRow (L + 1) 93 1 (.slice (some ⟨g, 0, none⟩) (xs.length + 1) cap) (xs.length + 1) (xs ++ [.pointer (some ⟨X, 0, none⟩)])) (hw : v.ownBlock = some g ∨ g = (w0.alloc o).heap.size) (h20 : xs.length < 20) :
  w5.cell? ⟨L, 0, none⟩ = some v ∧ (∀ o, w5.frozen? ⟨L, o, none⟩ = false) ∧ LSt (w5.setCell ⟨L, 0, none⟩ (.slice (some ⟨g, 0, none⟩) (xs.length + 1) cap)) L (.slice (some ⟨g, 0, none⟩) (xs.length + 1) cap) (xs ++ [.pointer (some ⟨X, 0, none⟩)]) ∧
   Fr (fun k => L ≤ k) w (w5.setCell ⟨L, 0, none⟩ (.slice (some ⟨g, 0, none⟩) (xs.length + 1) cap)) := by
 have hl : L < w.heap.size := World.block_lt_of_cell? w _ h.c0
 have hvL : ∀ k, v.ownBlock = some k → L + 1 ≤ k := fun k hk => (h.own.lt k hk).1
 have hF0 : Fr (fun k => v.ownBlock = some k) w0 w5 := ((Fr.refl _ w0).alloc o).grown hg (fun k hk => Or.inl hk)
 have hF : Fr (fun k => v.ownBlock = some k) w w5 := (h0.mono (by simp)).trans hF0
 have hn : ¬ v.ownBlock = some L := fun e => by have := hvL L e; omega
 have e0 := (hF.cell (p := ⟨L, 0, none⟩) hl hn).trans h.c0
 have e2 := (hF.cell (p := ⟨L, 2, none⟩) hl hn).trans h.c2
 have e3 := (hF.cell (p := ⟨L, 3, none⟩) hl hn).trans h.c3
 have ef : ∀ o, w5.frozen? ⟨L, o, none⟩ = false := fun o => (hF.frozen (p := ⟨L, o, none⟩) hl hn).trans (h.fz o)
 have hS : Fr (fun k => k = L) w5 (w5.setCell ⟨L, 0, none⟩ (.slice (some ⟨g, 0, none⟩) (xs.length + 1) cap)) := (Fr.refl (fun k => k = L) w5).setCell (p := ⟨L, 0, none⟩) (Or.inl rfl) _
 have hz : w.heap.size ≤ w0.heap.size := h0.size
 have hgo : ∀ k, (Value.slice (some ⟨g, 0, none⟩) (xs.length + 1) cap).ownBlock = some k → k = g := fun k hk => by simpa [Value.ownBlock] using hk.symm
 have hza : (w0.alloc o).heap.size = w0.heap.size + 1 := by simp
 refine ⟨e0, ef, ⟨World.cell?_setCell_same _ _ _ e0, ?_, ?_, fun o => by simp [ef o], ?_, by simp; omega, fun x hx => ?_⟩, ?_⟩
 ·rw [World.cell?_setCell_other _ _ _ _ (by simp)]; exact e2
 ·rw [World.cell?_setCell_other _ _ _ _ (by simp)]; exact e3
 ·rw [List.length_append]
  exact ownsRow_setCell_below ho (by simp) _
 ·rcases List.mem_append.1 hx with hx | hx
  ·obtain ⟨w0', a', X', h1, h2, h3, h4, h5⟩ := h.en x hx
   refine ⟨w0', a', X', h1, h2, h3, (h4.monoNew hF (fun k hk => h5 k hk)).monoNew hS (fun k hk => Or.inl (by omega)), fun k hk => ?_⟩
   have := hgo k hk
   subst this
   rcases hw with e | e
   ·exact h5 _ e
   ·exact Or.inr (by have := h4.size; omega)
  ·simp at hx
   refine ⟨w0, a, X, hx, hL, ht, ((Fr.refl _ w0).monoNew hF0 (fun k hk => Or.inl (hv k hk))).monoNew hS (fun k hk => Or.inl (by omega)), fun k hk => ?_⟩
   have := hgo k hk
   subst this
   rcases hw with e | e
   ·exact Or.inl (hv _ e)
   ·exact Or.inr (by omega)
 ·exact (hF.mono (fun k hk => by have := hvL k hk; omega)).trans (hS.mono (fun k e => by omega))
theorem Tryz.infoPltable : (Tryz.prog.info? 93).map (fun i => (i.zero, i.size, i.bytes)) = some (some (.pointer none), 1, 8) := by kernel_rfl

set_option maxRecDepth 30000 in
set_option maxHeartbeats 4000000 in
theorem compiles_any (w : World) (L : Nat) (v : Value) (xs : List Value) (s : ByteArray) (h : LSt w L v xs) :
  Calls Tryz.prog 25 #[.pointer (some ⟨L, 0, none⟩), .string s] w fun e w' => e = .returned (.bool true) ∧ (∃ v' xs', LSt w' L v' xs') ∧ Fr (fun k => L ≤ k) w w' := by
 have HL : Hid (LSt w L v xs) := h
 obtain ⟨ii, hi, hz0, hz1, hz2⟩ := info_parts Tryz.infoPltable
 clear h
 go_enter Tryz.func25, Tryz.ntmps25
 go_wp2_with fail
 refine (Compile_any s w).mono ?_
 intro e w1 hT
 have HN : Hid (Calls Tryz.prog 43 #[.string s] w1 (NwPost (readM s) w1)) := New_any s w1
 cases hR : readM s with
 | error f =>
  rw [hR] at HN
  obtain ⟨rfl, hf⟩ := (CPost.err hR).1 hT
  have HF : Hid (Fr (fun _ => False) w w1) := Fr.of_below hf
  clear hT hf hR
  obtain ⟨f1, f2⟩ := f
  as_aux_lemma =>
  go_wp2_with fail
  refine HN.out.mono ?_
  intro e w2 hT
  obtain ⟨rfl, hf⟩ := (NwPost.err rfl).1 hT
  have HF2 : Hid (Fr (fun _ => False) w w2) := HF.out.trans hf
  clear hT hf
  go_wp2
  go_ret
  exact ⟨rfl, ⟨v, xs, HL.out.fr HF2.out⟩, HF2.out.mono (by simp)⟩
 | ok p =>
  rw [hR] at HN
  have HBO : Hid (BookOk p.1 p.2) := readM_book hR
  obtain ⟨⟨T, Bb, TT, vr, vl, ys, rfl, hTb, hTc, hTc1, hBb, hBk, hTr⟩, hf⟩ := (CPost.ok hR).1 hT
  have HF : Hid (Fr (fun _ => False) w w1) := Fr.of_below hf
  have HTB : Hid (w.heap.size ≤ T ∧ w1.cell? ⟨T, 0, none⟩ = some (.pointer (some ⟨Bb, 0, none⟩)) ∧ w.heap.size ≤ Bb ∧ Bk w1 Bb vr vl p.1 p.2 ys) := ⟨hTb, hTc, hBb, hBk⟩
  have HTR : Hid (w1.cell? ⟨T, 1, none⟩ = some (.pointer (some ⟨TT, 0, none⟩)) ∧ TreeAt w.heap.size w1 TT vr p.2 (stageF (rankF p.2) p.2.length)) := ⟨hTc1, hTr⟩
  clear hT hf hR hTb hTc hBb hBk hTc1 hTr
  as_aux_lemma =>
  go_wp2_with fail
  refine HN.out.mono ?_
  intro e w2 hT
  obtain ⟨⟨q, body, rfl, hq⟩, hf⟩ := (NwPost.ok rfl).1 hT
  have HF2 : Hid (Fr (fun _ => False) w w2) := HF.out.trans hf
  have HQ : Hid (RulesAt w2 w.heap.size q body p.1 p.2) := hq.less HF.out.size
  have HTB2 : Hid (w2.cell? ⟨T, 0, none⟩ = some (.pointer (some ⟨Bb, 0, none⟩)) ∧ Bk w2 Bb vr vl p.1 p.2 ys) := ⟨(hf.cell (p := ⟨T, 0, none⟩) (World.block_lt_of_cell? w1 _ HTB.out.2.1) (by simp)).trans HTB.out.2.1, HTB.out.2.2.2.fr hf (by simp)⟩
  have HTR2 : Hid (w2.cell? ⟨T, 1, none⟩ = some (.pointer (some ⟨TT, 0, none⟩)) ∧ TreeAt w.heap.size w2 TT vr p.2 (stageF (rankF p.2) p.2.length)) := ⟨(hf.cell (p := ⟨T, 1, none⟩) (World.block_lt_of_cell? w1 _ HTR.out.1) (by simp)).trans HTR.out.1, HTR.out.2.fr hf (by simp)⟩
  have HL2 : Hid (LSt w2 L v xs) := HL.out.fr HF2.out
  clear hT hf hq
  obtain ⟨va, vc, hv⟩ := ownsRow_len HL2.out.own
  subst hv
  have c0 := HL2.out.c0
  have fz := HL2.out.fz
  obtain ⟨n, hn⟩ : ∃ n, xs.length = n := ⟨_, rfl⟩
  have HN : Hid (xs.length = n) := hn
  rw [hn] at c0 HL2
  have hn20 : n ≤ 20 := by have := HL2.out.few; omega
  clear hn
  have HVB : Hid (∀ k, (Value.slice va n vc).ownBlock = some k → k < w.heap.size) := fun k hk => by have e := HL.out.own; rw [HN.out] at e; exact (e.lt k hk).2
  have HLW : Hid (L < w.heap.size) := World.block_lt_of_cell? w _ HL.out.c0
  by_cases hlt : n < 20
  ·have hlt' : (n : Int) < 20 := by omega
   have hLs : L + 1 ≤ w2.heap.size := by have := HLW.out; have := HF2.out.size; omega
   as_aux_lemma =>
   go_wp2_with (at_builtin; refine wpList_append_lies _ rfl (.tmp 52) (.tmp 57) 53 rfl (L + 1) 93 ii _ 1 8 Tryz.underlying53 hi hz0 hz1 hz2 rfl (by decide) (.slice va n vc) n xs rfl ?h1 ⟨w2.heap.size + 1, 0, none⟩ 1 1 [.pointer (some ⟨w2.heap.size, 0, none⟩)] rfl rfl ?h2 ?h3 (by decide) ?h4 ?h5 ?h6 _ rfl ?h7)
   case h1 => have e := HL2.out.own; rw [HN.out] at e; exact (e.alloc _).alloc _
   case h2 => exact World.news_of_block (by have e := heap_alloc_new (w2.alloc (.cells #[.pointer (some ⟨T, 0, none⟩), .pointer (some ⟨q, 0, none⟩), .bool false, .bool false, .slice none 0 0, .slice none 0 0] 97)) (.cells #[.pointer (some ⟨w2.heap.size, 0, none⟩)] 93); simpa using e)
   case h3 => simp [Value.oneCell']
   case h4 => unfold maxLen; omega
   case h5 => omega
   case h6 => simp; omega
   case h7 =>
    intro g2 cap2 w8 hown hgrow hor _
    have hL2 := HL2.out
    have hTab : TabAt (w2.alloc (.cells #[.pointer (some ⟨T, 0, none⟩), .pointer (some ⟨q, 0, none⟩), .bool false, .bool false, .slice none 0 0, .slice none 0 0] 97)) w.heap.size w2.heap.size := by
     have hf : Fr (fun _ => False) w2 (w2.alloc (.cells #[.pointer (some ⟨T, 0, none⟩), .pointer (some ⟨q, 0, none⟩), .bool false, .bool false, .slice none 0 0, .slice none 0 0] 97)) := (Fr.refl _ _).alloc _
     exact ⟨T, q, Bb, TT, vr, vl, p.1, p.2, ys, body, HF2.out.size, heap_alloc_new w2 _, HTB.out.1, (hf.cell (p := ⟨T, 0, none⟩) (World.block_lt_of_cell? w2 _ HTB2.out.1) (by simp)).trans HTB2.out.1, (hf.cell (p := ⟨T, 1, none⟩) (World.block_lt_of_cell? w2 _ HTR2.out.1) (by simp)).trans HTR2.out.1, HTB.out.2.2.1, HTB2.out.2.fr hf (by simp), HTR2.out.2.fr hf (by simp), HBO.out, HQ.out.fr hf⟩
    have hn := HN.out
    subst hn
    obtain ⟨e1, ef, hfin⟩ := hL2.more (w0 := w2.alloc (.cells #[.pointer (some ⟨T, 0, none⟩), .pointer (some ⟨q, 0, none⟩), .bool false, .bool false, .slice none 0 0, .slice none 0 0] 97)) (a := w.heap.size) ((Fr.refl _ _).alloc _) HLW.out HVB.out hTab _ hgrow hown (by rcases hor with h | h; exact Or.inl h; exact Or.inr (by rw [h]; simp)) hlt
    have HFIN : Hid (LSt (w8.setCell ⟨L, 0, none⟩ (.slice (some ⟨g2, 0, none⟩) (xs.length + 1) cap2)) L (.slice (some ⟨g2, 0, none⟩) (xs.length + 1) cap2) (xs ++ [.pointer (some ⟨w2.heap.size, 0, none⟩)]) ∧ Fr (fun k => L ≤ k) w2 (w8.setCell ⟨L, 0, none⟩ (.slice (some ⟨g2, 0, none⟩) (xs.length + 1) cap2))) := hfin
    clear hfin hgrow hown hTab hL2 hor c0 fz
    go_wp2
    go_ret
    exact ⟨rfl, ⟨_, _, HFIN.out.1⟩, (HF2.out.mono (by simp)).trans HFIN.out.2⟩
  ·have hlt' : ¬ (n : Int) < 20 := by omega
   as_aux_lemma =>
   go_wp2
   go_ret
   exact ⟨rfl, ⟨_, _, HL2.out⟩, HF2.out.mono (by simp)⟩
end Go.Proofs.YtccikgogjfbpeaaGreatDoor
