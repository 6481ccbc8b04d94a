/- Regions: areaOf, walked: its drawn region by states. (Laid by wip/genarea.py.) -/
import Derived.Test.YtccikgogjfbpeaaGreatDoorYHa
import Derived.Test.YtccikgogjfbpeaaGreatDoorYMb
namespace Go.Proofs.YtccikgogjfbpeaaGreatDoor
open Go.RowKit
def regOps (n : Nat) : Code → Option (List Oper)
 | .region i ops _ => if i = n then some ops.toList else none
 | .seq a b => match regOps n a with
  | some l => some l
  | none => regOps n b
 | _ => none
def aOps (f : Func) : List Oper := (f.body.bind (regOps 1)).getD []
def SpO (w0 w : World) (v : Value) (l : List SpM) : Prop := w.ownsRow w0.heap.size 118 2 v l.length (spRow l)
theorem SpO.fr {w0 w w' : World} {v : Value} {l : List SpM} (h : SpO w0 w v l) (hf : Fr (fun _ => False) w w') : SpO w0 w' v l := ownsRow_fr h hf (by simp)
theorem SpO.one {w0 w : World} (c : SpM) (h : w0.heap.size ≤ w.heap.size) : SpO w0 (w.alloc (.cells #[.int .i64 (c.1 : Nat), .int .i64 (c.2 : Nat)] 118)) (.slice (some ⟨w.heap.size, 0, none⟩) 1 1) [c] := ownsRow_base (own_sp1 w c.1 c.2) h
theorem SpO.set {w0 w : World} {v : Value} {l : List SpM} {b3 k : Nat} {cs : Array Value} {u : Value} (h : SpO w0 w v l) (hb : w.heap[b3]? = some (.cells cs 215)) : SpO w0 (w.setCell ⟨b3, k, none⟩ u) v l := by
 obtain ⟨h1, h2⟩ := h
 refine ⟨h1, ?_⟩
 rcases h2 with h2 | ⟨g, cap, cur, e, hb', hg, r⟩
 ·exact Or.inl h2
 ·refine Or.inr ⟨g, cap, cur, e, hb', ?_, r⟩
  have hne : g ≠ b3 := by
   rintro rfl
   rw [hb] at hg
   simp at hg
  exact ((Fr.refl (fun k => k = b3) w).setCell (p := ⟨b3, k, none⟩) (Or.inl rfl) u).whole hg hne
structure ArCx (w0 : World) (S : World → Prop) (v0 vm vc : Value) (c : SpM) (l9 l14 : List SpM) : Prop where
 s : ∀ W, Fr (fun _ => False) w0 W → S W
 f5 : ∀ W, Fr (fun _ => False) w0 W → Calls Tryz.prog 173 #[v0] W fun e w' => e = .returned (.agg #[.int .i64 (c.1 : Nat), .int .i64 (c.2 : Nat)]) ∧ Fr (fun _ => False) W w'
 f9 : ∀ W, Fr (fun _ => False) w0 W → Calls Tryz.prog 174 #[vm, .int .i64 9999] W fun e w' => (∃ v, e = .returned v ∧ SpO w0 w' v l9) ∧ Fr (fun _ => False) W w'
 f14 : ∀ W, Fr (fun _ => False) w0 W → Calls Tryz.prog 174 #[vc, .int .i64 999] W fun e w' => (∃ v, e = .returned v ∧ SpO w0 w' v l14) ∧ Fr (fun _ => False) W w'
set_option maxRecDepth 30000 in
set_option maxHeartbeats 2000000 in
theorem arE {Q : Exit → Act → World → Prop} {w0 w : World} {S : World → Prop} {v0 vm vc p r p5 p9 : Value} {c : SpM} {l9 l14 : List SpM} (HC : Hid (ArCx w0 S v0 vm vc c l9 l14)) (HQ : Hid ((∀ c a d v w, Q (.panic c) (Act.put a d v) w → Q (.panic c) a w) ∧ ∀ b3 x6 x9 x11 x14 w, w0.heap.size ≤ b3 → w.heap[b3]? = some (.cells #[x6, x9, x11, x14] 215) → SpO w0 w x6 [c] → SpO w0 w x9 l9 → SpO w0 w x11 [(0, 1000000000)] → SpO w0 w x14 l14 → Fr (fun _ => False) w0 w → Q .normal ⟨#[v0, p, r, (.pointer (some ⟨b3, 0, none⟩)), v0, .agg #[.int .i64 (c.1 : Nat), .int .i64 (c.2 : Nat)], x6, p5, vm, x9, .agg #[.int .i64 0, .int .i64 1000000000], x11, p9, vc, x14, (.agg #[x6, x9, x11, x14]), undef, undef, undef, undef, undef, undef, undef], []⟩ w)) (HF : Hid (Fr (fun _ => False) w0 w)) (x6 : Value) (H6 : Hid (SpO w0 w x6 [c])) (x9 : Value) (H9 : Hid (SpO w0 w x9 l9)) (x11 : Value) (H11 : Hid (SpO w0 w x11 [(0, 1000000000)])) (x14 : Value) (H14 : Hid (SpO w0 w x14 l14)) (b3 : Nat) (H3 : Hid (w0.heap.size ≤ b3 ∧ w.heap[b3]? = some (.cells #[.slice none 0 0, .slice none 0 0, .slice none 0 0, .slice none 0 0] 215))) (L : Array Bool) (hL : L = #[true, true, true, true, true, true, true, true, true, true, true, true, true, false]) (a : Act) (ha : a = ⟨#[v0, p, r, (.pointer (some ⟨b3, 0, none⟩)), v0, .agg #[.int .i64 (c.1 : Nat), .int .i64 (c.2 : Nat)], x6, p5, vm, x9, .agg #[.int .i64 0, .int .i64 1000000000], x11, p9, vc, x14, (.agg #[x6, x9, x11, x14]), undef, undef, undef, undef, undef, undef, undef], []⟩) :
  wpAnyH Tryz.prog .any (aOps Tryz.f114).toArray Q S 1 L a w := by
 subst hL ha
 obtain ⟨a6, k6, e6⟩ := ownsRow_len H6.out
 obtain ⟨a9, k9, e9⟩ := ownsRow_len H9.out
 obtain ⟨a11, k11, e11⟩ := ownsRow_len H11.out
 obtain ⟨a14, k14, e14⟩ := ownsRow_len H14.out
 subst e6 e9 e11 e14
 have g0 := block_cell H3.out.2 0 _ rfl
 have g1 := block_cell H3.out.2 1 _ rfl
 have g2 := block_cell H3.out.2 2 _ rfl
 have g3 := block_cell H3.out.2 3 _ rfl
 have z0 := block_frozen H3.out.2 0
 have z1 := block_frozen H3.out.2 1
 have z2 := block_frozen H3.out.2 2
 have z3 := block_frozen H3.out.2 3
 refine wpAnyH_ready (rs := [13]) (by kernel_rfl) (by simp) ?_
 refine held_cons rfl (fun K2 hK => ?_) AllReadyH.nil
 try rw [if_pos (by rfl)]
 go_simp
 have e1 := heap_setCell_same w b3 0 _ _ (.slice a6 [c].length k6) H3.out.2
 have e2 := heap_setCell_same _ b3 1 _ _ (.slice a9 l9.length k9) e1
 have e3 := heap_setCell_same _ b3 2 _ _ (.slice a11 [((0, 1000000000) : SpM)].length k11) e2
 have e4 := heap_setCell_same _ b3 3 _ _ (.slice a14 l14.length k14) e3
 have hf := (((HF.out.setCell (p := ⟨b3, 0, none⟩) (Or.inr H3.out.1) (.slice a6 [c].length k6)).setCell (p := ⟨b3, 1, none⟩) (Or.inr H3.out.1) (.slice a9 l9.length k9)).setCell (p := ⟨b3, 2, none⟩) (Or.inr H3.out.1) (.slice a11 [((0, 1000000000) : SpM)].length k11)).setCell (p := ⟨b3, 3, none⟩) (Or.inr H3.out.1) (.slice a14 l14.length k14)
 refine hK.out _ _ (HC.out.s _ hf) (fun _ => ?_)
 refine wpAnyH_done (by kernel_rfl) ?_ _
 refine HQ.out.2 b3 _ _ _ _ _ H3.out.1 e4 ?_ ?_ ?_ ?_ hf
 ·exact (((H6.out.set H3.out.2).set e1).set e2).set e3
 ·exact (((H9.out.set H3.out.2).set e1).set e2).set e3
 ·exact (((H11.out.set H3.out.2).set e1).set e2).set e3
 ·exact (((H14.out.set H3.out.2).set e1).set e2).set e3
set_option maxRecDepth 30000 in
set_option maxHeartbeats 2000000 in
theorem arS_1_2_5_7_10_12 {Q : Exit → Act → World → Prop} {w0 w : World} {S : World → Prop} {v0 vm vc p r p5 p9 : Value} {c : SpM} {l9 l14 : List SpM} (HC : Hid (ArCx w0 S v0 vm vc c l9 l14)) (HQ : Hid ((∀ c a d v w, Q (.panic c) (Act.put a d v) w → Q (.panic c) a w) ∧ ∀ b3 x6 x9 x11 x14 w, w0.heap.size ≤ b3 → w.heap[b3]? = some (.cells #[x6, x9, x11, x14] 215) → SpO w0 w x6 [c] → SpO w0 w x9 l9 → SpO w0 w x11 [(0, 1000000000)] → SpO w0 w x14 l14 → Fr (fun _ => False) w0 w → Q .normal ⟨#[v0, p, r, (.pointer (some ⟨b3, 0, none⟩)), v0, .agg #[.int .i64 (c.1 : Nat), .int .i64 (c.2 : Nat)], x6, p5, vm, x9, .agg #[.int .i64 0, .int .i64 1000000000], x11, p9, vc, x14, (.agg #[x6, x9, x11, x14]), undef, undef, undef, undef, undef, undef, undef], []⟩ w)) (HF : Hid (Fr (fun _ => False) w0 w)) (x6 : Value) (H6 : Hid (SpO w0 w x6 [c])) (x9 : Value) (H9 : Hid (SpO w0 w x9 l9)) (x11 : Value) (H11 : Hid (SpO w0 w x11 [(0, 1000000000)])) (x14 : Value) (H14 : Hid (SpO w0 w x14 l14)) (b3 : Nat) (H3 : Hid (w0.heap.size ≤ b3 ∧ w.heap[b3]? = some (.cells #[.slice none 0 0, .slice none 0 0, .slice none 0 0, .slice none 0 0] 215))) (L : Array Bool) (hL : L = #[true, true, true, true, true, true, true, true, true, true, true, false, true, false]) (a : Act) (ha : a = ⟨#[v0, p, r, (.pointer (some ⟨b3, 0, none⟩)), v0, .agg #[.int .i64 (c.1 : Nat), .int .i64 (c.2 : Nat)], x6, p5, vm, x9, .agg #[.int .i64 0, .int .i64 1000000000], x11, p9, vc, x14, undef, undef, undef, undef, undef, undef, undef, undef], []⟩) :
  wpAnyH Tryz.prog .any (aOps Tryz.f114).toArray Q S 2 L a w := by
 subst hL ha
 obtain ⟨a6, k6, e6⟩ := ownsRow_len H6.out
 obtain ⟨a9, k9, e9⟩ := ownsRow_len H9.out
 obtain ⟨a11, k11, e11⟩ := ownsRow_len H11.out
 obtain ⟨a14, k14, e14⟩ := ownsRow_len H14.out
 subst e6 e9 e11 e14
 have hH := HC.out.s _ HF.out
 refine held_take 11 (v := ?v) rfl (by kernel_rfl) (by kernel_rfl) (by kernel_rfl) (fun c a w h => HQ.out.1 c a _ _ w h) rfl ?y hH ?r
 case y => rintro w s0; go_simp; with_reducible rfl
 try go_frame
 exact arE HC HQ HF _ H6 _ H9 _ H11 _ H14 b3 H3 _ rfl _ rfl
set_option maxRecDepth 30000 in
set_option maxHeartbeats 2000000 in
theorem arS_1_2_5_7_12 {Q : Exit → Act → World → Prop} {w0 w : World} {S : World → Prop} {v0 vm vc p r p5 p9 : Value} {c : SpM} {l9 l14 : List SpM} (HC : Hid (ArCx w0 S v0 vm vc c l9 l14)) (HQ : Hid ((∀ c a d v w, Q (.panic c) (Act.put a d v) w → Q (.panic c) a w) ∧ ∀ b3 x6 x9 x11 x14 w, w0.heap.size ≤ b3 → w.heap[b3]? = some (.cells #[x6, x9, x11, x14] 215) → SpO w0 w x6 [c] → SpO w0 w x9 l9 → SpO w0 w x11 [(0, 1000000000)] → SpO w0 w x14 l14 → Fr (fun _ => False) w0 w → Q .normal ⟨#[v0, p, r, (.pointer (some ⟨b3, 0, none⟩)), v0, .agg #[.int .i64 (c.1 : Nat), .int .i64 (c.2 : Nat)], x6, p5, vm, x9, .agg #[.int .i64 0, .int .i64 1000000000], x11, p9, vc, x14, (.agg #[x6, x9, x11, x14]), undef, undef, undef, undef, undef, undef, undef], []⟩ w)) (HF : Hid (Fr (fun _ => False) w0 w)) (x6 : Value) (H6 : Hid (SpO w0 w x6 [c])) (x9 : Value) (H9 : Hid (SpO w0 w x9 l9)) (x11 : Value) (H11 : Hid (SpO w0 w x11 [(0, 1000000000)])) (b3 : Nat) (H3 : Hid (w0.heap.size ≤ b3 ∧ w.heap[b3]? = some (.cells #[.slice none 0 0, .slice none 0 0, .slice none 0 0, .slice none 0 0] 215))) (L : Array Bool) (hL : L = #[true, true, true, true, true, true, true, true, true, true, false, false, true, false]) (a : Act) (ha : a = ⟨#[v0, p, r, (.pointer (some ⟨b3, 0, none⟩)), v0, .agg #[.int .i64 (c.1 : Nat), .int .i64 (c.2 : Nat)], x6, p5, vm, x9, .agg #[.int .i64 0, .int .i64 1000000000], x11, p9, vc, undef, undef, undef, undef, undef, undef, undef, undef, undef], []⟩) :
  wpAnyH Tryz.prog .any (aOps Tryz.f114).toArray Q S 3 L a w := by
 subst hL ha
 refine wpAnyH_ready (rs := [10]) (by kernel_rfl) (by simp) ?_
 refine held_cons rfl (fun K2 hK => ?p10) AllReadyH.nil
 case p10 =>
  try rw [if_pos (by rfl)]
  go_simp
  refine (HC.out.f14 _ HF.out).mono ?_
  rintro e w5 ⟨⟨v, rfl, hv⟩, hf⟩
  refine hK.out _ _ (HC.out.s _ (HF.out.trans hf)) (fun _ => ?_)
  exact arS_1_2_5_7_10_12 HC HQ (hid (HF.out.trans hf)) x6 (hid (H6.out.fr hf)) x9 (hid (H9.out.fr hf)) x11 (hid (H11.out.fr hf)) v (hid hv) b3 (hid ⟨H3.out.1, hf.whole H3.out.2 (by simp)⟩) _ rfl _ rfl
set_option maxRecDepth 30000 in
set_option maxHeartbeats 2000000 in
theorem arS_1_5_7_10_12 {Q : Exit → Act → World → Prop} {w0 w : World} {S : World → Prop} {v0 vm vc p r p5 p9 : Value} {c : SpM} {l9 l14 : List SpM} (HC : Hid (ArCx w0 S v0 vm vc c l9 l14)) (HQ : Hid ((∀ c a d v w, Q (.panic c) (Act.put a d v) w → Q (.panic c) a w) ∧ ∀ b3 x6 x9 x11 x14 w, w0.heap.size ≤ b3 → w.heap[b3]? = some (.cells #[x6, x9, x11, x14] 215) → SpO w0 w x6 [c] → SpO w0 w x9 l9 → SpO w0 w x11 [(0, 1000000000)] → SpO w0 w x14 l14 → Fr (fun _ => False) w0 w → Q .normal ⟨#[v0, p, r, (.pointer (some ⟨b3, 0, none⟩)), v0, .agg #[.int .i64 (c.1 : Nat), .int .i64 (c.2 : Nat)], x6, p5, vm, x9, .agg #[.int .i64 0, .int .i64 1000000000], x11, p9, vc, x14, (.agg #[x6, x9, x11, x14]), undef, undef, undef, undef, undef, undef, undef], []⟩ w)) (HF : Hid (Fr (fun _ => False) w0 w)) (x9 : Value) (H9 : Hid (SpO w0 w x9 l9)) (x11 : Value) (H11 : Hid (SpO w0 w x11 [(0, 1000000000)])) (x14 : Value) (H14 : Hid (SpO w0 w x14 l14)) (b3 : Nat) (H3 : Hid (w0.heap.size ≤ b3 ∧ w.heap[b3]? = some (.cells #[.slice none 0 0, .slice none 0 0, .slice none 0 0, .slice none 0 0] 215))) (L : Array Bool) (hL : L = #[true, true, false, true, true, true, true, true, true, true, true, false, true, false]) (a : Act) (ha : a = ⟨#[v0, p, r, (.pointer (some ⟨b3, 0, none⟩)), v0, .agg #[.int .i64 (c.1 : Nat), .int .i64 (c.2 : Nat)], undef, p5, vm, x9, .agg #[.int .i64 0, .int .i64 1000000000], x11, p9, vc, x14, undef, undef, undef, undef, undef, undef, undef, undef], []⟩) :
  wpAnyH Tryz.prog .any (aOps Tryz.f114).toArray Q S 3 L a w := by
 subst hL ha
 refine wpAnyH_ready (rs := [2]) (by kernel_rfl) (by simp) ?_
 refine held_cons rfl (fun K2 hK => ?p2) AllReadyH.nil
 case p2 =>
  try rw [if_pos (by rfl)]
  go_simp
  have hf : Fr (fun _ => False) w (w.alloc (.cells #[.int .i64 (c.1 : Nat), .int .i64 (c.2 : Nat)] 118)) := (Fr.refl _ _).alloc _
  refine hK.out _ _ (HC.out.s _ (HF.out.trans hf)) (fun _ => ?_)
  exact arS_1_2_5_7_10_12 HC HQ (hid (HF.out.trans hf)) _ (hid (SpO.one c HF.out.size)) x9 (hid (H9.out.fr hf)) x11 (hid (H11.out.fr hf)) x14 (hid (H14.out.fr hf)) b3 (hid ⟨H3.out.1, hf.whole H3.out.2 (by simp)⟩) _ rfl _ rfl
set_option maxRecDepth 30000 in
set_option maxHeartbeats 2000000 in
theorem arS_1_2_5_7_10 {Q : Exit → Act → World → Prop} {w0 w : World} {S : World → Prop} {v0 vm vc p r p5 p9 : Value} {c : SpM} {l9 l14 : List SpM} (HC : Hid (ArCx w0 S v0 vm vc c l9 l14)) (HQ : Hid ((∀ c a d v w, Q (.panic c) (Act.put a d v) w → Q (.panic c) a w) ∧ ∀ b3 x6 x9 x11 x14 w, w0.heap.size ≤ b3 → w.heap[b3]? = some (.cells #[x6, x9, x11, x14] 215) → SpO w0 w x6 [c] → SpO w0 w x9 l9 → SpO w0 w x11 [(0, 1000000000)] → SpO w0 w x14 l14 → Fr (fun _ => False) w0 w → Q .normal ⟨#[v0, p, r, (.pointer (some ⟨b3, 0, none⟩)), v0, .agg #[.int .i64 (c.1 : Nat), .int .i64 (c.2 : Nat)], x6, p5, vm, x9, .agg #[.int .i64 0, .int .i64 1000000000], x11, p9, vc, x14, (.agg #[x6, x9, x11, x14]), undef, undef, undef, undef, undef, undef, undef], []⟩ w)) (HF : Hid (Fr (fun _ => False) w0 w)) (x6 : Value) (H6 : Hid (SpO w0 w x6 [c])) (x9 : Value) (H9 : Hid (SpO w0 w x9 l9)) (x11 : Value) (H11 : Hid (SpO w0 w x11 [(0, 1000000000)])) (x14 : Value) (H14 : Hid (SpO w0 w x14 l14)) (L : Array Bool) (hL : L = #[true, true, true, true, true, true, true, true, true, true, true, false, false, false]) (a : Act) (ha : a = ⟨#[v0, p, r, undef, v0, .agg #[.int .i64 (c.1 : Nat), .int .i64 (c.2 : Nat)], x6, p5, vm, x9, .agg #[.int .i64 0, .int .i64 1000000000], x11, p9, vc, x14, undef, undef, undef, undef, undef, undef, undef, undef], []⟩) :
  wpAnyH Tryz.prog .any (aOps Tryz.f114).toArray Q S 3 L a w := by
 subst hL ha
 obtain ⟨a6, k6, e6⟩ := ownsRow_len H6.out
 obtain ⟨a9, k9, e9⟩ := ownsRow_len H9.out
 obtain ⟨a11, k11, e11⟩ := ownsRow_len H11.out
 obtain ⟨a14, k14, e14⟩ := ownsRow_len H14.out
 subst e6 e9 e11 e14
 have hH := HC.out.s _ HF.out
 refine held_take 11 (v := ?v) rfl (by kernel_rfl) (by kernel_rfl) (by kernel_rfl) (fun c a w h => HQ.out.1 c a _ _ w h) rfl ?y hH ?r
 case y => rintro w s0; go_simp; with_reducible rfl
 try go_frame
 refine wpAnyH_ready (rs := [12]) (by kernel_rfl) (by simp) ?_
 refine held_cons rfl (fun K2 hK => ?_) AllReadyH.nil
 try rw [if_pos (by rfl)]
 go_simp
 have hf : Fr (fun _ => False) w (w.alloc (.cells #[.slice none 0 0, .slice none 0 0, .slice none 0 0, .slice none 0 0] 215)) := (Fr.refl _ _).alloc _
 refine hK.out _ _ (HC.out.s _ (HF.out.trans hf)) (fun _ => ?_)
 exact arE HC HQ (hid (HF.out.trans hf)) _ (hid (H6.out.fr hf)) _ (hid (H9.out.fr hf)) _ (hid (H11.out.fr hf)) _ (hid (H14.out.fr hf)) _ (hid ⟨HF.out.size, heap_alloc_new w _⟩) _ rfl _ rfl
set_option maxRecDepth 30000 in
set_option maxHeartbeats 2000000 in
theorem arS_1_2_5_10_12 {Q : Exit → Act → World → Prop} {w0 w : World} {S : World → Prop} {v0 vm vc p r p5 p9 : Value} {c : SpM} {l9 l14 : List SpM} (HC : Hid (ArCx w0 S v0 vm vc c l9 l14)) (HQ : Hid ((∀ c a d v w, Q (.panic c) (Act.put a d v) w → Q (.panic c) a w) ∧ ∀ b3 x6 x9 x11 x14 w, w0.heap.size ≤ b3 → w.heap[b3]? = some (.cells #[x6, x9, x11, x14] 215) → SpO w0 w x6 [c] → SpO w0 w x9 l9 → SpO w0 w x11 [(0, 1000000000)] → SpO w0 w x14 l14 → Fr (fun _ => False) w0 w → Q .normal ⟨#[v0, p, r, (.pointer (some ⟨b3, 0, none⟩)), v0, .agg #[.int .i64 (c.1 : Nat), .int .i64 (c.2 : Nat)], x6, p5, vm, x9, .agg #[.int .i64 0, .int .i64 1000000000], x11, p9, vc, x14, (.agg #[x6, x9, x11, x14]), undef, undef, undef, undef, undef, undef, undef], []⟩ w)) (HF : Hid (Fr (fun _ => False) w0 w)) (x6 : Value) (H6 : Hid (SpO w0 w x6 [c])) (x9 : Value) (H9 : Hid (SpO w0 w x9 l9)) (x14 : Value) (H14 : Hid (SpO w0 w x14 l14)) (b3 : Nat) (H3 : Hid (w0.heap.size ≤ b3 ∧ w.heap[b3]? = some (.cells #[.slice none 0 0, .slice none 0 0, .slice none 0 0, .slice none 0 0] 215))) (L : Array Bool) (hL : L = #[true, true, true, true, true, true, true, false, true, true, true, false, true, false]) (a : Act) (ha : a = ⟨#[v0, p, r, (.pointer (some ⟨b3, 0, none⟩)), v0, .agg #[.int .i64 (c.1 : Nat), .int .i64 (c.2 : Nat)], x6, p5, vm, x9, .agg #[.int .i64 0, .int .i64 1000000000], undef, p9, vc, x14, undef, undef, undef, undef, undef, undef, undef, undef], []⟩) :
  wpAnyH Tryz.prog .any (aOps Tryz.f114).toArray Q S 3 L a w := by
 subst hL ha
 refine wpAnyH_ready (rs := [7]) (by kernel_rfl) (by simp) ?_
 refine held_cons rfl (fun K2 hK => ?p7) AllReadyH.nil
 case p7 =>
  try rw [if_pos (by rfl)]
  go_simp
  have hf : Fr (fun _ => False) w (w.alloc (.cells #[.int .i64 (((0, 1000000000) : SpM).1 : Nat), .int .i64 (((0, 1000000000) : SpM).2 : Nat)] 118)) := (Fr.refl _ _).alloc _
  refine hK.out _ _ (HC.out.s _ (HF.out.trans hf)) (fun _ => ?_)
  exact arS_1_2_5_7_10_12 HC HQ (hid (HF.out.trans hf)) x6 (hid (H6.out.fr hf)) x9 (hid (H9.out.fr hf)) _ (hid (SpO.one ((0, 1000000000) : SpM) HF.out.size)) x14 (hid (H14.out.fr hf)) b3 (hid ⟨H3.out.1, hf.whole H3.out.2 (by simp)⟩) _ rfl _ rfl
set_option maxRecDepth 30000 in
set_option maxHeartbeats 2000000 in
theorem arS_1_2_7_12 {Q : Exit → Act → World → Prop} {w0 w : World} {S : World → Prop} {v0 vm vc p r p5 p9 : Value} {c : SpM} {l9 l14 : List SpM} (HC : Hid (ArCx w0 S v0 vm vc c l9 l14)) (HQ : Hid ((∀ c a d v w, Q (.panic c) (Act.put a d v) w → Q (.panic c) a w) ∧ ∀ b3 x6 x9 x11 x14 w, w0.heap.size ≤ b3 → w.heap[b3]? = some (.cells #[x6, x9, x11, x14] 215) → SpO w0 w x6 [c] → SpO w0 w x9 l9 → SpO w0 w x11 [(0, 1000000000)] → SpO w0 w x14 l14 → Fr (fun _ => False) w0 w → Q .normal ⟨#[v0, p, r, (.pointer (some ⟨b3, 0, none⟩)), v0, .agg #[.int .i64 (c.1 : Nat), .int .i64 (c.2 : Nat)], x6, p5, vm, x9, .agg #[.int .i64 0, .int .i64 1000000000], x11, p9, vc, x14, (.agg #[x6, x9, x11, x14]), undef, undef, undef, undef, undef, undef, undef], []⟩ w)) (HF : Hid (Fr (fun _ => False) w0 w)) (x6 : Value) (H6 : Hid (SpO w0 w x6 [c])) (x11 : Value) (H11 : Hid (SpO w0 w x11 [(0, 1000000000)])) (b3 : Nat) (H3 : Hid (w0.heap.size ≤ b3 ∧ w.heap[b3]? = some (.cells #[.slice none 0 0, .slice none 0 0, .slice none 0 0, .slice none 0 0] 215))) (L : Array Bool) (hL : L = #[true, true, true, true, true, false, true, true, true, true, false, false, true, false]) (a : Act) (ha : a = ⟨#[v0, p, r, (.pointer (some ⟨b3, 0, none⟩)), v0, .agg #[.int .i64 (c.1 : Nat), .int .i64 (c.2 : Nat)], x6, p5, vm, undef, .agg #[.int .i64 0, .int .i64 1000000000], x11, p9, vc, undef, undef, undef, undef, undef, undef, undef, undef, undef], []⟩) :
  wpAnyH Tryz.prog .any (aOps Tryz.f114).toArray Q S 4 L a w := by
 subst hL ha
 refine wpAnyH_ready (rs := [5]) (by kernel_rfl) (by simp) ?_
 refine held_cons rfl (fun K2 hK => ?p5) AllReadyH.nil
 case p5 =>
  try rw [if_pos (by rfl)]
  go_simp
  refine (HC.out.f9 _ HF.out).mono ?_
  rintro e w5 ⟨⟨v, rfl, hv⟩, hf⟩
  refine hK.out _ _ (HC.out.s _ (HF.out.trans hf)) (fun _ => ?_)
  exact arS_1_2_5_7_12 HC HQ (hid (HF.out.trans hf)) x6 (hid (H6.out.fr hf)) v (hid hv) x11 (hid (H11.out.fr hf)) b3 (hid ⟨H3.out.1, hf.whole H3.out.2 (by simp)⟩) _ rfl _ rfl
set_option maxRecDepth 30000 in
set_option maxHeartbeats 2000000 in
theorem arS_1_5_7_12 {Q : Exit → Act → World → Prop} {w0 w : World} {S : World → Prop} {v0 vm vc p r p5 p9 : Value} {c : SpM} {l9 l14 : List SpM} (HC : Hid (ArCx w0 S v0 vm vc c l9 l14)) (HQ : Hid ((∀ c a d v w, Q (.panic c) (Act.put a d v) w → Q (.panic c) a w) ∧ ∀ b3 x6 x9 x11 x14 w, w0.heap.size ≤ b3 → w.heap[b3]? = some (.cells #[x6, x9, x11, x14] 215) → SpO w0 w x6 [c] → SpO w0 w x9 l9 → SpO w0 w x11 [(0, 1000000000)] → SpO w0 w x14 l14 → Fr (fun _ => False) w0 w → Q .normal ⟨#[v0, p, r, (.pointer (some ⟨b3, 0, none⟩)), v0, .agg #[.int .i64 (c.1 : Nat), .int .i64 (c.2 : Nat)], x6, p5, vm, x9, .agg #[.int .i64 0, .int .i64 1000000000], x11, p9, vc, x14, (.agg #[x6, x9, x11, x14]), undef, undef, undef, undef, undef, undef, undef], []⟩ w)) (HF : Hid (Fr (fun _ => False) w0 w)) (x9 : Value) (H9 : Hid (SpO w0 w x9 l9)) (x11 : Value) (H11 : Hid (SpO w0 w x11 [(0, 1000000000)])) (b3 : Nat) (H3 : Hid (w0.heap.size ≤ b3 ∧ w.heap[b3]? = some (.cells #[.slice none 0 0, .slice none 0 0, .slice none 0 0, .slice none 0 0] 215))) (L : Array Bool) (hL : L = #[true, true, false, true, true, true, true, true, true, true, false, false, true, false]) (a : Act) (ha : a = ⟨#[v0, p, r, (.pointer (some ⟨b3, 0, none⟩)), v0, .agg #[.int .i64 (c.1 : Nat), .int .i64 (c.2 : Nat)], undef, p5, vm, x9, .agg #[.int .i64 0, .int .i64 1000000000], x11, p9, vc, undef, undef, undef, undef, undef, undef, undef, undef, undef], []⟩) :
  wpAnyH Tryz.prog .any (aOps Tryz.f114).toArray Q S 4 L a w := by
 subst hL ha
 refine wpAnyH_ready (rs := [2, 10]) (by kernel_rfl) (by simp) ?_
 refine held_cons rfl (fun K2 hK => ?p2) (held_cons rfl (fun K2 hK => ?p10) AllReadyH.nil)
 case p2 =>
  try rw [if_pos (by rfl)]
  go_simp
  have hf : Fr (fun _ => False) w (w.alloc (.cells #[.int .i64 (c.1 : Nat), .int .i64 (c.2 : Nat)] 118)) := (Fr.refl _ _).alloc _
  refine hK.out _ _ (HC.out.s _ (HF.out.trans hf)) (fun _ => ?_)
  exact arS_1_2_5_7_12 HC HQ (hid (HF.out.trans hf)) _ (hid (SpO.one c HF.out.size)) x9 (hid (H9.out.fr hf)) x11 (hid (H11.out.fr hf)) b3 (hid ⟨H3.out.1, hf.whole H3.out.2 (by simp)⟩) _ rfl _ rfl
 case p10 =>
  try rw [if_pos (by rfl)]
  go_simp
  refine (HC.out.f14 _ HF.out).mono ?_
  rintro e w5 ⟨⟨v, rfl, hv⟩, hf⟩
  refine hK.out _ _ (HC.out.s _ (HF.out.trans hf)) (fun _ => ?_)
  exact arS_1_5_7_10_12 HC HQ (hid (HF.out.trans hf)) x9 (hid (H9.out.fr hf)) x11 (hid (H11.out.fr hf)) v (hid hv) b3 (hid ⟨H3.out.1, hf.whole H3.out.2 (by simp)⟩) _ rfl _ rfl
set_option maxRecDepth 30000 in
set_option maxHeartbeats 2000000 in
theorem arS_1_2_5_7 {Q : Exit → Act → World → Prop} {w0 w : World} {S : World → Prop} {v0 vm vc p r p5 p9 : Value} {c : SpM} {l9 l14 : List SpM} (HC : Hid (ArCx w0 S v0 vm vc c l9 l14)) (HQ : Hid ((∀ c a d v w, Q (.panic c) (Act.put a d v) w → Q (.panic c) a w) ∧ ∀ b3 x6 x9 x11 x14 w, w0.heap.size ≤ b3 → w.heap[b3]? = some (.cells #[x6, x9, x11, x14] 215) → SpO w0 w x6 [c] → SpO w0 w x9 l9 → SpO w0 w x11 [(0, 1000000000)] → SpO w0 w x14 l14 → Fr (fun _ => False) w0 w → Q .normal ⟨#[v0, p, r, (.pointer (some ⟨b3, 0, none⟩)), v0, .agg #[.int .i64 (c.1 : Nat), .int .i64 (c.2 : Nat)], x6, p5, vm, x9, .agg #[.int .i64 0, .int .i64 1000000000], x11, p9, vc, x14, (.agg #[x6, x9, x11, x14]), undef, undef, undef, undef, undef, undef, undef], []⟩ w)) (HF : Hid (Fr (fun _ => False) w0 w)) (x6 : Value) (H6 : Hid (SpO w0 w x6 [c])) (x9 : Value) (H9 : Hid (SpO w0 w x9 l9)) (x11 : Value) (H11 : Hid (SpO w0 w x11 [(0, 1000000000)])) (L : Array Bool) (hL : L = #[true, true, true, true, true, true, true, true, true, true, false, false, false, false]) (a : Act) (ha : a = ⟨#[v0, p, r, undef, v0, .agg #[.int .i64 (c.1 : Nat), .int .i64 (c.2 : Nat)], x6, p5, vm, x9, .agg #[.int .i64 0, .int .i64 1000000000], x11, p9, vc, undef, undef, undef, undef, undef, undef, undef, undef, undef], []⟩) :
  wpAnyH Tryz.prog .any (aOps Tryz.f114).toArray Q S 4 L a w := by
 subst hL ha
 refine wpAnyH_ready (rs := [10, 12]) (by kernel_rfl) (by simp) ?_
 refine held_cons rfl (fun K2 hK => ?p10) (held_cons rfl (fun K2 hK => ?p12) AllReadyH.nil)
 case p10 =>
  try rw [if_pos (by rfl)]
  go_simp
  refine (HC.out.f14 _ HF.out).mono ?_
  rintro e w5 ⟨⟨v, rfl, hv⟩, hf⟩
  refine hK.out _ _ (HC.out.s _ (HF.out.trans hf)) (fun _ => ?_)
  exact arS_1_2_5_7_10 HC HQ (hid (HF.out.trans hf)) x6 (hid (H6.out.fr hf)) x9 (hid (H9.out.fr hf)) x11 (hid (H11.out.fr hf)) v (hid hv) _ rfl _ rfl
 case p12 =>
  try rw [if_pos (by rfl)]
  go_simp
  have hf : Fr (fun _ => False) w (w.alloc (.cells #[.slice none 0 0, .slice none 0 0, .slice none 0 0, .slice none 0 0] 215)) := (Fr.refl _ _).alloc _
  refine hK.out _ _ (HC.out.s _ (HF.out.trans hf)) (fun _ => ?_)
  exact arS_1_2_5_7_12 HC HQ (hid (HF.out.trans hf)) x6 (hid (H6.out.fr hf)) x9 (hid (H9.out.fr hf)) x11 (hid (H11.out.fr hf)) _ (hid ⟨HF.out.size, heap_alloc_new w _⟩) _ rfl _ rfl
set_option maxRecDepth 30000 in
set_option maxHeartbeats 2000000 in
theorem arS_1_2_5_12 {Q : Exit → Act → World → Prop} {w0 w : World} {S : World → Prop} {v0 vm vc p r p5 p9 : Value} {c : SpM} {l9 l14 : List SpM} (HC : Hid (ArCx w0 S v0 vm vc c l9 l14)) (HQ : Hid ((∀ c a d v w, Q (.panic c) (Act.put a d v) w → Q (.panic c) a w) ∧ ∀ b3 x6 x9 x11 x14 w, w0.heap.size ≤ b3 → w.heap[b3]? = some (.cells #[x6, x9, x11, x14] 215) → SpO w0 w x6 [c] → SpO w0 w x9 l9 → SpO w0 w x11 [(0, 1000000000)] → SpO w0 w x14 l14 → Fr (fun _ => False) w0 w → Q .normal ⟨#[v0, p, r, (.pointer (some ⟨b3, 0, none⟩)), v0, .agg #[.int .i64 (c.1 : Nat), .int .i64 (c.2 : Nat)], x6, p5, vm, x9, .agg #[.int .i64 0, .int .i64 1000000000], x11, p9, vc, x14, (.agg #[x6, x9, x11, x14]), undef, undef, undef, undef, undef, undef, undef], []⟩ w)) (HF : Hid (Fr (fun _ => False) w0 w)) (x6 : Value) (H6 : Hid (SpO w0 w x6 [c])) (x9 : Value) (H9 : Hid (SpO w0 w x9 l9)) (b3 : Nat) (H3 : Hid (w0.heap.size ≤ b3 ∧ w.heap[b3]? = some (.cells #[.slice none 0 0, .slice none 0 0, .slice none 0 0, .slice none 0 0] 215))) (L : Array Bool) (hL : L = #[true, true, true, true, true, true, true, false, true, true, false, false, true, false]) (a : Act) (ha : a = ⟨#[v0, p, r, (.pointer (some ⟨b3, 0, none⟩)), v0, .agg #[.int .i64 (c.1 : Nat), .int .i64 (c.2 : Nat)], x6, p5, vm, x9, .agg #[.int .i64 0, .int .i64 1000000000], undef, p9, vc, undef, undef, undef, undef, undef, undef, undef, undef, undef], []⟩) :
  wpAnyH Tryz.prog .any (aOps Tryz.f114).toArray Q S 4 L a w := by
 subst hL ha
 refine wpAnyH_ready (rs := [7, 10]) (by kernel_rfl) (by simp) ?_
 refine held_cons rfl (fun K2 hK => ?p7) (held_cons rfl (fun K2 hK => ?p10) AllReadyH.nil)
 case p7 =>
  try rw [if_pos (by rfl)]
  go_simp
  have hf : Fr (fun _ => False) w (w.alloc (.cells #[.int .i64 (((0, 1000000000) : SpM).1 : Nat), .int .i64 (((0, 1000000000) : SpM).2 : Nat)] 118)) := (Fr.refl _ _).alloc _
  refine hK.out _ _ (HC.out.s _ (HF.out.trans hf)) (fun _ => ?_)
  exact arS_1_2_5_7_12 HC HQ (hid (HF.out.trans hf)) x6 (hid (H6.out.fr hf)) x9 (hid (H9.out.fr hf)) _ (hid (SpO.one ((0, 1000000000) : SpM) HF.out.size)) b3 (hid ⟨H3.out.1, hf.whole H3.out.2 (by simp)⟩) _ rfl _ rfl
 case p10 =>
  try rw [if_pos (by rfl)]
  go_simp
  refine (HC.out.f14 _ HF.out).mono ?_
  rintro e w5 ⟨⟨v, rfl, hv⟩, hf⟩
  refine hK.out _ _ (HC.out.s _ (HF.out.trans hf)) (fun _ => ?_)
  exact arS_1_2_5_10_12 HC HQ (hid (HF.out.trans hf)) x6 (hid (H6.out.fr hf)) x9 (hid (H9.out.fr hf)) v (hid hv) b3 (hid ⟨H3.out.1, hf.whole H3.out.2 (by simp)⟩) _ rfl _ rfl
set_option maxRecDepth 30000 in
set_option maxHeartbeats 2000000 in
theorem arS_1_5_7_10 {Q : Exit → Act → World → Prop} {w0 w : World} {S : World → Prop} {v0 vm vc p r p5 p9 : Value} {c : SpM} {l9 l14 : List SpM} (HC : Hid (ArCx w0 S v0 vm vc c l9 l14)) (HQ : Hid ((∀ c a d v w, Q (.panic c) (Act.put a d v) w → Q (.panic c) a w) ∧ ∀ b3 x6 x9 x11 x14 w, w0.heap.size ≤ b3 → w.heap[b3]? = some (.cells #[x6, x9, x11, x14] 215) → SpO w0 w x6 [c] → SpO w0 w x9 l9 → SpO w0 w x11 [(0, 1000000000)] → SpO w0 w x14 l14 → Fr (fun _ => False) w0 w → Q .normal ⟨#[v0, p, r, (.pointer (some ⟨b3, 0, none⟩)), v0, .agg #[.int .i64 (c.1 : Nat), .int .i64 (c.2 : Nat)], x6, p5, vm, x9, .agg #[.int .i64 0, .int .i64 1000000000], x11, p9, vc, x14, (.agg #[x6, x9, x11, x14]), undef, undef, undef, undef, undef, undef, undef], []⟩ w)) (HF : Hid (Fr (fun _ => False) w0 w)) (x9 : Value) (H9 : Hid (SpO w0 w x9 l9)) (x11 : Value) (H11 : Hid (SpO w0 w x11 [(0, 1000000000)])) (x14 : Value) (H14 : Hid (SpO w0 w x14 l14)) (L : Array Bool) (hL : L = #[true, true, false, true, true, true, true, true, true, true, true, false, false, false]) (a : Act) (ha : a = ⟨#[v0, p, r, undef, v0, .agg #[.int .i64 (c.1 : Nat), .int .i64 (c.2 : Nat)], undef, p5, vm, x9, .agg #[.int .i64 0, .int .i64 1000000000], x11, p9, vc, x14, undef, undef, undef, undef, undef, undef, undef, undef], []⟩) :
  wpAnyH Tryz.prog .any (aOps Tryz.f114).toArray Q S 4 L a w := by
 subst hL ha
 refine wpAnyH_ready (rs := [2, 12]) (by kernel_rfl) (by simp) ?_
 refine held_cons rfl (fun K2 hK => ?p2) (held_cons rfl (fun K2 hK => ?p12) AllReadyH.nil)
 case p2 =>
  try rw [if_pos (by rfl)]
  go_simp
  have hf : Fr (fun _ => False) w (w.alloc (.cells #[.int .i64 (c.1 : Nat), .int .i64 (c.2 : Nat)] 118)) := (Fr.refl _ _).alloc _
  refine hK.out _ _ (HC.out.s _ (HF.out.trans hf)) (fun _ => ?_)
  exact arS_1_2_5_7_10 HC HQ (hid (HF.out.trans hf)) _ (hid (SpO.one c HF.out.size)) x9 (hid (H9.out.fr hf)) x11 (hid (H11.out.fr hf)) x14 (hid (H14.out.fr hf)) _ rfl _ rfl
 case p12 =>
  try rw [if_pos (by rfl)]
  go_simp
  have hf : Fr (fun _ => False) w (w.alloc (.cells #[.slice none 0 0, .slice none 0 0, .slice none 0 0, .slice none 0 0] 215)) := (Fr.refl _ _).alloc _
  refine hK.out _ _ (HC.out.s _ (HF.out.trans hf)) (fun _ => ?_)
  exact arS_1_5_7_10_12 HC HQ (hid (HF.out.trans hf)) x9 (hid (H9.out.fr hf)) x11 (hid (H11.out.fr hf)) x14 (hid (H14.out.fr hf)) _ (hid ⟨HF.out.size, heap_alloc_new w _⟩) _ rfl _ rfl
set_option maxRecDepth 30000 in
set_option maxHeartbeats 2000000 in
theorem arS_1_5_10_12 {Q : Exit → Act → World → Prop} {w0 w : World} {S : World → Prop} {v0 vm vc p r p5 p9 : Value} {c : SpM} {l9 l14 : List SpM} (HC : Hid (ArCx w0 S v0 vm vc c l9 l14)) (HQ : Hid ((∀ c a d v w, Q (.panic c) (Act.put a d v) w → Q (.panic c) a w) ∧ ∀ b3 x6 x9 x11 x14 w, w0.heap.size ≤ b3 → w.heap[b3]? = some (.cells #[x6, x9, x11, x14] 215) → SpO w0 w x6 [c] → SpO w0 w x9 l9 → SpO w0 w x11 [(0, 1000000000)] → SpO w0 w x14 l14 → Fr (fun _ => False) w0 w → Q .normal ⟨#[v0, p, r, (.pointer (some ⟨b3, 0, none⟩)), v0, .agg #[.int .i64 (c.1 : Nat), .int .i64 (c.2 : Nat)], x6, p5, vm, x9, .agg #[.int .i64 0, .int .i64 1000000000], x11, p9, vc, x14, (.agg #[x6, x9, x11, x14]), undef, undef, undef, undef, undef, undef, undef], []⟩ w)) (HF : Hid (Fr (fun _ => False) w0 w)) (x9 : Value) (H9 : Hid (SpO w0 w x9 l9)) (x14 : Value) (H14 : Hid (SpO w0 w x14 l14)) (b3 : Nat) (H3 : Hid (w0.heap.size ≤ b3 ∧ w.heap[b3]? = some (.cells #[.slice none 0 0, .slice none 0 0, .slice none 0 0, .slice none 0 0] 215))) (L : Array Bool) (hL : L = #[true, true, false, true, true, true, true, false, true, true, true, false, true, false]) (a : Act) (ha : a = ⟨#[v0, p, r, (.pointer (some ⟨b3, 0, none⟩)), v0, .agg #[.int .i64 (c.1 : Nat), .int .i64 (c.2 : Nat)], undef, p5, vm, x9, .agg #[.int .i64 0, .int .i64 1000000000], undef, p9, vc, x14, undef, undef, undef, undef, undef, undef, undef, undef], []⟩) :
  wpAnyH Tryz.prog .any (aOps Tryz.f114).toArray Q S 4 L a w := by
 subst hL ha
 refine wpAnyH_ready (rs := [2, 7]) (by kernel_rfl) (by simp) ?_
 refine held_cons rfl (fun K2 hK => ?p2) (held_cons rfl (fun K2 hK => ?p7) AllReadyH.nil)
 case p2 =>
  try rw [if_pos (by rfl)]
  go_simp
  have hf : Fr (fun _ => False) w (w.alloc (.cells #[.int .i64 (c.1 : Nat), .int .i64 (c.2 : Nat)] 118)) := (Fr.refl _ _).alloc _
  refine hK.out _ _ (HC.out.s _ (HF.out.trans hf)) (fun _ => ?_)
  exact arS_1_2_5_10_12 HC HQ (hid (HF.out.trans hf)) _ (hid (SpO.one c HF.out.size)) x9 (hid (H9.out.fr hf)) x14 (hid (H14.out.fr hf)) b3 (hid ⟨H3.out.1, hf.whole H3.out.2 (by simp)⟩) _ rfl _ rfl
 case p7 =>
  try rw [if_pos (by rfl)]
  go_simp
  have hf : Fr (fun _ => False) w (w.alloc (.cells #[.int .i64 (((0, 1000000000) : SpM).1 : Nat), .int .i64 (((0, 1000000000) : SpM).2 : Nat)] 118)) := (Fr.refl _ _).alloc _
  refine hK.out _ _ (HC.out.s _ (HF.out.trans hf)) (fun _ => ?_)
  exact arS_1_5_7_10_12 HC HQ (hid (HF.out.trans hf)) x9 (hid (H9.out.fr hf)) _ (hid (SpO.one ((0, 1000000000) : SpM) HF.out.size)) x14 (hid (H14.out.fr hf)) b3 (hid ⟨H3.out.1, hf.whole H3.out.2 (by simp)⟩) _ rfl _ rfl
set_option maxRecDepth 30000 in
set_option maxHeartbeats 2000000 in
theorem arS_1_2_5_10 {Q : Exit → Act → World → Prop} {w0 w : World} {S : World → Prop} {v0 vm vc p r p5 p9 : Value} {c : SpM} {l9 l14 : List SpM} (HC : Hid (ArCx w0 S v0 vm vc c l9 l14)) (HQ : Hid ((∀ c a d v w, Q (.panic c) (Act.put a d v) w → Q (.panic c) a w) ∧ ∀ b3 x6 x9 x11 x14 w, w0.heap.size ≤ b3 → w.heap[b3]? = some (.cells #[x6, x9, x11, x14] 215) → SpO w0 w x6 [c] → SpO w0 w x9 l9 → SpO w0 w x11 [(0, 1000000000)] → SpO w0 w x14 l14 → Fr (fun _ => False) w0 w → Q .normal ⟨#[v0, p, r, (.pointer (some ⟨b3, 0, none⟩)), v0, .agg #[.int .i64 (c.1 : Nat), .int .i64 (c.2 : Nat)], x6, p5, vm, x9, .agg #[.int .i64 0, .int .i64 1000000000], x11, p9, vc, x14, (.agg #[x6, x9, x11, x14]), undef, undef, undef, undef, undef, undef, undef], []⟩ w)) (HF : Hid (Fr (fun _ => False) w0 w)) (x6 : Value) (H6 : Hid (SpO w0 w x6 [c])) (x9 : Value) (H9 : Hid (SpO w0 w x9 l9)) (x14 : Value) (H14 : Hid (SpO w0 w x14 l14)) (L : Array Bool) (hL : L = #[true, true, true, true, true, true, true, false, true, true, true, false, false, false]) (a : Act) (ha : a = ⟨#[v0, p, r, undef, v0, .agg #[.int .i64 (c.1 : Nat), .int .i64 (c.2 : Nat)], x6, p5, vm, x9, .agg #[.int .i64 0, .int .i64 1000000000], undef, p9, vc, x14, undef, undef, undef, undef, undef, undef, undef, undef], []⟩) :
  wpAnyH Tryz.prog .any (aOps Tryz.f114).toArray Q S 4 L a w := by
 subst hL ha
 refine wpAnyH_ready (rs := [7, 12]) (by kernel_rfl) (by simp) ?_
 refine held_cons rfl (fun K2 hK => ?p7) (held_cons rfl (fun K2 hK => ?p12) AllReadyH.nil)
 case p7 =>
  try rw [if_pos (by rfl)]
  go_simp
  have hf : Fr (fun _ => False) w (w.alloc (.cells #[.int .i64 (((0, 1000000000) : SpM).1 : Nat), .int .i64 (((0, 1000000000) : SpM).2 : Nat)] 118)) := (Fr.refl _ _).alloc _
  refine hK.out _ _ (HC.out.s _ (HF.out.trans hf)) (fun _ => ?_)
  exact arS_1_2_5_7_10 HC HQ (hid (HF.out.trans hf)) x6 (hid (H6.out.fr hf)) x9 (hid (H9.out.fr hf)) _ (hid (SpO.one ((0, 1000000000) : SpM) HF.out.size)) x14 (hid (H14.out.fr hf)) _ rfl _ rfl
 case p12 =>
  try rw [if_pos (by rfl)]
  go_simp
  have hf : Fr (fun _ => False) w (w.alloc (.cells #[.slice none 0 0, .slice none 0 0, .slice none 0 0, .slice none 0 0] 215)) := (Fr.refl _ _).alloc _
  refine hK.out _ _ (HC.out.s _ (HF.out.trans hf)) (fun _ => ?_)
  exact arS_1_2_5_10_12 HC HQ (hid (HF.out.trans hf)) x6 (hid (H6.out.fr hf)) x9 (hid (H9.out.fr hf)) x14 (hid (H14.out.fr hf)) _ (hid ⟨HF.out.size, heap_alloc_new w _⟩) _ rfl _ rfl
set_option maxRecDepth 30000 in
set_option maxHeartbeats 2000000 in
theorem arS_1_7_12 {Q : Exit → Act → World → Prop} {w0 w : World} {S : World → Prop} {v0 vm vc p r p5 p9 : Value} {c : SpM} {l9 l14 : List SpM} (HC : Hid (ArCx w0 S v0 vm vc c l9 l14)) (HQ : Hid ((∀ c a d v w, Q (.panic c) (Act.put a d v) w → Q (.panic c) a w) ∧ ∀ b3 x6 x9 x11 x14 w, w0.heap.size ≤ b3 → w.heap[b3]? = some (.cells #[x6, x9, x11, x14] 215) → SpO w0 w x6 [c] → SpO w0 w x9 l9 → SpO w0 w x11 [(0, 1000000000)] → SpO w0 w x14 l14 → Fr (fun _ => False) w0 w → Q .normal ⟨#[v0, p, r, (.pointer (some ⟨b3, 0, none⟩)), v0, .agg #[.int .i64 (c.1 : Nat), .int .i64 (c.2 : Nat)], x6, p5, vm, x9, .agg #[.int .i64 0, .int .i64 1000000000], x11, p9, vc, x14, (.agg #[x6, x9, x11, x14]), undef, undef, undef, undef, undef, undef, undef], []⟩ w)) (HF : Hid (Fr (fun _ => False) w0 w)) (x11 : Value) (H11 : Hid (SpO w0 w x11 [(0, 1000000000)])) (b3 : Nat) (H3 : Hid (w0.heap.size ≤ b3 ∧ w.heap[b3]? = some (.cells #[.slice none 0 0, .slice none 0 0, .slice none 0 0, .slice none 0 0] 215))) (L : Array Bool) (hL : L = #[true, true, false, true, true, false, true, true, true, true, false, false, true, false]) (a : Act) (ha : a = ⟨#[v0, p, r, (.pointer (some ⟨b3, 0, none⟩)), v0, .agg #[.int .i64 (c.1 : Nat), .int .i64 (c.2 : Nat)], undef, p5, vm, undef, .agg #[.int .i64 0, .int .i64 1000000000], x11, p9, vc, undef, undef, undef, undef, undef, undef, undef, undef, undef], []⟩) :
  wpAnyH Tryz.prog .any (aOps Tryz.f114).toArray Q S 5 L a w := by
 subst hL ha
 refine wpAnyH_ready (rs := [2, 5]) (by kernel_rfl) (by simp) ?_
 refine held_cons rfl (fun K2 hK => ?p2) (held_cons rfl (fun K2 hK => ?p5) AllReadyH.nil)
 case p2 =>
  try rw [if_pos (by rfl)]
  go_simp
  have hf : Fr (fun _ => False) w (w.alloc (.cells #[.int .i64 (c.1 : Nat), .int .i64 (c.2 : Nat)] 118)) := (Fr.refl _ _).alloc _
  refine hK.out _ _ (HC.out.s _ (HF.out.trans hf)) (fun _ => ?_)
  exact arS_1_2_7_12 HC HQ (hid (HF.out.trans hf)) _ (hid (SpO.one c HF.out.size)) x11 (hid (H11.out.fr hf)) b3 (hid ⟨H3.out.1, hf.whole H3.out.2 (by simp)⟩) _ rfl _ rfl
 case p5 =>
  try rw [if_pos (by rfl)]
  go_simp
  refine (HC.out.f9 _ HF.out).mono ?_
  rintro e w5 ⟨⟨v, rfl, hv⟩, hf⟩
  refine hK.out _ _ (HC.out.s _ (HF.out.trans hf)) (fun _ => ?_)
  exact arS_1_5_7_12 HC HQ (hid (HF.out.trans hf)) v (hid hv) x11 (hid (H11.out.fr hf)) b3 (hid ⟨H3.out.1, hf.whole H3.out.2 (by simp)⟩) _ rfl _ rfl
set_option maxRecDepth 30000 in
set_option maxHeartbeats 2000000 in
theorem arS_1_2_7 {Q : Exit → Act → World → Prop} {w0 w : World} {S : World → Prop} {v0 vm vc p r p5 p9 : Value} {c : SpM} {l9 l14 : List SpM} (HC : Hid (ArCx w0 S v0 vm vc c l9 l14)) (HQ : Hid ((∀ c a d v w, Q (.panic c) (Act.put a d v) w → Q (.panic c) a w) ∧ ∀ b3 x6 x9 x11 x14 w, w0.heap.size ≤ b3 → w.heap[b3]? = some (.cells #[x6, x9, x11, x14] 215) → SpO w0 w x6 [c] → SpO w0 w x9 l9 → SpO w0 w x11 [(0, 1000000000)] → SpO w0 w x14 l14 → Fr (fun _ => False) w0 w → Q .normal ⟨#[v0, p, r, (.pointer (some ⟨b3, 0, none⟩)), v0, .agg #[.int .i64 (c.1 : Nat), .int .i64 (c.2 : Nat)], x6, p5, vm, x9, .agg #[.int .i64 0, .int .i64 1000000000], x11, p9, vc, x14, (.agg #[x6, x9, x11, x14]), undef, undef, undef, undef, undef, undef, undef], []⟩ w)) (HF : Hid (Fr (fun _ => False) w0 w)) (x6 : Value) (H6 : Hid (SpO w0 w x6 [c])) (x11 : Value) (H11 : Hid (SpO w0 w x11 [(0, 1000000000)])) (L : Array Bool) (hL : L = #[true, true, true, true, true, false, true, true, true, true, false, false, false, false]) (a : Act) (ha : a = ⟨#[v0, p, r, undef, v0, .agg #[.int .i64 (c.1 : Nat), .int .i64 (c.2 : Nat)], x6, p5, vm, undef, .agg #[.int .i64 0, .int .i64 1000000000], x11, p9, vc, undef, undef, undef, undef, undef, undef, undef, undef, undef], []⟩) :
  wpAnyH Tryz.prog .any (aOps Tryz.f114).toArray Q S 5 L a w := by
 subst hL ha
 refine wpAnyH_ready (rs := [5, 12]) (by kernel_rfl) (by simp) ?_
 refine held_cons rfl (fun K2 hK => ?p5) (held_cons rfl (fun K2 hK => ?p12) AllReadyH.nil)
 case p5 =>
  try rw [if_pos (by rfl)]
  go_simp
  refine (HC.out.f9 _ HF.out).mono ?_
  rintro e w5 ⟨⟨v, rfl, hv⟩, hf⟩
  refine hK.out _ _ (HC.out.s _ (HF.out.trans hf)) (fun _ => ?_)
  exact arS_1_2_5_7 HC HQ (hid (HF.out.trans hf)) x6 (hid (H6.out.fr hf)) v (hid hv) x11 (hid (H11.out.fr hf)) _ rfl _ rfl
 case p12 =>
  try rw [if_pos (by rfl)]
  go_simp
  have hf : Fr (fun _ => False) w (w.alloc (.cells #[.slice none 0 0, .slice none 0 0, .slice none 0 0, .slice none 0 0] 215)) := (Fr.refl _ _).alloc _
  refine hK.out _ _ (HC.out.s _ (HF.out.trans hf)) (fun _ => ?_)
  exact arS_1_2_7_12 HC HQ (hid (HF.out.trans hf)) x6 (hid (H6.out.fr hf)) x11 (hid (H11.out.fr hf)) _ (hid ⟨HF.out.size, heap_alloc_new w _⟩) _ rfl _ rfl
set_option maxRecDepth 30000 in
set_option maxHeartbeats 2000000 in
theorem arS_1_2_12 {Q : Exit → Act → World → Prop} {w0 w : World} {S : World → Prop} {v0 vm vc p r p5 p9 : Value} {c : SpM} {l9 l14 : List SpM} (HC : Hid (ArCx w0 S v0 vm vc c l9 l14)) (HQ : Hid ((∀ c a d v w, Q (.panic c) (Act.put a d v) w → Q (.panic c) a w) ∧ ∀ b3 x6 x9 x11 x14 w, w0.heap.size ≤ b3 → w.heap[b3]? = some (.cells #[x6, x9, x11, x14] 215) → SpO w0 w x6 [c] → SpO w0 w x9 l9 → SpO w0 w x11 [(0, 1000000000)] → SpO w0 w x14 l14 → Fr (fun _ => False) w0 w → Q .normal ⟨#[v0, p, r, (.pointer (some ⟨b3, 0, none⟩)), v0, .agg #[.int .i64 (c.1 : Nat), .int .i64 (c.2 : Nat)], x6, p5, vm, x9, .agg #[.int .i64 0, .int .i64 1000000000], x11, p9, vc, x14, (.agg #[x6, x9, x11, x14]), undef, undef, undef, undef, undef, undef, undef], []⟩ w)) (HF : Hid (Fr (fun _ => False) w0 w)) (x6 : Value) (H6 : Hid (SpO w0 w x6 [c])) (b3 : Nat) (H3 : Hid (w0.heap.size ≤ b3 ∧ w.heap[b3]? = some (.cells #[.slice none 0 0, .slice none 0 0, .slice none 0 0, .slice none 0 0] 215))) (L : Array Bool) (hL : L = #[true, true, true, true, true, false, true, false, true, true, false, false, true, false]) (a : Act) (ha : a = ⟨#[v0, p, r, (.pointer (some ⟨b3, 0, none⟩)), v0, .agg #[.int .i64 (c.1 : Nat), .int .i64 (c.2 : Nat)], x6, p5, vm, undef, .agg #[.int .i64 0, .int .i64 1000000000], undef, p9, vc, undef, undef, undef, undef, undef, undef, undef, undef, undef], []⟩) :
  wpAnyH Tryz.prog .any (aOps Tryz.f114).toArray Q S 5 L a w := by
 subst hL ha
 refine wpAnyH_ready (rs := [5, 7]) (by kernel_rfl) (by simp) ?_
 refine held_cons rfl (fun K2 hK => ?p5) (held_cons rfl (fun K2 hK => ?p7) AllReadyH.nil)
 case p5 =>
  try rw [if_pos (by rfl)]
  go_simp
  refine (HC.out.f9 _ HF.out).mono ?_
  rintro e w5 ⟨⟨v, rfl, hv⟩, hf⟩
  refine hK.out _ _ (HC.out.s _ (HF.out.trans hf)) (fun _ => ?_)
  exact arS_1_2_5_12 HC HQ (hid (HF.out.trans hf)) x6 (hid (H6.out.fr hf)) v (hid hv) b3 (hid ⟨H3.out.1, hf.whole H3.out.2 (by simp)⟩) _ rfl _ rfl
 case p7 =>
  try rw [if_pos (by rfl)]
  go_simp
  have hf : Fr (fun _ => False) w (w.alloc (.cells #[.int .i64 (((0, 1000000000) : SpM).1 : Nat), .int .i64 (((0, 1000000000) : SpM).2 : Nat)] 118)) := (Fr.refl _ _).alloc _
  refine hK.out _ _ (HC.out.s _ (HF.out.trans hf)) (fun _ => ?_)
  exact arS_1_2_7_12 HC HQ (hid (HF.out.trans hf)) x6 (hid (H6.out.fr hf)) _ (hid (SpO.one ((0, 1000000000) : SpM) HF.out.size)) b3 (hid ⟨H3.out.1, hf.whole H3.out.2 (by simp)⟩) _ rfl _ rfl
set_option maxRecDepth 30000 in
set_option maxHeartbeats 2000000 in
theorem arS_1_5_7 {Q : Exit → Act → World → Prop} {w0 w : World} {S : World → Prop} {v0 vm vc p r p5 p9 : Value} {c : SpM} {l9 l14 : List SpM} (HC : Hid (ArCx w0 S v0 vm vc c l9 l14)) (HQ : Hid ((∀ c a d v w, Q (.panic c) (Act.put a d v) w → Q (.panic c) a w) ∧ ∀ b3 x6 x9 x11 x14 w, w0.heap.size ≤ b3 → w.heap[b3]? = some (.cells #[x6, x9, x11, x14] 215) → SpO w0 w x6 [c] → SpO w0 w x9 l9 → SpO w0 w x11 [(0, 1000000000)] → SpO w0 w x14 l14 → Fr (fun _ => False) w0 w → Q .normal ⟨#[v0, p, r, (.pointer (some ⟨b3, 0, none⟩)), v0, .agg #[.int .i64 (c.1 : Nat), .int .i64 (c.2 : Nat)], x6, p5, vm, x9, .agg #[.int .i64 0, .int .i64 1000000000], x11, p9, vc, x14, (.agg #[x6, x9, x11, x14]), undef, undef, undef, undef, undef, undef, undef], []⟩ w)) (HF : Hid (Fr (fun _ => False) w0 w)) (x9 : Value) (H9 : Hid (SpO w0 w x9 l9)) (x11 : Value) (H11 : Hid (SpO w0 w x11 [(0, 1000000000)])) (L : Array Bool) (hL : L = #[true, true, false, true, true, true, true, true, true, true, false, false, false, false]) (a : Act) (ha : a = ⟨#[v0, p, r, undef, v0, .agg #[.int .i64 (c.1 : Nat), .int .i64 (c.2 : Nat)], undef, p5, vm, x9, .agg #[.int .i64 0, .int .i64 1000000000], x11, p9, vc, undef, undef, undef, undef, undef, undef, undef, undef, undef], []⟩) :
  wpAnyH Tryz.prog .any (aOps Tryz.f114).toArray Q S 5 L a w := by
 subst hL ha
 refine wpAnyH_ready (rs := [2, 10, 12]) (by kernel_rfl) (by simp) ?_
 refine held_cons rfl (fun K2 hK => ?p2) (held_cons rfl (fun K2 hK => ?p10) (held_cons rfl (fun K2 hK => ?p12) AllReadyH.nil))
 case p2 =>
  try rw [if_pos (by rfl)]
  go_simp
  have hf : Fr (fun _ => False) w (w.alloc (.cells #[.int .i64 (c.1 : Nat), .int .i64 (c.2 : Nat)] 118)) := (Fr.refl _ _).alloc _
  refine hK.out _ _ (HC.out.s _ (HF.out.trans hf)) (fun _ => ?_)
  exact arS_1_2_5_7 HC HQ (hid (HF.out.trans hf)) _ (hid (SpO.one c HF.out.size)) x9 (hid (H9.out.fr hf)) x11 (hid (H11.out.fr hf)) _ rfl _ rfl
 case p10 =>
  try rw [if_pos (by rfl)]
  go_simp
  refine (HC.out.f14 _ HF.out).mono ?_
  rintro e w5 ⟨⟨v, rfl, hv⟩, hf⟩
  refine hK.out _ _ (HC.out.s _ (HF.out.trans hf)) (fun _ => ?_)
  exact arS_1_5_7_10 HC HQ (hid (HF.out.trans hf)) x9 (hid (H9.out.fr hf)) x11 (hid (H11.out.fr hf)) v (hid hv) _ rfl _ rfl
 case p12 =>
  try rw [if_pos (by rfl)]
  go_simp
  have hf : Fr (fun _ => False) w (w.alloc (.cells #[.slice none 0 0, .slice none 0 0, .slice none 0 0, .slice none 0 0] 215)) := (Fr.refl _ _).alloc _
  refine hK.out _ _ (HC.out.s _ (HF.out.trans hf)) (fun _ => ?_)
  exact arS_1_5_7_12 HC HQ (hid (HF.out.trans hf)) x9 (hid (H9.out.fr hf)) x11 (hid (H11.out.fr hf)) _ (hid ⟨HF.out.size, heap_alloc_new w _⟩) _ rfl _ rfl
set_option maxRecDepth 30000 in
set_option maxHeartbeats 2000000 in
theorem arS_1_5_12 {Q : Exit → Act → World → Prop} {w0 w : World} {S : World → Prop} {v0 vm vc p r p5 p9 : Value} {c : SpM} {l9 l14 : List SpM} (HC : Hid (ArCx w0 S v0 vm vc c l9 l14)) (HQ : Hid ((∀ c a d v w, Q (.panic c) (Act.put a d v) w → Q (.panic c) a w) ∧ ∀ b3 x6 x9 x11 x14 w, w0.heap.size ≤ b3 → w.heap[b3]? = some (.cells #[x6, x9, x11, x14] 215) → SpO w0 w x6 [c] → SpO w0 w x9 l9 → SpO w0 w x11 [(0, 1000000000)] → SpO w0 w x14 l14 → Fr (fun _ => False) w0 w → Q .normal ⟨#[v0, p, r, (.pointer (some ⟨b3, 0, none⟩)), v0, .agg #[.int .i64 (c.1 : Nat), .int .i64 (c.2 : Nat)], x6, p5, vm, x9, .agg #[.int .i64 0, .int .i64 1000000000], x11, p9, vc, x14, (.agg #[x6, x9, x11, x14]), undef, undef, undef, undef, undef, undef, undef], []⟩ w)) (HF : Hid (Fr (fun _ => False) w0 w)) (x9 : Value) (H9 : Hid (SpO w0 w x9 l9)) (b3 : Nat) (H3 : Hid (w0.heap.size ≤ b3 ∧ w.heap[b3]? = some (.cells #[.slice none 0 0, .slice none 0 0, .slice none 0 0, .slice none 0 0] 215))) (L : Array Bool) (hL : L = #[true, true, false, true, true, true, true, false, true, true, false, false, true, false]) (a : Act) (ha : a = ⟨#[v0, p, r, (.pointer (some ⟨b3, 0, none⟩)), v0, .agg #[.int .i64 (c.1 : Nat), .int .i64 (c.2 : Nat)], undef, p5, vm, x9, .agg #[.int .i64 0, .int .i64 1000000000], undef, p9, vc, undef, undef, undef, undef, undef, undef, undef, undef, undef], []⟩) :
  wpAnyH Tryz.prog .any (aOps Tryz.f114).toArray Q S 5 L a w := by
 subst hL ha
 refine wpAnyH_ready (rs := [2, 7, 10]) (by kernel_rfl) (by simp) ?_
 refine held_cons rfl (fun K2 hK => ?p2) (held_cons rfl (fun K2 hK => ?p7) (held_cons rfl (fun K2 hK => ?p10) AllReadyH.nil))
 case p2 =>
  try rw [if_pos (by rfl)]
  go_simp
  have hf : Fr (fun _ => False) w (w.alloc (.cells #[.int .i64 (c.1 : Nat), .int .i64 (c.2 : Nat)] 118)) := (Fr.refl _ _).alloc _
  refine hK.out _ _ (HC.out.s _ (HF.out.trans hf)) (fun _ => ?_)
  exact arS_1_2_5_12 HC HQ (hid (HF.out.trans hf)) _ (hid (SpO.one c HF.out.size)) x9 (hid (H9.out.fr hf)) b3 (hid ⟨H3.out.1, hf.whole H3.out.2 (by simp)⟩) _ rfl _ rfl
 case p7 =>
  try rw [if_pos (by rfl)]
  go_simp
  have hf : Fr (fun _ => False) w (w.alloc (.cells #[.int .i64 (((0, 1000000000) : SpM).1 : Nat), .int .i64 (((0, 1000000000) : SpM).2 : Nat)] 118)) := (Fr.refl _ _).alloc _
  refine hK.out _ _ (HC.out.s _ (HF.out.trans hf)) (fun _ => ?_)
  exact arS_1_5_7_12 HC HQ (hid (HF.out.trans hf)) x9 (hid (H9.out.fr hf)) _ (hid (SpO.one ((0, 1000000000) : SpM) HF.out.size)) b3 (hid ⟨H3.out.1, hf.whole H3.out.2 (by simp)⟩) _ rfl _ rfl
 case p10 =>
  try rw [if_pos (by rfl)]
  go_simp
  refine (HC.out.f14 _ HF.out).mono ?_
  rintro e w5 ⟨⟨v, rfl, hv⟩, hf⟩
  refine hK.out _ _ (HC.out.s _ (HF.out.trans hf)) (fun _ => ?_)
  exact arS_1_5_10_12 HC HQ (hid (HF.out.trans hf)) x9 (hid (H9.out.fr hf)) v (hid hv) b3 (hid ⟨H3.out.1, hf.whole H3.out.2 (by simp)⟩) _ rfl _ rfl
set_option maxRecDepth 30000 in
set_option maxHeartbeats 2000000 in
theorem arS_1_2_5 {Q : Exit → Act → World → Prop} {w0 w : World} {S : World → Prop} {v0 vm vc p r p5 p9 : Value} {c : SpM} {l9 l14 : List SpM} (HC : Hid (ArCx w0 S v0 vm vc c l9 l14)) (HQ : Hid ((∀ c a d v w, Q (.panic c) (Act.put a d v) w → Q (.panic c) a w) ∧ ∀ b3 x6 x9 x11 x14 w, w0.heap.size ≤ b3 → w.heap[b3]? = some (.cells #[x6, x9, x11, x14] 215) → SpO w0 w x6 [c] → SpO w0 w x9 l9 → SpO w0 w x11 [(0, 1000000000)] → SpO w0 w x14 l14 → Fr (fun _ => False) w0 w → Q .normal ⟨#[v0, p, r, (.pointer (some ⟨b3, 0, none⟩)), v0, .agg #[.int .i64 (c.1 : Nat), .int .i64 (c.2 : Nat)], x6, p5, vm, x9, .agg #[.int .i64 0, .int .i64 1000000000], x11, p9, vc, x14, (.agg #[x6, x9, x11, x14]), undef, undef, undef, undef, undef, undef, undef], []⟩ w)) (HF : Hid (Fr (fun _ => False) w0 w)) (x6 : Value) (H6 : Hid (SpO w0 w x6 [c])) (x9 : Value) (H9 : Hid (SpO w0 w x9 l9)) (L : Array Bool) (hL : L = #[true, true, true, true, true, true, true, false, true, true, false, false, false, false]) (a : Act) (ha : a = ⟨#[v0, p, r, undef, v0, .agg #[.int .i64 (c.1 : Nat), .int .i64 (c.2 : Nat)], x6, p5, vm, x9, .agg #[.int .i64 0, .int .i64 1000000000], undef, p9, vc, undef, undef, undef, undef, undef, undef, undef, undef, undef], []⟩) :
  wpAnyH Tryz.prog .any (aOps Tryz.f114).toArray Q S 5 L a w := by
 subst hL ha
 refine wpAnyH_ready (rs := [7, 10, 12]) (by kernel_rfl) (by simp) ?_
 refine held_cons rfl (fun K2 hK => ?p7) (held_cons rfl (fun K2 hK => ?p10) (held_cons rfl (fun K2 hK => ?p12) AllReadyH.nil))
 case p7 =>
  try rw [if_pos (by rfl)]
  go_simp
  have hf : Fr (fun _ => False) w (w.alloc (.cells #[.int .i64 (((0, 1000000000) : SpM).1 : Nat), .int .i64 (((0, 1000000000) : SpM).2 : Nat)] 118)) := (Fr.refl _ _).alloc _
  refine hK.out _ _ (HC.out.s _ (HF.out.trans hf)) (fun _ => ?_)
  exact arS_1_2_5_7 HC HQ (hid (HF.out.trans hf)) x6 (hid (H6.out.fr hf)) x9 (hid (H9.out.fr hf)) _ (hid (SpO.one ((0, 1000000000) : SpM) HF.out.size)) _ rfl _ rfl
 case p10 =>
  try rw [if_pos (by rfl)]
  go_simp
  refine (HC.out.f14 _ HF.out).mono ?_
  rintro e w5 ⟨⟨v, rfl, hv⟩, hf⟩
  refine hK.out _ _ (HC.out.s _ (HF.out.trans hf)) (fun _ => ?_)
  exact arS_1_2_5_10 HC HQ (hid (HF.out.trans hf)) x6 (hid (H6.out.fr hf)) x9 (hid (H9.out.fr hf)) v (hid hv) _ rfl _ rfl
 case p12 =>
  try rw [if_pos (by rfl)]
  go_simp
  have hf : Fr (fun _ => False) w (w.alloc (.cells #[.slice none 0 0, .slice none 0 0, .slice none 0 0, .slice none 0 0] 215)) := (Fr.refl _ _).alloc _
  refine hK.out _ _ (HC.out.s _ (HF.out.trans hf)) (fun _ => ?_)
  exact arS_1_2_5_12 HC HQ (hid (HF.out.trans hf)) x6 (hid (H6.out.fr hf)) x9 (hid (H9.out.fr hf)) _ (hid ⟨HF.out.size, heap_alloc_new w _⟩) _ rfl _ rfl
set_option maxRecDepth 30000 in
set_option maxHeartbeats 2000000 in
theorem arS_1_5_10 {Q : Exit → Act → World → Prop} {w0 w : World} {S : World → Prop} {v0 vm vc p r p5 p9 : Value} {c : SpM} {l9 l14 : List SpM} (HC : Hid (ArCx w0 S v0 vm vc c l9 l14)) (HQ : Hid ((∀ c a d v w, Q (.panic c) (Act.put a d v) w → Q (.panic c) a w) ∧ ∀ b3 x6 x9 x11 x14 w, w0.heap.size ≤ b3 → w.heap[b3]? = some (.cells #[x6, x9, x11, x14] 215) → SpO w0 w x6 [c] → SpO w0 w x9 l9 → SpO w0 w x11 [(0, 1000000000)] → SpO w0 w x14 l14 → Fr (fun _ => False) w0 w → Q .normal ⟨#[v0, p, r, (.pointer (some ⟨b3, 0, none⟩)), v0, .agg #[.int .i64 (c.1 : Nat), .int .i64 (c.2 : Nat)], x6, p5, vm, x9, .agg #[.int .i64 0, .int .i64 1000000000], x11, p9, vc, x14, (.agg #[x6, x9, x11, x14]), undef, undef, undef, undef, undef, undef, undef], []⟩ w)) (HF : Hid (Fr (fun _ => False) w0 w)) (x9 : Value) (H9 : Hid (SpO w0 w x9 l9)) (x14 : Value) (H14 : Hid (SpO w0 w x14 l14)) (L : Array Bool) (hL : L = #[true, true, false, true, true, true, true, false, true, true, true, false, false, false]) (a : Act) (ha : a = ⟨#[v0, p, r, undef, v0, .agg #[.int .i64 (c.1 : Nat), .int .i64 (c.2 : Nat)], undef, p5, vm, x9, .agg #[.int .i64 0, .int .i64 1000000000], undef, p9, vc, x14, undef, undef, undef, undef, undef, undef, undef, undef], []⟩) :
  wpAnyH Tryz.prog .any (aOps Tryz.f114).toArray Q S 5 L a w := by
 subst hL ha
 refine wpAnyH_ready (rs := [2, 7, 12]) (by kernel_rfl) (by simp) ?_
 refine held_cons rfl (fun K2 hK => ?p2) (held_cons rfl (fun K2 hK => ?p7) (held_cons rfl (fun K2 hK => ?p12) AllReadyH.nil))
 case p2 =>
  try rw [if_pos (by rfl)]
  go_simp
  have hf : Fr (fun _ => False) w (w.alloc (.cells #[.int .i64 (c.1 : Nat), .int .i64 (c.2 : Nat)] 118)) := (Fr.refl _ _).alloc _
  refine hK.out _ _ (HC.out.s _ (HF.out.trans hf)) (fun _ => ?_)
  exact arS_1_2_5_10 HC HQ (hid (HF.out.trans hf)) _ (hid (SpO.one c HF.out.size)) x9 (hid (H9.out.fr hf)) x14 (hid (H14.out.fr hf)) _ rfl _ rfl
 case p7 =>
  try rw [if_pos (by rfl)]
  go_simp
  have hf : Fr (fun _ => False) w (w.alloc (.cells #[.int .i64 (((0, 1000000000) : SpM).1 : Nat), .int .i64 (((0, 1000000000) : SpM).2 : Nat)] 118)) := (Fr.refl _ _).alloc _
  refine hK.out _ _ (HC.out.s _ (HF.out.trans hf)) (fun _ => ?_)
  exact arS_1_5_7_10 HC HQ (hid (HF.out.trans hf)) x9 (hid (H9.out.fr hf)) _ (hid (SpO.one ((0, 1000000000) : SpM) HF.out.size)) x14 (hid (H14.out.fr hf)) _ rfl _ rfl
 case p12 =>
  try rw [if_pos (by rfl)]
  go_simp
  have hf : Fr (fun _ => False) w (w.alloc (.cells #[.slice none 0 0, .slice none 0 0, .slice none 0 0, .slice none 0 0] 215)) := (Fr.refl _ _).alloc _
  refine hK.out _ _ (HC.out.s _ (HF.out.trans hf)) (fun _ => ?_)
  exact arS_1_5_10_12 HC HQ (hid (HF.out.trans hf)) x9 (hid (H9.out.fr hf)) x14 (hid (H14.out.fr hf)) _ (hid ⟨HF.out.size, heap_alloc_new w _⟩) _ rfl _ rfl
set_option maxRecDepth 30000 in
set_option maxHeartbeats 2000000 in
theorem arS_7_12 {Q : Exit → Act → World → Prop} {w0 w : World} {S : World → Prop} {v0 vm vc p r p5 p9 : Value} {c : SpM} {l9 l14 : List SpM} (HC : Hid (ArCx w0 S v0 vm vc c l9 l14)) (HQ : Hid ((∀ c a d v w, Q (.panic c) (Act.put a d v) w → Q (.panic c) a w) ∧ ∀ b3 x6 x9 x11 x14 w, w0.heap.size ≤ b3 → w.heap[b3]? = some (.cells #[x6, x9, x11, x14] 215) → SpO w0 w x6 [c] → SpO w0 w x9 l9 → SpO w0 w x11 [(0, 1000000000)] → SpO w0 w x14 l14 → Fr (fun _ => False) w0 w → Q .normal ⟨#[v0, p, r, (.pointer (some ⟨b3, 0, none⟩)), v0, .agg #[.int .i64 (c.1 : Nat), .int .i64 (c.2 : Nat)], x6, p5, vm, x9, .agg #[.int .i64 0, .int .i64 1000000000], x11, p9, vc, x14, (.agg #[x6, x9, x11, x14]), undef, undef, undef, undef, undef, undef, undef], []⟩ w)) (HF : Hid (Fr (fun _ => False) w0 w)) (x11 : Value) (H11 : Hid (SpO w0 w x11 [(0, 1000000000)])) (b3 : Nat) (H3 : Hid (w0.heap.size ≤ b3 ∧ w.heap[b3]? = some (.cells #[.slice none 0 0, .slice none 0 0, .slice none 0 0, .slice none 0 0] 215))) (L : Array Bool) (hL : L = #[true, false, false, true, true, false, true, true, true, true, false, false, true, false]) (a : Act) (ha : a = ⟨#[v0, p, r, (.pointer (some ⟨b3, 0, none⟩)), v0, undef, undef, p5, vm, undef, .agg #[.int .i64 0, .int .i64 1000000000], x11, p9, vc, undef, undef, undef, undef, undef, undef, undef, undef, undef], []⟩) :
  wpAnyH Tryz.prog .any (aOps Tryz.f114).toArray Q S 6 L a w := by
 subst hL ha
 refine wpAnyH_ready (rs := [1]) (by kernel_rfl) (by simp) ?_
 refine held_cons rfl (fun K2 hK => ?p1) AllReadyH.nil
 case p1 =>
  try rw [if_pos (by rfl)]
  go_simp
  refine (HC.out.f5 _ HF.out).mono ?_
  rintro e w5 ⟨rfl, hf⟩
  refine hK.out _ _ (HC.out.s _ (HF.out.trans hf)) (fun _ => ?_)
  exact arS_1_7_12 HC HQ (hid (HF.out.trans hf)) x11 (hid (H11.out.fr hf)) b3 (hid ⟨H3.out.1, hf.whole H3.out.2 (by simp)⟩) _ rfl _ rfl
set_option maxRecDepth 30000 in
set_option maxHeartbeats 2000000 in
theorem arS_1_7 {Q : Exit → Act → World → Prop} {w0 w : World} {S : World → Prop} {v0 vm vc p r p5 p9 : Value} {c : SpM} {l9 l14 : List SpM} (HC : Hid (ArCx w0 S v0 vm vc c l9 l14)) (HQ : Hid ((∀ c a d v w, Q (.panic c) (Act.put a d v) w → Q (.panic c) a w) ∧ ∀ b3 x6 x9 x11 x14 w, w0.heap.size ≤ b3 → w.heap[b3]? = some (.cells #[x6, x9, x11, x14] 215) → SpO w0 w x6 [c] → SpO w0 w x9 l9 → SpO w0 w x11 [(0, 1000000000)] → SpO w0 w x14 l14 → Fr (fun _ => False) w0 w → Q .normal ⟨#[v0, p, r, (.pointer (some ⟨b3, 0, none⟩)), v0, .agg #[.int .i64 (c.1 : Nat), .int .i64 (c.2 : Nat)], x6, p5, vm, x9, .agg #[.int .i64 0, .int .i64 1000000000], x11, p9, vc, x14, (.agg #[x6, x9, x11, x14]), undef, undef, undef, undef, undef, undef, undef], []⟩ w)) (HF : Hid (Fr (fun _ => False) w0 w)) (x11 : Value) (H11 : Hid (SpO w0 w x11 [(0, 1000000000)])) (L : Array Bool) (hL : L = #[true, true, false, true, true, false, true, true, true, true, false, false, false, false]) (a : Act) (ha : a = ⟨#[v0, p, r, undef, v0, .agg #[.int .i64 (c.1 : Nat), .int .i64 (c.2 : Nat)], undef, p5, vm, undef, .agg #[.int .i64 0, .int .i64 1000000000], x11, p9, vc, undef, undef, undef, undef, undef, undef, undef, undef, undef], []⟩) :
  wpAnyH Tryz.prog .any (aOps Tryz.f114).toArray Q S 6 L a w := by
 subst hL ha
 refine wpAnyH_ready (rs := [2, 5, 12]) (by kernel_rfl) (by simp) ?_
 refine held_cons rfl (fun K2 hK => ?p2) (held_cons rfl (fun K2 hK => ?p5) (held_cons rfl (fun K2 hK => ?p12) AllReadyH.nil))
 case p2 =>
  try rw [if_pos (by rfl)]
  go_simp
  have hf : Fr (fun _ => False) w (w.alloc (.cells #[.int .i64 (c.1 : Nat), .int .i64 (c.2 : Nat)] 118)) := (Fr.refl _ _).alloc _
  refine hK.out _ _ (HC.out.s _ (HF.out.trans hf)) (fun _ => ?_)
  exact arS_1_2_7 HC HQ (hid (HF.out.trans hf)) _ (hid (SpO.one c HF.out.size)) x11 (hid (H11.out.fr hf)) _ rfl _ rfl
 case p5 =>
  try rw [if_pos (by rfl)]
  go_simp
  refine (HC.out.f9 _ HF.out).mono ?_
  rintro e w5 ⟨⟨v, rfl, hv⟩, hf⟩
  refine hK.out _ _ (HC.out.s _ (HF.out.trans hf)) (fun _ => ?_)
  exact arS_1_5_7 HC HQ (hid (HF.out.trans hf)) v (hid hv) x11 (hid (H11.out.fr hf)) _ rfl _ rfl
 case p12 =>
  try rw [if_pos (by rfl)]
  go_simp
  have hf : Fr (fun _ => False) w (w.alloc (.cells #[.slice none 0 0, .slice none 0 0, .slice none 0 0, .slice none 0 0] 215)) := (Fr.refl _ _).alloc _
  refine hK.out _ _ (HC.out.s _ (HF.out.trans hf)) (fun _ => ?_)
  exact arS_1_7_12 HC HQ (hid (HF.out.trans hf)) x11 (hid (H11.out.fr hf)) _ (hid ⟨HF.out.size, heap_alloc_new w _⟩) _ rfl _ rfl
set_option maxRecDepth 30000 in
set_option maxHeartbeats 2000000 in
theorem arS_1_12 {Q : Exit → Act → World → Prop} {w0 w : World} {S : World → Prop} {v0 vm vc p r p5 p9 : Value} {c : SpM} {l9 l14 : List SpM} (HC : Hid (ArCx w0 S v0 vm vc c l9 l14)) (HQ : Hid ((∀ c a d v w, Q (.panic c) (Act.put a d v) w → Q (.panic c) a w) ∧ ∀ b3 x6 x9 x11 x14 w, w0.heap.size ≤ b3 → w.heap[b3]? = some (.cells #[x6, x9, x11, x14] 215) → SpO w0 w x6 [c] → SpO w0 w x9 l9 → SpO w0 w x11 [(0, 1000000000)] → SpO w0 w x14 l14 → Fr (fun _ => False) w0 w → Q .normal ⟨#[v0, p, r, (.pointer (some ⟨b3, 0, none⟩)), v0, .agg #[.int .i64 (c.1 : Nat), .int .i64 (c.2 : Nat)], x6, p5, vm, x9, .agg #[.int .i64 0, .int .i64 1000000000], x11, p9, vc, x14, (.agg #[x6, x9, x11, x14]), undef, undef, undef, undef, undef, undef, undef], []⟩ w)) (HF : Hid (Fr (fun _ => False) w0 w)) (b3 : Nat) (H3 : Hid (w0.heap.size ≤ b3 ∧ w.heap[b3]? = some (.cells #[.slice none 0 0, .slice none 0 0, .slice none 0 0, .slice none 0 0] 215))) (L : Array Bool) (hL : L = #[true, true, false, true, true, false, true, false, true, true, false, false, true, false]) (a : Act) (ha : a = ⟨#[v0, p, r, (.pointer (some ⟨b3, 0, none⟩)), v0, .agg #[.int .i64 (c.1 : Nat), .int .i64 (c.2 : Nat)], undef, p5, vm, undef, .agg #[.int .i64 0, .int .i64 1000000000], undef, p9, vc, undef, undef, undef, undef, undef, undef, undef, undef, undef], []⟩) :
  wpAnyH Tryz.prog .any (aOps Tryz.f114).toArray Q S 6 L a w := by
 subst hL ha
 refine wpAnyH_ready (rs := [2, 5, 7]) (by kernel_rfl) (by simp) ?_
 refine held_cons rfl (fun K2 hK => ?p2) (held_cons rfl (fun K2 hK => ?p5) (held_cons rfl (fun K2 hK => ?p7) AllReadyH.nil))
 case p2 =>
  try rw [if_pos (by rfl)]
  go_simp
  have hf : Fr (fun _ => False) w (w.alloc (.cells #[.int .i64 (c.1 : Nat), .int .i64 (c.2 : Nat)] 118)) := (Fr.refl _ _).alloc _
  refine hK.out _ _ (HC.out.s _ (HF.out.trans hf)) (fun _ => ?_)
  exact arS_1_2_12 HC HQ (hid (HF.out.trans hf)) _ (hid (SpO.one c HF.out.size)) b3 (hid ⟨H3.out.1, hf.whole H3.out.2 (by simp)⟩) _ rfl _ rfl
 case p5 =>
  try rw [if_pos (by rfl)]
  go_simp
  refine (HC.out.f9 _ HF.out).mono ?_
  rintro e w5 ⟨⟨v, rfl, hv⟩, hf⟩
  refine hK.out _ _ (HC.out.s _ (HF.out.trans hf)) (fun _ => ?_)
  exact arS_1_5_12 HC HQ (hid (HF.out.trans hf)) v (hid hv) b3 (hid ⟨H3.out.1, hf.whole H3.out.2 (by simp)⟩) _ rfl _ rfl
 case p7 =>
  try rw [if_pos (by rfl)]
  go_simp
  have hf : Fr (fun _ => False) w (w.alloc (.cells #[.int .i64 (((0, 1000000000) : SpM).1 : Nat), .int .i64 (((0, 1000000000) : SpM).2 : Nat)] 118)) := (Fr.refl _ _).alloc _
  refine hK.out _ _ (HC.out.s _ (HF.out.trans hf)) (fun _ => ?_)
  exact arS_1_7_12 HC HQ (hid (HF.out.trans hf)) _ (hid (SpO.one ((0, 1000000000) : SpM) HF.out.size)) b3 (hid ⟨H3.out.1, hf.whole H3.out.2 (by simp)⟩) _ rfl _ rfl
set_option maxRecDepth 30000 in
set_option maxHeartbeats 2000000 in
theorem arS_1_2 {Q : Exit → Act → World → Prop} {w0 w : World} {S : World → Prop} {v0 vm vc p r p5 p9 : Value} {c : SpM} {l9 l14 : List SpM} (HC : Hid (ArCx w0 S v0 vm vc c l9 l14)) (HQ : Hid ((∀ c a d v w, Q (.panic c) (Act.put a d v) w → Q (.panic c) a w) ∧ ∀ b3 x6 x9 x11 x14 w, w0.heap.size ≤ b3 → w.heap[b3]? = some (.cells #[x6, x9, x11, x14] 215) → SpO w0 w x6 [c] → SpO w0 w x9 l9 → SpO w0 w x11 [(0, 1000000000)] → SpO w0 w x14 l14 → Fr (fun _ => False) w0 w → Q .normal ⟨#[v0, p, r, (.pointer (some ⟨b3, 0, none⟩)), v0, .agg #[.int .i64 (c.1 : Nat), .int .i64 (c.2 : Nat)], x6, p5, vm, x9, .agg #[.int .i64 0, .int .i64 1000000000], x11, p9, vc, x14, (.agg #[x6, x9, x11, x14]), undef, undef, undef, undef, undef, undef, undef], []⟩ w)) (HF : Hid (Fr (fun _ => False) w0 w)) (x6 : Value) (H6 : Hid (SpO w0 w x6 [c])) (L : Array Bool) (hL : L = #[true, true, true, true, true, false, true, false, true, true, false, false, false, false]) (a : Act) (ha : a = ⟨#[v0, p, r, undef, v0, .agg #[.int .i64 (c.1 : Nat), .int .i64 (c.2 : Nat)], x6, p5, vm, undef, .agg #[.int .i64 0, .int .i64 1000000000], undef, p9, vc, undef, undef, undef, undef, undef, undef, undef, undef, undef], []⟩) :
  wpAnyH Tryz.prog .any (aOps Tryz.f114).toArray Q S 6 L a w := by
 subst hL ha
 refine wpAnyH_ready (rs := [5, 7, 12]) (by kernel_rfl) (by simp) ?_
 refine held_cons rfl (fun K2 hK => ?p5) (held_cons rfl (fun K2 hK => ?p7) (held_cons rfl (fun K2 hK => ?p12) AllReadyH.nil))
 case p5 =>
  try rw [if_pos (by rfl)]
  go_simp
  refine (HC.out.f9 _ HF.out).mono ?_
  rintro e w5 ⟨⟨v, rfl, hv⟩, hf⟩
  refine hK.out _ _ (HC.out.s _ (HF.out.trans hf)) (fun _ => ?_)
  exact arS_1_2_5 HC HQ (hid (HF.out.trans hf)) x6 (hid (H6.out.fr hf)) v (hid hv) _ rfl _ rfl
 case p7 =>
  try rw [if_pos (by rfl)]
  go_simp
  have hf : Fr (fun _ => False) w (w.alloc (.cells #[.int .i64 (((0, 1000000000) : SpM).1 : Nat), .int .i64 (((0, 1000000000) : SpM).2 : Nat)] 118)) := (Fr.refl _ _).alloc _
  refine hK.out _ _ (HC.out.s _ (HF.out.trans hf)) (fun _ => ?_)
  exact arS_1_2_7 HC HQ (hid (HF.out.trans hf)) x6 (hid (H6.out.fr hf)) _ (hid (SpO.one ((0, 1000000000) : SpM) HF.out.size)) _ rfl _ rfl
 case p12 =>
  try rw [if_pos (by rfl)]
  go_simp
  have hf : Fr (fun _ => False) w (w.alloc (.cells #[.slice none 0 0, .slice none 0 0, .slice none 0 0, .slice none 0 0] 215)) := (Fr.refl _ _).alloc _
  refine hK.out _ _ (HC.out.s _ (HF.out.trans hf)) (fun _ => ?_)
  exact arS_1_2_12 HC HQ (hid (HF.out.trans hf)) x6 (hid (H6.out.fr hf)) _ (hid ⟨HF.out.size, heap_alloc_new w _⟩) _ rfl _ rfl
set_option maxRecDepth 30000 in
set_option maxHeartbeats 2000000 in
theorem arS_1_5 {Q : Exit → Act → World → Prop} {w0 w : World} {S : World → Prop} {v0 vm vc p r p5 p9 : Value} {c : SpM} {l9 l14 : List SpM} (HC : Hid (ArCx w0 S v0 vm vc c l9 l14)) (HQ : Hid ((∀ c a d v w, Q (.panic c) (Act.put a d v) w → Q (.panic c) a w) ∧ ∀ b3 x6 x9 x11 x14 w, w0.heap.size ≤ b3 → w.heap[b3]? = some (.cells #[x6, x9, x11, x14] 215) → SpO w0 w x6 [c] → SpO w0 w x9 l9 → SpO w0 w x11 [(0, 1000000000)] → SpO w0 w x14 l14 → Fr (fun _ => False) w0 w → Q .normal ⟨#[v0, p, r, (.pointer (some ⟨b3, 0, none⟩)), v0, .agg #[.int .i64 (c.1 : Nat), .int .i64 (c.2 : Nat)], x6, p5, vm, x9, .agg #[.int .i64 0, .int .i64 1000000000], x11, p9, vc, x14, (.agg #[x6, x9, x11, x14]), undef, undef, undef, undef, undef, undef, undef], []⟩ w)) (HF : Hid (Fr (fun _ => False) w0 w)) (x9 : Value) (H9 : Hid (SpO w0 w x9 l9)) (L : Array Bool) (hL : L = #[true, true, false, true, true, true, true, false, true, true, false, false, false, false]) (a : Act) (ha : a = ⟨#[v0, p, r, undef, v0, .agg #[.int .i64 (c.1 : Nat), .int .i64 (c.2 : Nat)], undef, p5, vm, x9, .agg #[.int .i64 0, .int .i64 1000000000], undef, p9, vc, undef, undef, undef, undef, undef, undef, undef, undef, undef], []⟩) :
  wpAnyH Tryz.prog .any (aOps Tryz.f114).toArray Q S 6 L a w := by
 subst hL ha
 refine wpAnyH_ready (rs := [2, 7, 10, 12]) (by kernel_rfl) (by simp) ?_
 refine held_cons rfl (fun K2 hK => ?p2) (held_cons rfl (fun K2 hK => ?p7) (held_cons rfl (fun K2 hK => ?p10) (held_cons rfl (fun K2 hK => ?p12) AllReadyH.nil)))
 case p2 =>
  try rw [if_pos (by rfl)]
  go_simp
  have hf : Fr (fun _ => False) w (w.alloc (.cells #[.int .i64 (c.1 : Nat), .int .i64 (c.2 : Nat)] 118)) := (Fr.refl _ _).alloc _
  refine hK.out _ _ (HC.out.s _ (HF.out.trans hf)) (fun _ => ?_)
  exact arS_1_2_5 HC HQ (hid (HF.out.trans hf)) _ (hid (SpO.one c HF.out.size)) x9 (hid (H9.out.fr hf)) _ rfl _ rfl
 case p7 =>
  try rw [if_pos (by rfl)]
  go_simp
  have hf : Fr (fun _ => False) w (w.alloc (.cells #[.int .i64 (((0, 1000000000) : SpM).1 : Nat), .int .i64 (((0, 1000000000) : SpM).2 : Nat)] 118)) := (Fr.refl _ _).alloc _
  refine hK.out _ _ (HC.out.s _ (HF.out.trans hf)) (fun _ => ?_)
  exact arS_1_5_7 HC HQ (hid (HF.out.trans hf)) x9 (hid (H9.out.fr hf)) _ (hid (SpO.one ((0, 1000000000) : SpM) HF.out.size)) _ rfl _ rfl
 case p10 =>
  try rw [if_pos (by rfl)]
  go_simp
  refine (HC.out.f14 _ HF.out).mono ?_
  rintro e w5 ⟨⟨v, rfl, hv⟩, hf⟩
  refine hK.out _ _ (HC.out.s _ (HF.out.trans hf)) (fun _ => ?_)
  exact arS_1_5_10 HC HQ (hid (HF.out.trans hf)) x9 (hid (H9.out.fr hf)) v (hid hv) _ rfl _ rfl
 case p12 =>
  try rw [if_pos (by rfl)]
  go_simp
  have hf : Fr (fun _ => False) w (w.alloc (.cells #[.slice none 0 0, .slice none 0 0, .slice none 0 0, .slice none 0 0] 215)) := (Fr.refl _ _).alloc _
  refine hK.out _ _ (HC.out.s _ (HF.out.trans hf)) (fun _ => ?_)
  exact arS_1_5_12 HC HQ (hid (HF.out.trans hf)) x9 (hid (H9.out.fr hf)) _ (hid ⟨HF.out.size, heap_alloc_new w _⟩) _ rfl _ rfl
set_option maxRecDepth 30000 in
set_option maxHeartbeats 2000000 in
theorem arS_7 {Q : Exit → Act → World → Prop} {w0 w : World} {S : World → Prop} {v0 vm vc p r p5 p9 : Value} {c : SpM} {l9 l14 : List SpM} (HC : Hid (ArCx w0 S v0 vm vc c l9 l14)) (HQ : Hid ((∀ c a d v w, Q (.panic c) (Act.put a d v) w → Q (.panic c) a w) ∧ ∀ b3 x6 x9 x11 x14 w, w0.heap.size ≤ b3 → w.heap[b3]? = some (.cells #[x6, x9, x11, x14] 215) → SpO w0 w x6 [c] → SpO w0 w x9 l9 → SpO w0 w x11 [(0, 1000000000)] → SpO w0 w x14 l14 → Fr (fun _ => False) w0 w → Q .normal ⟨#[v0, p, r, (.pointer (some ⟨b3, 0, none⟩)), v0, .agg #[.int .i64 (c.1 : Nat), .int .i64 (c.2 : Nat)], x6, p5, vm, x9, .agg #[.int .i64 0, .int .i64 1000000000], x11, p9, vc, x14, (.agg #[x6, x9, x11, x14]), undef, undef, undef, undef, undef, undef, undef], []⟩ w)) (HF : Hid (Fr (fun _ => False) w0 w)) (x11 : Value) (H11 : Hid (SpO w0 w x11 [(0, 1000000000)])) (L : Array Bool) (hL : L = #[true, false, false, true, true, false, true, true, true, true, false, false, false, false]) (a : Act) (ha : a = ⟨#[v0, p, r, undef, v0, undef, undef, p5, vm, undef, .agg #[.int .i64 0, .int .i64 1000000000], x11, p9, vc, undef, undef, undef, undef, undef, undef, undef, undef, undef], []⟩) :
  wpAnyH Tryz.prog .any (aOps Tryz.f114).toArray Q S 7 L a w := by
 subst hL ha
 refine wpAnyH_ready (rs := [1, 12]) (by kernel_rfl) (by simp) ?_
 refine held_cons rfl (fun K2 hK => ?p1) (held_cons rfl (fun K2 hK => ?p12) AllReadyH.nil)
 case p1 =>
  try rw [if_pos (by rfl)]
  go_simp
  refine (HC.out.f5 _ HF.out).mono ?_
  rintro e w5 ⟨rfl, hf⟩
  refine hK.out _ _ (HC.out.s _ (HF.out.trans hf)) (fun _ => ?_)
  exact arS_1_7 HC HQ (hid (HF.out.trans hf)) x11 (hid (H11.out.fr hf)) _ rfl _ rfl
 case p12 =>
  try rw [if_pos (by rfl)]
  go_simp
  have hf : Fr (fun _ => False) w (w.alloc (.cells #[.slice none 0 0, .slice none 0 0, .slice none 0 0, .slice none 0 0] 215)) := (Fr.refl _ _).alloc _
  refine hK.out _ _ (HC.out.s _ (HF.out.trans hf)) (fun _ => ?_)
  exact arS_7_12 HC HQ (hid (HF.out.trans hf)) x11 (hid (H11.out.fr hf)) _ (hid ⟨HF.out.size, heap_alloc_new w _⟩) _ rfl _ rfl
set_option maxRecDepth 30000 in
set_option maxHeartbeats 2000000 in
theorem arS_12 {Q : Exit → Act → World → Prop} {w0 w : World} {S : World → Prop} {v0 vm vc p r p5 p9 : Value} {c : SpM} {l9 l14 : List SpM} (HC : Hid (ArCx w0 S v0 vm vc c l9 l14)) (HQ : Hid ((∀ c a d v w, Q (.panic c) (Act.put a d v) w → Q (.panic c) a w) ∧ ∀ b3 x6 x9 x11 x14 w, w0.heap.size ≤ b3 → w.heap[b3]? = some (.cells #[x6, x9, x11, x14] 215) → SpO w0 w x6 [c] → SpO w0 w x9 l9 → SpO w0 w x11 [(0, 1000000000)] → SpO w0 w x14 l14 → Fr (fun _ => False) w0 w → Q .normal ⟨#[v0, p, r, (.pointer (some ⟨b3, 0, none⟩)), v0, .agg #[.int .i64 (c.1 : Nat), .int .i64 (c.2 : Nat)], x6, p5, vm, x9, .agg #[.int .i64 0, .int .i64 1000000000], x11, p9, vc, x14, (.agg #[x6, x9, x11, x14]), undef, undef, undef, undef, undef, undef, undef], []⟩ w)) (HF : Hid (Fr (fun _ => False) w0 w)) (b3 : Nat) (H3 : Hid (w0.heap.size ≤ b3 ∧ w.heap[b3]? = some (.cells #[.slice none 0 0, .slice none 0 0, .slice none 0 0, .slice none 0 0] 215))) (L : Array Bool) (hL : L = #[true, false, false, true, true, false, true, false, true, true, false, false, true, false]) (a : Act) (ha : a = ⟨#[v0, p, r, (.pointer (some ⟨b3, 0, none⟩)), v0, undef, undef, p5, vm, undef, .agg #[.int .i64 0, .int .i64 1000000000], undef, p9, vc, undef, undef, undef, undef, undef, undef, undef, undef, undef], []⟩) :
  wpAnyH Tryz.prog .any (aOps Tryz.f114).toArray Q S 7 L a w := by
 subst hL ha
 refine wpAnyH_ready (rs := [1, 7]) (by kernel_rfl) (by simp) ?_
 refine held_cons rfl (fun K2 hK => ?p1) (held_cons rfl (fun K2 hK => ?p7) AllReadyH.nil)
 case p1 =>
  try rw [if_pos (by rfl)]
  go_simp
  refine (HC.out.f5 _ HF.out).mono ?_
  rintro e w5 ⟨rfl, hf⟩
  refine hK.out _ _ (HC.out.s _ (HF.out.trans hf)) (fun _ => ?_)
  exact arS_1_12 HC HQ (hid (HF.out.trans hf)) b3 (hid ⟨H3.out.1, hf.whole H3.out.2 (by simp)⟩) _ rfl _ rfl
 case p7 =>
  try rw [if_pos (by rfl)]
  go_simp
  have hf : Fr (fun _ => False) w (w.alloc (.cells #[.int .i64 (((0, 1000000000) : SpM).1 : Nat), .int .i64 (((0, 1000000000) : SpM).2 : Nat)] 118)) := (Fr.refl _ _).alloc _
  refine hK.out _ _ (HC.out.s _ (HF.out.trans hf)) (fun _ => ?_)
  exact arS_7_12 HC HQ (hid (HF.out.trans hf)) _ (hid (SpO.one ((0, 1000000000) : SpM) HF.out.size)) b3 (hid ⟨H3.out.1, hf.whole H3.out.2 (by simp)⟩) _ rfl _ rfl
set_option maxRecDepth 30000 in
set_option maxHeartbeats 2000000 in
theorem arS_1 {Q : Exit → Act → World → Prop} {w0 w : World} {S : World → Prop} {v0 vm vc p r p5 p9 : Value} {c : SpM} {l9 l14 : List SpM} (HC : Hid (ArCx w0 S v0 vm vc c l9 l14)) (HQ : Hid ((∀ c a d v w, Q (.panic c) (Act.put a d v) w → Q (.panic c) a w) ∧ ∀ b3 x6 x9 x11 x14 w, w0.heap.size ≤ b3 → w.heap[b3]? = some (.cells #[x6, x9, x11, x14] 215) → SpO w0 w x6 [c] → SpO w0 w x9 l9 → SpO w0 w x11 [(0, 1000000000)] → SpO w0 w x14 l14 → Fr (fun _ => False) w0 w → Q .normal ⟨#[v0, p, r, (.pointer (some ⟨b3, 0, none⟩)), v0, .agg #[.int .i64 (c.1 : Nat), .int .i64 (c.2 : Nat)], x6, p5, vm, x9, .agg #[.int .i64 0, .int .i64 1000000000], x11, p9, vc, x14, (.agg #[x6, x9, x11, x14]), undef, undef, undef, undef, undef, undef, undef], []⟩ w)) (HF : Hid (Fr (fun _ => False) w0 w)) (L : Array Bool) (hL : L = #[true, true, false, true, true, false, true, false, true, true, false, false, false, false]) (a : Act) (ha : a = ⟨#[v0, p, r, undef, v0, .agg #[.int .i64 (c.1 : Nat), .int .i64 (c.2 : Nat)], undef, p5, vm, undef, .agg #[.int .i64 0, .int .i64 1000000000], undef, p9, vc, undef, undef, undef, undef, undef, undef, undef, undef, undef], []⟩) :
  wpAnyH Tryz.prog .any (aOps Tryz.f114).toArray Q S 7 L a w := by
 subst hL ha
 refine wpAnyH_ready (rs := [2, 5, 7, 12]) (by kernel_rfl) (by simp) ?_
 refine held_cons rfl (fun K2 hK => ?p2) (held_cons rfl (fun K2 hK => ?p5) (held_cons rfl (fun K2 hK => ?p7) (held_cons rfl (fun K2 hK => ?p12) AllReadyH.nil)))
 case p2 =>
  try rw [if_pos (by rfl)]
  go_simp
  have hf : Fr (fun _ => False) w (w.alloc (.cells #[.int .i64 (c.1 : Nat), .int .i64 (c.2 : Nat)] 118)) := (Fr.refl _ _).alloc _
  refine hK.out _ _ (HC.out.s _ (HF.out.trans hf)) (fun _ => ?_)
  exact arS_1_2 HC HQ (hid (HF.out.trans hf)) _ (hid (SpO.one c HF.out.size)) _ rfl _ rfl
 case p5 =>
  try rw [if_pos (by rfl)]
  go_simp
  refine (HC.out.f9 _ HF.out).mono ?_
  rintro e w5 ⟨⟨v, rfl, hv⟩, hf⟩
  refine hK.out _ _ (HC.out.s _ (HF.out.trans hf)) (fun _ => ?_)
  exact arS_1_5 HC HQ (hid (HF.out.trans hf)) v (hid hv) _ rfl _ rfl
 case p7 =>
  try rw [if_pos (by rfl)]
  go_simp
  have hf : Fr (fun _ => False) w (w.alloc (.cells #[.int .i64 (((0, 1000000000) : SpM).1 : Nat), .int .i64 (((0, 1000000000) : SpM).2 : Nat)] 118)) := (Fr.refl _ _).alloc _
  refine hK.out _ _ (HC.out.s _ (HF.out.trans hf)) (fun _ => ?_)
  exact arS_1_7 HC HQ (hid (HF.out.trans hf)) _ (hid (SpO.one ((0, 1000000000) : SpM) HF.out.size)) _ rfl _ rfl
 case p12 =>
  try rw [if_pos (by rfl)]
  go_simp
  have hf : Fr (fun _ => False) w (w.alloc (.cells #[.slice none 0 0, .slice none 0 0, .slice none 0 0, .slice none 0 0] 215)) := (Fr.refl _ _).alloc _
  refine hK.out _ _ (HC.out.s _ (HF.out.trans hf)) (fun _ => ?_)
  exact arS_1_12 HC HQ (hid (HF.out.trans hf)) _ (hid ⟨HF.out.size, heap_alloc_new w _⟩) _ rfl _ rfl
set_option maxRecDepth 30000 in
set_option maxHeartbeats 2000000 in
theorem arS {Q : Exit → Act → World → Prop} {w0 w : World} {S : World → Prop} {v0 vm vc p r p5 p9 : Value} {c : SpM} {l9 l14 : List SpM} (HC : Hid (ArCx w0 S v0 vm vc c l9 l14)) (HQ : Hid ((∀ c a d v w, Q (.panic c) (Act.put a d v) w → Q (.panic c) a w) ∧ ∀ b3 x6 x9 x11 x14 w, w0.heap.size ≤ b3 → w.heap[b3]? = some (.cells #[x6, x9, x11, x14] 215) → SpO w0 w x6 [c] → SpO w0 w x9 l9 → SpO w0 w x11 [(0, 1000000000)] → SpO w0 w x14 l14 → Fr (fun _ => False) w0 w → Q .normal ⟨#[v0, p, r, (.pointer (some ⟨b3, 0, none⟩)), v0, .agg #[.int .i64 (c.1 : Nat), .int .i64 (c.2 : Nat)], x6, p5, vm, x9, .agg #[.int .i64 0, .int .i64 1000000000], x11, p9, vc, x14, (.agg #[x6, x9, x11, x14]), undef, undef, undef, undef, undef, undef, undef], []⟩ w)) (HF : Hid (Fr (fun _ => False) w0 w)) (L : Array Bool) (hL : L = #[true, false, false, true, true, false, true, false, true, true, false, false, false, false]) (a : Act) (ha : a = ⟨#[v0, p, r, undef, v0, undef, undef, p5, vm, undef, .agg #[.int .i64 0, .int .i64 1000000000], undef, p9, vc, undef, undef, undef, undef, undef, undef, undef, undef, undef], []⟩) :
  wpAnyH Tryz.prog .any (aOps Tryz.f114).toArray Q S 8 L a w := by
 subst hL ha
 refine wpAnyH_ready (rs := [1, 7, 12]) (by kernel_rfl) (by simp) ?_
 refine held_cons rfl (fun K2 hK => ?p1) (held_cons rfl (fun K2 hK => ?p7) (held_cons rfl (fun K2 hK => ?p12) AllReadyH.nil))
 case p1 =>
  try rw [if_pos (by rfl)]
  go_simp
  refine (HC.out.f5 _ HF.out).mono ?_
  rintro e w5 ⟨rfl, hf⟩
  refine hK.out _ _ (HC.out.s _ (HF.out.trans hf)) (fun _ => ?_)
  exact arS_1 HC HQ (hid (HF.out.trans hf)) _ rfl _ rfl
 case p7 =>
  try rw [if_pos (by rfl)]
  go_simp
  have hf : Fr (fun _ => False) w (w.alloc (.cells #[.int .i64 (((0, 1000000000) : SpM).1 : Nat), .int .i64 (((0, 1000000000) : SpM).2 : Nat)] 118)) := (Fr.refl _ _).alloc _
  refine hK.out _ _ (HC.out.s _ (HF.out.trans hf)) (fun _ => ?_)
  exact arS_7 HC HQ (hid (HF.out.trans hf)) _ (hid (SpO.one ((0, 1000000000) : SpM) HF.out.size)) _ rfl _ rfl
 case p12 =>
  try rw [if_pos (by rfl)]
  go_simp
  have hf : Fr (fun _ => False) w (w.alloc (.cells #[.slice none 0 0, .slice none 0 0, .slice none 0 0, .slice none 0 0] 215)) := (Fr.refl _ _).alloc _
  refine hK.out _ _ (HC.out.s _ (HF.out.trans hf)) (fun _ => ?_)
  exact arS_12 HC HQ (hid (HF.out.trans hf)) _ (hid ⟨HF.out.size, heap_alloc_new w _⟩) _ rfl _ rfl
end Go.Proofs.YtccikgogjfbpeaaGreatDoor
