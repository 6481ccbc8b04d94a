/- The reader of images: lists, spans, skips, rules. The reader of images: spans. The reader of images: a step. -/
import Derived.Test.YtccikgogjfbpeabGreatDoorWHa
import Derived.Test.YtccikgogjfbpeabGreatDoorWIb
namespace Go.Proofs.YtccikgogjfbpeabGreatDoor
open Go.RowKit
set_option maxRecDepth 30000 in
set_option maxHeartbeats 1000000 in
theorem rskip_any (w : World) (B : Nat) (s : ByteArray) (i TT : Nat) (h : RdAt w B s i TT) :
  Calls Tryz.prog 154 #[.pointer (some ⟨B, 0, none⟩)] w (RdP w B s TT (numR s.data.toList 1 1 255 i) fun _ v x => v = .int .i64 (x : Nat)) := by
 have HH := hid (rnumber_any w B s i TT 1 1 1 255 h (by decide) rfl)
 clear h
 obtain ⟨N, hN⟩ : ∃ N, numR s.data.toList 1 1 255 i = N := ⟨_, rfl⟩
 rw [hN] at HH ⊢
 clear hN
 go_enter Tryz.func154, Tryz.ntmps154
 go_wp2_with fail
 refine (HH.o).mono ?_
 intro e w1 hp
 cases N with
 | none =>
  obtain ⟨he, hf⟩ := hp
  unfold noE at he
  subst he
  exact ⟨rfl, rfl, hf⟩
 | some xj =>
  obtain ⟨x, j⟩ := xj
  obtain ⟨⟨v, rfl, hv⟩, hR, hf⟩ := hp
  try subst hv
  have HR := hid hR
  have HF := hid hf
  clear hR hf
  go_wp2_with fail
  go_ret
  exact ⟨⟨_, rfl, rfl⟩, HR.o, HF.o⟩
set_option maxRecDepth 30000 in
set_option maxHeartbeats 1000000 in
theorem rrule_any (w : World) (B : Nat) (s : ByteArray) (i TT : Nat) (na : Option Addr) (nn nc : Nat) (h : RdAt w B s i TT) (hT : w.cell? ⟨TT, 1, none⟩ = some (.slice na nn nc)) (hn : nn <= 8) :
  Calls Tryz.prog 157 #[.pointer (some ⟨B, 0, none⟩)] w (RdP w B s TT (numR s.data.toList 1 0 ((nn : Int) - 1) i) fun _ v x => v = .int .i64 (x : Nat)) := by
 have HH := hid (rnumber_any w B s i TT 1 1 0 ((nn : Int) - 1) h (by decide) rfl)
 have c2 : w.cell? ⟨B, 2, none⟩ = some (.pointer (some ⟨TT, 0, none⟩)) := block_cell h.bx 2 _ rfl
 have hw : IntKind.i64.wrap ((nn : Int) - 1) = (nn : Int) - 1 := IntWalk.i64_in _ (by constructor <;> omega)
 clear h
 obtain ⟨N, hN⟩ : ∃ N, numR s.data.toList 1 0 ((nn : Int) - 1) i = N := ⟨_, rfl⟩
 rw [hN] at HH ⊢
 clear hN
 go_enter Tryz.func157, Tryz.ntmps157
 go_wp2_with fail
 refine (HH.o).mono ?_
 intro e w1 hp
 cases N with
 | none =>
  obtain ⟨he, hf⟩ := hp
  unfold noE at he
  subst he
  exact ⟨rfl, rfl, hf⟩
 | some xj =>
  obtain ⟨x, j⟩ := xj
  obtain ⟨⟨v, rfl, hv⟩, hR, hf⟩ := hp
  try subst hv
  have HR := hid hR
  have HF := hid hf
  clear hR hf
  go_wp2_with fail
  go_ret
  exact ⟨⟨_, rfl, rfl⟩, HR.o, HF.o⟩
set_option maxRecDepth 30000 in
set_option maxHeartbeats 1000000 in
theorem rlistD_any (w : World) (B : Nat) (s : ByteArray) (i TT b1 b2 : Nat) (hi : Int) (h : RdAt w B s i TT) (h1 : w.cell? ⟨b1, 0, none⟩ = some (.pointer (some ⟨B, 0, none⟩))) (h2 : w.cell? ⟨b2, 0, none⟩ = some (.int .i64 hi)) :
  Calls Tryz.prog 192 #[.pointer (some ⟨b1, 0, none⟩), .pointer (some ⟨b2, 0, none⟩)] w (RdP w B s TT (numR s.data.toList 2 0 hi i) fun _ v x => v = .int .i64 (x : Nat)) := by
 have HH := hid (rnumber_any w B s i TT 2 2 0 hi h (by decide) rfl)
 clear h
 obtain ⟨N, hN⟩ : ∃ N, numR s.data.toList 2 0 hi i = N := ⟨_, rfl⟩
 rw [hN] at HH ⊢
 clear hN
 go_enter Tryz.func192, Tryz.ntmps192
 go_wp2_with fail
 refine (HH.o).mono ?_
 intro e w1 hp
 cases N with
 | none =>
  obtain ⟨he, hf⟩ := hp
  unfold noE at he
  subst he
  exact ⟨rfl, rfl, hf⟩
 | some xj =>
  obtain ⟨x, j⟩ := xj
  obtain ⟨⟨v, rfl, hv⟩, hR, hf⟩ := hp
  try subst hv
  have HR := hid hR
  have HF := hid hf
  clear hR hf
  go_wp2_with fail
  go_ret
  exact ⟨⟨_, rfl, rfl⟩, HR.o, HF.o⟩
set_option maxRecDepth 30000 in
set_option maxHeartbeats 1000000 in
theorem rlist_any (w : World) (B : Nat) (s : ByteArray) (i TT : Nat) (hi : Int) (h : RdAt w B s i TT) :
  Calls Tryz.prog 155 #[.pointer (some ⟨B, 0, none⟩), .int .i64 hi] w (RdP w B s TT (listR s.data.toList hi i) fun w' v xs => w'.ownsRow w.heap.size 3 1 v xs.length (intRow xs)) := by
 have hmf : ∀ (fn : Fn) (first cap : Array Value) (w : World), (Instr.makeFunc fn first cap).run Tryz.prog w = .ok (.func fn first cap) w := fun _ _ _ _ => rfl
 obtain ⟨W, hW⟩ : ∃ W, (w.alloc (.cells #[.pointer (some ⟨B, 0, none⟩)] 86)).alloc (.cells #[.int .i64 hi] 3) = W := ⟨_, rfl⟩
 obtain ⟨P, hP⟩ : ∃ P, w.heap.size = P := ⟨_, rfl⟩
 have hBl : B < P := by rw [<- hP]; exact (Array.getElem?_eq_some_iff.1 h.bx).1
 have HF0 : Hid (Fr (fun k => k = B) w W) := by show Fr _ _ _; rw [<- hW]; exact ((Fr.refl _ _).alloc _).alloc _
 have HR0 : Hid (RdAt W B s i TT) := by show RdAt _ _ _ _ _; rw [<- hW]; exact h.fr (S := fun _ => False) (((Fr.refl _ _).alloc _).alloc _) (by simp)
 have c1 : W.cell? ⟨P, 0, none⟩ = some (.pointer (some ⟨B, 0, none⟩)) := by
  rw [<- hW, <- hP]
  exact block_cell (((Fr.refl (fun _ => False) _).alloc _).whole (heap_alloc_new w _) (by simp)) 0 _ rfl
 have c2 : W.cell? ⟨P + 1, 0, none⟩ = some (.int .i64 hi) := by
  rw [<- hW, <- hP]
  have e := heap_alloc_new (w.alloc (.cells #[.pointer (some ⟨B, 0, none⟩)] 86)) (.cells #[.int .i64 hi] 3)
  exact block_cell (by simpa using e) 0 _ rfl
 have HQ0 : Hid (W.cell? ⟨P, 0, none⟩ = some (.pointer (some ⟨B, 0, none⟩)) /\ W.cell? ⟨P + 1, 0, none⟩ = some (.int .i64 hi)) := ⟨c1, c2⟩
 have hWs : P <= W.heap.size := by rw [<- hP]; exact HF0.o.size
 have HM : Hid (Calls Tryz.prog 191 #[.pointer (some ⟨B, 0, none⟩), .int .i64 1, .int .i64 4, .func (.func 192) #[] #[.pointer (some ⟨P, 0, none⟩), .pointer (some ⟨P + 1, 0, none⟩)]] W (RdP W B s TT (listR s.data.toList hi i) fun w' v xs => w'.ownsRow W.heap.size 3 1 v xs.length (intRow xs))) :=
  manyInt_any W B s i TT 1 4 P (P + 1) (numR s.data.toList 2 0 hi) (fun W => W.cell? ⟨P, 0, none⟩ = some (.pointer (some ⟨B, 0, none⟩)) /\ W.cell? ⟨P + 1, 0, none⟩ = some (.int .i64 hi))
   (fun W W' hq hf => ⟨(hf.cell (p := ⟨P, 0, none⟩) (World.block_lt_of_cell? W _ hq.1) (by show ¬ P = B; omega)).trans hq.1, (hf.cell (p := ⟨P + 1, 0, none⟩) (World.block_lt_of_cell? W _ hq.2) (by show ¬ P + 1 = B; omega)).trans hq.2⟩)
   HR0.o HQ0.o (by omega) (fun W i hR hq => rlistD_any W B s i TT P (P + 1) hi hR hq.1 hq.2)
 clear h
 obtain ⟨N, hN⟩ : ∃ N, listR s.data.toList hi i = N := ⟨_, rfl⟩
 rw [hN] at HM ⊢
 clear hN
 go_enter Tryz.func155, Tryz.ntmps155
 go_upto_region 1 with fail
 have HPw := hid hP
 clear hP hW
 go_wp2_with fail
 refine (HM.o).mono ?_
 intro e w1 hp
 cases N with
 | none =>
  obtain ⟨he, hf⟩ := hp
  unfold noE at he
  subst he
  exact ⟨rfl, rfl, (HF0.o.trans hf)⟩
 | some xj =>
  obtain ⟨x, j⟩ := xj
  obtain ⟨⟨v, rfl, hv⟩, hR, hf⟩ := hp
  try subst hv
  have HR := hid hR
  have HF := hid hf
  clear hR hf
  have HV := hid hv
  clear hv
  go_wp2_with fail
  go_ret
  exact ⟨⟨_, rfl, ownsRow_base HV.o (by rw [HPw.o]; exact hWs)⟩, HR.o, HF0.o.trans HF.o⟩
end Go.Proofs.YtccikgogjfbpeabGreatDoor

namespace Go.Proofs.YtccikgogjfbpeabGreatDoor
open Go.RowKit
def span2 (b : List UInt8) (hi : Int) : Rd (List Nat) := fun i => match numR b 4 0 hi i with
 | none => none
 | some (y, k) => match numR b 4 y hi k with
  | none => none
  | some (z, l) => some ([y, z], l)
theorem own_two (w : World) (y z : Nat) : (w.alloc (.cells #[.int .i64 (y : Nat), .int .i64 (z : Nat)] 3)).ownsRow w.heap.size 3 1 (.slice (some ⟨w.heap.size, 0, none⟩) 2 2) 2 (intRow [y, z]) :=
 ⟨rfl, .inr ⟨w.heap.size, 2, #[.int .i64 (y : Nat), .int .i64 (z : Nat)], rfl, Nat.le_refl _, heap_alloc_new w _, Nat.le_refl _, by unfold maxLen; simp, by simp, by simp [intRow]⟩⟩
set_option maxRecDepth 30000 in
set_option maxHeartbeats 1000000 in
theorem rspan_any (w : World) (B : Nat) (s : ByteArray) (i TT : Nat) (hi : Int) (h : RdAt w B s i TT) :
  Calls Tryz.prog 156 #[.pointer (some ⟨B, 0, none⟩), .int .i64 hi] w (RdP w B s TT (span2 s.data.toList hi i) fun w' v xs => w'.ownsRow w.heap.size 3 1 v xs.length (intRow xs)) := by
 have HH := hid (rnumber_any w B s i TT 4 4 0 hi h (by decide) rfl)
 obtain ⟨N, hN⟩ : ∃ N, span2 s.data.toList hi i = N := ⟨_, rfl⟩
 rw [hN]
 have HN := hid hN
 clear h hN
 go_enter Tryz.func156, Tryz.ntmps156
 go_wp2_with fail
 refine HH.o.mono ?_
 intro e w1 hp
 cases h1 : numR s.data.toList 4 0 hi i with
 | none =>
  rw [h1] at hp
  obtain ⟨he, hf⟩ := hp
  have eN : N = none := by rw [<- HN.o]; unfold span2; rw [h1]
  subst eN
  unfold noE at he
  subst he
  exact ⟨rfl, rfl, hf⟩
 | some yk =>
  obtain ⟨y, k⟩ := yk
  rw [h1] at hp
  obtain ⟨⟨v, rfl, rfl⟩, hR1, hf1⟩ := hp
  have HF1 := hid hf1
  have H1 := hid h1
  have HH2 := hid (rnumber_any w1 B s k TT 4 4 y hi hR1 (by decide) rfl)
  clear hR1 hf1 h1 HH
  go_wp2_with fail
  refine HH2.o.mono ?_
  intro e w2 hp
  cases h2 : numR s.data.toList 4 y hi k with
  | none =>
   rw [h2] at hp
   obtain ⟨he, hf⟩ := hp
   have eN : N = none := by rw [<- HN.o]; unfold span2; rw [H1.o]; simp only [h2]
   subst eN
   unfold noE at he
   subst he
   exact ⟨rfl, rfl, HF1.o.trans hf⟩
  | some zl =>
   obtain ⟨z, l⟩ := zl
   rw [h2] at hp
   obtain ⟨⟨v, rfl, rfl⟩, hR2, hf2⟩ := hp
   have eN : N = some ([y, z], l) := by rw [<- HN.o]; unfold span2; rw [H1.o]; simp only [h2]
   subst eN
   have HR2 := hid hR2
   have HF2 := hid (HF1.o.trans hf2)
   clear hR2 hf2 h2
   go_wp2_with fail
   go_ret
   exact ⟨⟨_, rfl, ownsRow_base (own_two w2 y z) HF2.o.size⟩, HR2.o.fr (S := fun _ => False) ((Fr.refl _ _).alloc _) (by simp), HF2.o.alloc _⟩
end Go.Proofs.YtccikgogjfbpeabGreatDoor

namespace Go.Proofs.YtccikgogjfbpeabGreatDoor
open Go.RowKit
structure StS (w wx : World) (B X : Nat) (s : ByteArray) (j TT : Nat) (c0 c1 c2 c3 : Value) : Prop where
 rd : RdAt wx B s j TT
 bx : wx.heap[X]? = some (.cells #[c0, c1, c2, c3] 172)
 bp : wx.heap[w.heap.size]? = some (.cells #[.int .u8 0, .slice none 0 0, .int .i64 0, .int .i64 0] 172)
 fr : Fr (fun k => k = B) w wx
 ne : w.heap.size < X
 lt : B < w.heap.size
theorem StS.call {w wx wy : World} {B X j j' TT : Nat} {s : ByteArray} {c0 c1 c2 c3 : Value} (h : StS w wx B X s j TT c0 c1 c2 c3) (hr : RdAt wy B s j' TT) (hf : Fr (fun k => k = B) wx wy) : StS w wy B X s j' TT c0 c1 c2 c3 := by
 have h1 := h.ne
 have h2 := h.lt
 exact ⟨hr, hf.whole h.bx (by show ¬ X = B; omega), hf.whole h.bp (by show ¬ w.heap.size = B; omega), h.fr.trans hf, h1, h2⟩
theorem StS.set {w wx : World} {B X j TT : Nat} {s : ByteArray} {c0 c1 c2 c3 d0 d1 d2 d3 : Value} (h : StS w wx B X s j TT c0 c1 c2 c3) (o : Nat) (v : Value) (e : (#[c0, c1, c2, c3] : Array Value).setIfInBounds o v = #[d0, d1, d2, d3]) : StS w (wx.setCell ⟨X, o, none⟩ v) B X s j TT d0 d1 d2 d3 := by
 have h1 := h.ne
 have h2 := h.lt
 have f : Fr (fun k => k = X) wx (wx.setCell ⟨X, o, none⟩ v) := (Fr.refl (fun k => k = X) wx).setCell (p := ⟨X, o, none⟩) (Or.inl rfl) v
 have b := heap_setCell_same wx X o _ _ v h.bx
 rw [e] at b
 exact ⟨h.rd.fr f (by show ¬ B = X; omega), b, f.whole h.bp (by show ¬ w.heap.size = X; omega), h.fr.setCell (p := ⟨X, o, none⟩) (Or.inr (by show w.heap.size <= X; omega)) v, h1, h2⟩
theorem ints_set {w : World} {base X : Nat} {v : Value} {n : Nat} {xs : List Value} {cs : Array Value} (h : w.ownsRow base 3 1 v n xs) (hb : w.heap[X]? = some (.cells cs 172)) (o : Nat) (u : Value) : (w.setCell ⟨X, o, none⟩ u).ownsRow base 3 1 v n xs := by
 refine ⟨h.1, ?_⟩
 rcases h.2 with hn | ⟨g, cap, cur, rfl, hb2, hgg, rest⟩
 ·exact .inl hn
 ·refine .inr ⟨g, cap, cur, rfl, hb2, ?_, rest⟩
  have hne : g ≠ X := fun e => by subst e; rw [hb] at hgg; injection hgg with e; injection e with _ e2; exact absurd e2 (by decide)
  exact ((Fr.refl (fun k => k = X) w).setCell (p := ⟨X, o, none⟩) (Or.inl rfl) u).whole hgg hne
def spanS (b : List UInt8) : Rd StepM := fun i => match numR b 1 1 255 i with
 | none => none
 | some (x, j) => match span2 b 1000000000 j with
  | none => none
  | some (l, k) => some (⟨1, l, 0, x⟩, k)
theorem span_eq (b : List UInt8) (i : Nat) : spanR b i = spanS b i := by
 unfold spanR spanS span2
 cases numR b 1 1 255 i with
 | none => rfl
 | some p =>
  obtain ⟨x, j⟩ := p
  dsimp only
  cases numR b 4 0 1000000000 j with
  | none => rfl
  | some q =>
   obtain ⟨y, k⟩ := q
   dsimp only
   cases numR b 4 y 1000000000 k <;> rfl
def rstV (so ru sk : Nat) (na : Option Addr) (nn nc : Nat) : Value := .agg #[.int .u8 (so : Nat), .slice na nn nc, .int .i64 (ru : Nat), .int .i64 (sk : Nat)]
theorem set4s {w : World} {b : Nat} {t : TypeId} {u0 u1 u2 u3 v0 v1 v2 v3 : Value} (h : w.heap[b]? = some (.cells #[u0, u1, u2, u3] t)) :
    ((((w.setCell ⟨b, 0, none⟩ v0).setCell ⟨b, 1, none⟩ v1).setCell ⟨b, 2, none⟩ v2).setCell ⟨b, 3, none⟩ v3).heap[b]? = some (.cells #[v0, v1, v2, v3] t) := by
  have e := heap_setCell_same _ b 3 _ _ v3 (heap_setCell_same _ b 2 _ _ v2 (heap_setCell_same _ b 1 _ _ v1 (heap_setCell_same w b 0 _ _ v0 h)))
  simpa using e
theorem StS.fin {w wx : World} {B X j TT : Nat} {s : ByteArray} {c0 c1 c2 c3 : Value} (h : StS w wx B X s j TT c0 c1 c2 c3) {v : Value} {n : Nat} {xs : List Value} (hv : wx.ownsRow w.heap.size 3 1 v n xs) (u0 u1 u2 u3 : Value) :
    RdAt ((((wx.setCell ⟨w.heap.size, 0, none⟩ u0).setCell ⟨w.heap.size, 1, none⟩ u1).setCell ⟨w.heap.size, 2, none⟩ u2).setCell ⟨w.heap.size, 3, none⟩ u3) B s j TT /\ ((((wx.setCell ⟨w.heap.size, 0, none⟩ u0).setCell ⟨w.heap.size, 1, none⟩ u1).setCell ⟨w.heap.size, 2, none⟩ u2).setCell ⟨w.heap.size, 3, none⟩ u3).ownsRow w.heap.size 3 1 v n xs /\ Fr (fun k => k = B) w ((((wx.setCell ⟨w.heap.size, 0, none⟩ u0).setCell ⟨w.heap.size, 1, none⟩ u1).setCell ⟨w.heap.size, 2, none⟩ u2).setCell ⟨w.heap.size, 3, none⟩ u3) := by
  have hne : w.heap.size ≠ B := by have := h.lt; omega
  have b0 := heap_setCell_same wx w.heap.size 0 _ _ u0 h.bp
  have b1 := heap_setCell_same _ w.heap.size 1 _ _ u1 b0
  have b2 := heap_setCell_same _ w.heap.size 2 _ _ u2 b1
  exact ⟨(((h.rd.set 0 u0 hne).set 1 u1 hne).set 2 u2 hne).set 3 u3 hne, ints_set (ints_set (ints_set (ints_set hv h.bp 0 u0) b0 1 u1) b1 2 u2) b2 3 u3,
    (((h.fr.setCell (p := ⟨w.heap.size, 0, none⟩) (Or.inr (Nat.le_refl _)) u0).setCell (p := ⟨w.heap.size, 1, none⟩) (Or.inr (Nat.le_refl _)) u1).setCell (p := ⟨w.heap.size, 2, none⟩) (Or.inr (Nat.le_refl _)) u2).setCell (p := ⟨w.heap.size, 3, none⟩) (Or.inr (Nat.le_refl _)) u3⟩
theorem step_end {w W9 : World} {B X m TT so ru sk : Nat} {s : ByteArray} {qa : Option Addr} {qc : Nat} {l : List Nat} (h : StS w W9 B X s m TT (.int .u8 (so : Nat)) (.slice qa l.length qc) (.int .i64 (ru : Nat)) (.int .i64 (sk : Nat))) (hv : W9.ownsRow w.heap.size 3 1 (.slice qa l.length qc) l.length (intRow l)) {t : Array Value} (ht : t[2]? = some (.pointer (some ⟨w.heap.size, 0, none⟩))) :
    bodyPost Tryz.prog Tryz.f119 (RdP w B s TT (some ((⟨so, l, ru, sk⟩ : StepM), m)) fun w' v (x : StepM) => ∃ (qa : Option Addr) (qc : Nat), v = rstV x.sort x.rule x.skip qa x.nums.length qc /\ w'.ownsRow w.heap.size 3 1 (.slice qa x.nums.length qc) x.nums.length (intRow x.nums)) .ret ⟨t, []⟩
      ((((W9.setCell ⟨w.heap.size, 0, none⟩ (.int .u8 (so : Nat))).setCell ⟨w.heap.size, 1, none⟩ (.slice qa l.length qc)).setCell ⟨w.heap.size, 2, none⟩ (.int .i64 (ru : Nat))).setCell ⟨w.heap.size, 3, none⟩ (.int .i64 (sk : Nat))) := by
  obtain ⟨g1, g2, g3⟩ := h.fin hv (.int .u8 (so : Nat)) (.slice qa l.length qc) (.int .i64 (ru : Nat)) (.int .i64 (sk : Nat))
  have e4 := set4s (v0 := .int .u8 (so : Nat)) (v1 := .slice qa l.length qc) (v2 := .int .i64 (ru : Nat)) (v3 := .int .i64 (sk : Nat)) h.bp
  have s0 := block_cell e4 0 _ rfl
  have s1 := block_cell e4 1 _ rfl
  have s2 := block_cell e4 2 _ rfl
  have s3 := block_cell e4 3 _ rfl
  generalize (((W9.setCell ⟨w.heap.size, 0, none⟩ (.int .u8 (so : Nat))).setCell ⟨w.heap.size, 1, none⟩ (.slice qa l.length qc)).setCell ⟨w.heap.size, 2, none⟩ (.int .i64 (ru : Nat))).setCell ⟨w.heap.size, 3, none⟩ (.int .i64 (sk : Nat)) = W at *
  exact bodyPost_ret (v := rstV so ru sk qa l.length qc) (by simp [results, Tryz.results119, go_sem, ht, s0, s1, s2, s3, rstV]) rfl ⟨⟨_, rfl, qa, qc, rfl, g2⟩, g1, g3⟩
set_option maxRecDepth 30000 in
set_option maxHeartbeats 4000000 in
theorem rstep_any (w : World) (B : Nat) (s : ByteArray) (i TT : Nat) (ra : Option Addr) (nr rc : Nat) (na : Option Addr) (nn nc : Nat) (h : RdAt w B s i TT) (hne : TT ≠ B) (h0 : w.cell? ⟨TT, 0, none⟩ = some (.slice ra nr rc)) (h1 : w.cell? ⟨TT, 1, none⟩ = some (.slice na nn nc)) (hr6 : nr <= 6) (hn8 : nn <= 8) :
  Calls Tryz.prog 119 #[.pointer (some ⟨B, 0, none⟩)] w (RdP w B s TT (stepR s.data.toList nr nn i) fun w' v x => ∃ (qa : Option Addr) (qc : Nat), v = rstV x.sort x.rule x.skip qa x.nums.length qc /\ w'.ownsRow w.heap.size 3 1 (.slice qa x.nums.length qc) x.nums.length (intRow x.nums)) := by
 obtain ⟨W0, hW0⟩ : ∃ W0, w.alloc (.cells #[.int .u8 0, .slice none 0 0, .int .i64 0, .int .i64 0] 172) = W0 := ⟨_, rfl⟩
 have hBl : B < w.heap.size := (Array.getElem?_eq_some_iff.1 h.bx).1
 have HF0 : Hid (F0 w W0) := by show Fr _ _ _; rw [<- hW0]; exact (Fr.refl _ _).alloc _
 have HP0 : Hid (W0.heap[w.heap.size]? = some (.cells #[.int .u8 0, .slice none 0 0, .int .i64 0, .int .i64 0] 172)) := by show _ = _; rw [<- hW0]; exact heap_alloc_new w _
 have HR0 : Hid (RdAt W0 B s i TT) := h.fr HF0.o (by simp)
 have HT : Hid (∀ W, Fr (fun k => k = B) w W -> W.cell? ⟨TT, 0, none⟩ = some (.slice ra nr rc) /\ W.cell? ⟨TT, 1, none⟩ = some (.slice na nn nc)) := fun W hf => ⟨(hf.cell (p := ⟨TT, 0, none⟩) (World.block_lt_of_cell? w _ h0) hne).trans h0, (hf.cell (p := ⟨TT, 1, none⟩) (World.block_lt_of_cell? w _ h1) hne).trans h1⟩
 obtain ⟨N, hN⟩ : ∃ N, stepR s.data.toList nr nn i = N := ⟨_, rfl⟩
 rw [hN]
 have HN0 := hid hN
 have hPs : w.heap.size < W0.heap.size := by rw [<- hW0]; simp
 clear h hN h0 h1
 go_enter Tryz.func119, Tryz.ntmps119
 go_upto_region 1 with fail
 clear hW0
 go_wp2_with fail
 refine (rnumber_any W0 B s i TT 1 1 0 6 HR0.o (by decide) rfl).mono ?_
 intro e w1 hp
 cases h1 : numR s.data.toList 1 0 6 i with
 | none =>
  rw [h1] at hp
  obtain ⟨he, hf⟩ := hp
  have eN : N = none := by rw [<- HN0.o]; unfold stepR; rw [h1]
  subst eN
  unfold noE at he
  subst he
  exact ⟨rfl, rfl, (HF0.o.mono (by simp)).trans hf⟩
 | some xj =>
  obtain ⟨x, j⟩ := xj
  rw [h1] at hp
  obtain ⟨⟨v, rfl, rfl⟩, hR1, hf1⟩ := hp
  have hx6 : x <= 6 := by have := (numR_some h1).2; omega
  have hw8 : IntKind.u8.wrap (x : Int) = (x : Int) := IntWalk.u8_in _ (by constructor <;> omega)
  have HN : Hid ((if x = 0 then guardR s.data.toList 0 9999 j else if x = 1 then spanS s.data.toList j else if x = 2 then guardR s.data.toList 2 999 j else if x = 6 then some (⟨6, [], 0, 0⟩, j) else endR s.data.toList x nr nn j) = N) := by
   show _ = _
   rw [<- HN0.o]
   unfold stepR
   rw [h1, <- span_eq]
  have HSa : Hid (StS w (w1.alloc (.cells #[.int .u8 (x : Nat), .slice none 0 0, .int .i64 0, .int .i64 0] 172)) B w1.heap.size s j TT (.int .u8 (x : Nat)) (.slice none 0 0) (.int .i64 0) (.int .i64 0)) :=
   ⟨hR1.fr (S := fun _ => False) ((Fr.refl _ _).alloc _) (by simp), heap_alloc_new w1 _, ((Fr.refl (fun _ => False) _).alloc _).whole (hf1.whole HP0.o (by show ¬ w.heap.size = B; omega)) (by simp), ((HF0.o.mono (by simp)).trans hf1).alloc _, by have := hf1.size; omega, hBl⟩
  clear h1 hR1 hf1 HN0 HR0
  go_upto_region 2 with fail
  generalize w1.alloc (.cells #[.int .u8 (x : Nat), .slice none 0 0, .int .i64 0, .int .i64 0] 172) = W1 at *
  generalize w1.heap.size = X at *
  clear hw8
  have z0 : W1.cell? ⟨X, 0, none⟩ = some (.int .u8 (x : Nat)) := block_cell HSa.o.bx 0 _ rfl
  have h7 : x = 0 \/ x = 1 \/ x = 2 \/ x = 3 \/ x = 4 \/ x = 5 \/ x = 6 := by omega
  rcases h7 with rfl | rfl | rfl | rfl | rfl | rfl | rfl
  ·replace HN : Hid (guardR s.data.toList 0 9999 j = N) := HN
   go_wp2_with fail
   refine (rskip_any _ B s j TT HSa.o.rd).mono ?_
   intro e w2 hp
   cases h2 : numR s.data.toList 1 1 255 j with
   | none =>
    rw [h2] at hp
    obtain ⟨he, hf⟩ := hp
    have eN : N = none := by rw [<- HN.o]; unfold guardR; rw [h2]
    subst eN
    unfold noE at he
    subst he
    exact ⟨rfl, rfl, HSa.o.fr.trans hf⟩
   | some xk =>
    obtain ⟨sk, k⟩ := xk
    rw [h2] at hp
    obtain ⟨⟨v, rfl, rfl⟩, hR2, hf2⟩ := hp
    have H2 := hid h2
    have HSb := hid (HSa.o.call hR2 hf2)
    have z3 := block_cell HSb.o.bx 3 _ rfl
    have f3 := block_frozen HSb.o.bx 3
    have HSc := hid (HSb.o.set 3 (.int .i64 (sk : Nat)) rfl)
    clear hR2 hf2 h2 HSb HSa
    go_upto_region 5 with fail
    clear z3 f3
    generalize w2.setCell ⟨X, 3, none⟩ (.int .i64 (sk : Nat)) = W2 at *
    go_wp2_with fail
    refine (rlist_any W2 B s k TT 9999 HSc.o.rd).mono ?_
    intro e w3 hp
    cases h3 : listR s.data.toList 9999 k with
    | none =>
     rw [h3] at hp
     obtain ⟨he, hf⟩ := hp
     have eN : N = none := by rw [<- HN.o]; unfold guardR; rw [H2.o]; simp only [h3]
     subst eN
     unfold noE at he
     subst he
     exact ⟨rfl, rfl, HSc.o.fr.trans hf⟩
    | some ll =>
     obtain ⟨l, m⟩ := ll
     rw [h3] at hp
     obtain ⟨⟨v, rfl, hv⟩, hR3, hf3⟩ := hp
     have eN : N = some (⟨0, l, 0, sk⟩, m) := by rw [<- HN.o]; unfold guardR; rw [H2.o]; simp only [h3]
     have HSd := hid (HSc.o.call hR3 hf3)
     have HV := hid (ownsRow_base hv HSc.o.fr.size)
     obtain ⟨na, nc, e1⟩ := ownsRow_len hv
     subst e1
     have z1 := block_cell HSd.o.bx 1 _ rfl
     have f1 := block_frozen HSd.o.bx 1
     have HSe := hid (HSd.o.set 1 (.slice na l.length nc) rfl)
     have HVe := hid (ints_set HV.o HSd.o.bx 1 (.slice na l.length nc))
     clear hv hR3 hf3 h3 HSd HV HSc
     go_upto_region 18 with fail
     clear z1 f1
     generalize w3.setCell ⟨X, 1, none⟩ (.slice na l.length nc) = W9 at *
     subst eN
     have q0 : W9.cell? ⟨X, 0, none⟩ = some (.int .u8 ((0 : Nat) : Int)) := block_cell HSe.o.bx 0 _ rfl
     have q1 : W9.cell? ⟨X, 1, none⟩ = some (.slice na (l).length nc) := block_cell HSe.o.bx 1 _ rfl
     have q2 : W9.cell? ⟨X, 2, none⟩ = some (.int .i64 ((0 : Nat) : Int)) := block_cell HSe.o.bx 2 _ rfl
     have q3 : W9.cell? ⟨X, 3, none⟩ = some (.int .i64 ((sk : Nat) : Int)) := block_cell HSe.o.bx 3 _ rfl
     have p0 := block_cell HSe.o.bp 0 _ rfl
     have p1 := block_cell HSe.o.bp 1 _ rfl
     have p2 := block_cell HSe.o.bp 2 _ rfl
     have p3 := block_cell HSe.o.bp 3 _ rfl
     have g0 := block_frozen HSe.o.bp 0
     have g1 := block_frozen HSe.o.bp 1
     have g2 := block_frozen HSe.o.bp 2
     have g3 := block_frozen HSe.o.bp 3
     go_wp2_with fail
     exact step_end (so := 0) (ru := 0) (sk := sk) HSe.o HVe.o rfl
  ·replace HN : Hid (spanS s.data.toList j = N) := HN
   go_wp2_with fail
   refine (rskip_any _ B s j TT HSa.o.rd).mono ?_
   intro e w2 hp
   cases h2 : numR s.data.toList 1 1 255 j with
   | none =>
    rw [h2] at hp
    obtain ⟨he, hf⟩ := hp
    have eN : N = none := by rw [<- HN.o]; unfold spanS; rw [h2]
    subst eN
    unfold noE at he
    subst he
    exact ⟨rfl, rfl, HSa.o.fr.trans hf⟩
   | some xk =>
    obtain ⟨sk, k⟩ := xk
    rw [h2] at hp
    obtain ⟨⟨v, rfl, rfl⟩, hR2, hf2⟩ := hp
    have H2 := hid h2
    have HSb := hid (HSa.o.call hR2 hf2)
    have z3 := block_cell HSb.o.bx 3 _ rfl
    have f3 := block_frozen HSb.o.bx 3
    have HSc := hid (HSb.o.set 3 (.int .i64 (sk : Nat)) rfl)
    clear hR2 hf2 h2 HSb HSa
    go_upto_region 8 with fail
    clear z3 f3
    generalize w2.setCell ⟨X, 3, none⟩ (.int .i64 (sk : Nat)) = W2 at *
    go_wp2_with fail
    refine (rspan_any W2 B s k TT 1000000000 HSc.o.rd).mono ?_
    intro e w3 hp
    cases h3 : span2 s.data.toList 1000000000 k with
    | none =>
     rw [h3] at hp
     obtain ⟨he, hf⟩ := hp
     have eN : N = none := by rw [<- HN.o]; unfold spanS; rw [H2.o]; simp only [h3]
     subst eN
     unfold noE at he
     subst he
     exact ⟨rfl, rfl, HSc.o.fr.trans hf⟩
    | some ll =>
     obtain ⟨l, m⟩ := ll
     rw [h3] at hp
     obtain ⟨⟨v, rfl, hv⟩, hR3, hf3⟩ := hp
     have eN : N = some (⟨1, l, 0, sk⟩, m) := by rw [<- HN.o]; unfold spanS; rw [H2.o]; simp only [h3]
     have HSd := hid (HSc.o.call hR3 hf3)
     have HV := hid (ownsRow_base hv HSc.o.fr.size)
     obtain ⟨na, nc, e1⟩ := ownsRow_len hv
     subst e1
     have z1 := block_cell HSd.o.bx 1 _ rfl
     have f1 := block_frozen HSd.o.bx 1
     have HSe := hid (HSd.o.set 1 (.slice na l.length nc) rfl)
     have HVe := hid (ints_set HV.o HSd.o.bx 1 (.slice na l.length nc))
     clear hv hR3 hf3 h3 HSd HV HSc
     go_upto_region 18 with fail
     clear z1 f1
     generalize w3.setCell ⟨X, 1, none⟩ (.slice na l.length nc) = W9 at *
     subst eN
     have q0 : W9.cell? ⟨X, 0, none⟩ = some (.int .u8 ((1 : Nat) : Int)) := block_cell HSe.o.bx 0 _ rfl
     have q1 : W9.cell? ⟨X, 1, none⟩ = some (.slice na (l).length nc) := block_cell HSe.o.bx 1 _ rfl
     have q2 : W9.cell? ⟨X, 2, none⟩ = some (.int .i64 ((0 : Nat) : Int)) := block_cell HSe.o.bx 2 _ rfl
     have q3 : W9.cell? ⟨X, 3, none⟩ = some (.int .i64 ((sk : Nat) : Int)) := block_cell HSe.o.bx 3 _ rfl
     have p0 := block_cell HSe.o.bp 0 _ rfl
     have p1 := block_cell HSe.o.bp 1 _ rfl
     have p2 := block_cell HSe.o.bp 2 _ rfl
     have p3 := block_cell HSe.o.bp 3 _ rfl
     have g0 := block_frozen HSe.o.bp 0
     have g1 := block_frozen HSe.o.bp 1
     have g2 := block_frozen HSe.o.bp 2
     have g3 := block_frozen HSe.o.bp 3
     go_wp2_with fail
     exact step_end (so := 1) (ru := 0) (sk := sk) HSe.o HVe.o rfl
  ·replace HN : Hid (guardR s.data.toList 2 999 j = N) := HN
   go_wp2_with fail
   refine (rskip_any _ B s j TT HSa.o.rd).mono ?_
   intro e w2 hp
   cases h2 : numR s.data.toList 1 1 255 j with
   | none =>
    rw [h2] at hp
    obtain ⟨he, hf⟩ := hp
    have eN : N = none := by rw [<- HN.o]; unfold guardR; rw [h2]
    subst eN
    unfold noE at he
    subst he
    exact ⟨rfl, rfl, HSa.o.fr.trans hf⟩
   | some xk =>
    obtain ⟨sk, k⟩ := xk
    rw [h2] at hp
    obtain ⟨⟨v, rfl, rfl⟩, hR2, hf2⟩ := hp
    have H2 := hid h2
    have HSb := hid (HSa.o.call hR2 hf2)
    have z3 := block_cell HSb.o.bx 3 _ rfl
    have f3 := block_frozen HSb.o.bx 3
    have HSc := hid (HSb.o.set 3 (.int .i64 (sk : Nat)) rfl)
    clear hR2 hf2 h2 HSb HSa
    go_upto_region 11 with fail
    clear z3 f3
    generalize w2.setCell ⟨X, 3, none⟩ (.int .i64 (sk : Nat)) = W2 at *
    go_wp2_with fail
    refine (rlist_any W2 B s k TT 999 HSc.o.rd).mono ?_
    intro e w3 hp
    cases h3 : listR s.data.toList 999 k with
    | none =>
     rw [h3] at hp
     obtain ⟨he, hf⟩ := hp
     have eN : N = none := by rw [<- HN.o]; unfold guardR; rw [H2.o]; simp only [h3]
     subst eN
     unfold noE at he
     subst he
     exact ⟨rfl, rfl, HSc.o.fr.trans hf⟩
    | some ll =>
     obtain ⟨l, m⟩ := ll
     rw [h3] at hp
     obtain ⟨⟨v, rfl, hv⟩, hR3, hf3⟩ := hp
     have eN : N = some (⟨2, l, 0, sk⟩, m) := by rw [<- HN.o]; unfold guardR; rw [H2.o]; simp only [h3]
     have HSd := hid (HSc.o.call hR3 hf3)
     have HV := hid (ownsRow_base hv HSc.o.fr.size)
     obtain ⟨na, nc, e1⟩ := ownsRow_len hv
     subst e1
     have z1 := block_cell HSd.o.bx 1 _ rfl
     have f1 := block_frozen HSd.o.bx 1
     have HSe := hid (HSd.o.set 1 (.slice na l.length nc) rfl)
     have HVe := hid (ints_set HV.o HSd.o.bx 1 (.slice na l.length nc))
     clear hv hR3 hf3 h3 HSd HV HSc
     go_upto_region 18 with fail
     clear z1 f1
     generalize w3.setCell ⟨X, 1, none⟩ (.slice na l.length nc) = W9 at *
     subst eN
     have q0 : W9.cell? ⟨X, 0, none⟩ = some (.int .u8 ((2 : Nat) : Int)) := block_cell HSe.o.bx 0 _ rfl
     have q1 : W9.cell? ⟨X, 1, none⟩ = some (.slice na (l).length nc) := block_cell HSe.o.bx 1 _ rfl
     have q2 : W9.cell? ⟨X, 2, none⟩ = some (.int .i64 ((0 : Nat) : Int)) := block_cell HSe.o.bx 2 _ rfl
     have q3 : W9.cell? ⟨X, 3, none⟩ = some (.int .i64 ((sk : Nat) : Int)) := block_cell HSe.o.bx 3 _ rfl
     have p0 := block_cell HSe.o.bp 0 _ rfl
     have p1 := block_cell HSe.o.bp 1 _ rfl
     have p2 := block_cell HSe.o.bp 2 _ rfl
     have p3 := block_cell HSe.o.bp 3 _ rfl
     have g0 := block_frozen HSe.o.bp 0
     have g1 := block_frozen HSe.o.bp 1
     have g2 := block_frozen HSe.o.bp 2
     have g3 := block_frozen HSe.o.bp 3
     go_wp2_with fail
     exact step_end (so := 2) (ru := 0) (sk := sk) HSe.o HVe.o rfl
  ·replace HN : Hid (endR s.data.toList 3 nr nn j = N) := HN
   go_wp2_with fail
   refine (rrule_any _ B s j TT na nn nc HSa.o.rd (HT.o _ HSa.o.fr).2 hn8).mono ?_
   intro e w2 hp
   cases h2 : numR s.data.toList 1 0 ((nn : Int) - 1) j with
   | none =>
    rw [h2] at hp
    obtain ⟨he, hf⟩ := hp
    have eN : N = none := by rw [<- HN.o]; unfold endR; rw [h2]
    subst eN
    unfold noE at he
    subst he
    exact ⟨rfl, rfl, HSa.o.fr.trans hf⟩
   | some xk =>
    obtain ⟨ru, k⟩ := xk
    rw [h2] at hp
    obtain ⟨⟨v, rfl, rfl⟩, hR2, hf2⟩ := hp
    have H2 := hid h2
    have HSb := hid (HSa.o.call hR2 hf2)
    have z3 := block_cell HSb.o.bx 2 _ rfl
    have f3 := block_frozen HSb.o.bx 2
    have HSc := hid (HSb.o.set 2 (.int .i64 (ru : Nat)) rfl)
    clear hR2 hf2 h2 HSb HSa
    have eN : N = some (⟨3, [], ru, 0⟩, k) := by rw [<- HN.o]; unfold endR; rw [H2.o]; rfl
    have HSe : Hid (StS w (w2.setCell ⟨X, 2, none⟩ (.int .i64 (ru : Nat))) B X s k TT (.int .u8 ((3 : Nat) : Int)) (.slice none ([] : List Nat).length 0) (.int .i64 (ru : Nat)) (.int .i64 ((0 : Nat) : Int))) := HSc
    have HVe : Hid ((w2.setCell ⟨X, 2, none⟩ (.int .i64 (ru : Nat))).ownsRow w.heap.size 3 1 (.slice none ([] : List Nat).length 0) ([] : List Nat).length (intRow [])) := World.ownsRow_nil _ _ _ _
    clear HSc
    go_upto_region 18 with fail
    clear z3 f3
    generalize w2.setCell ⟨X, 2, none⟩ (.int .i64 (ru : Nat)) = W9 at *
    subst eN
    have q0 : W9.cell? ⟨X, 0, none⟩ = some (.int .u8 ((3 : Nat) : Int)) := block_cell HSe.o.bx 0 _ rfl
    have q1 : W9.cell? ⟨X, 1, none⟩ = some (.slice none (([] : List Nat)).length 0) := block_cell HSe.o.bx 1 _ rfl
    have q2 : W9.cell? ⟨X, 2, none⟩ = some (.int .i64 ((ru : Nat) : Int)) := block_cell HSe.o.bx 2 _ rfl
    have q3 : W9.cell? ⟨X, 3, none⟩ = some (.int .i64 ((0 : Nat) : Int)) := block_cell HSe.o.bx 3 _ rfl
    have p0 := block_cell HSe.o.bp 0 _ rfl
    have p1 := block_cell HSe.o.bp 1 _ rfl
    have p2 := block_cell HSe.o.bp 2 _ rfl
    have p3 := block_cell HSe.o.bp 3 _ rfl
    have g0 := block_frozen HSe.o.bp 0
    have g1 := block_frozen HSe.o.bp 1
    have g2 := block_frozen HSe.o.bp 2
    have g3 := block_frozen HSe.o.bp 3
    go_wp2_with fail
    exact step_end (so := 3) (ru := ru) (sk := 0) HSe.o HVe.o rfl
  ·replace HN : Hid (endR s.data.toList 4 nr nn j = N) := HN
   go_wp2_with fail
   refine (rrule_any _ B s j TT na nn nc HSa.o.rd (HT.o _ HSa.o.fr).2 hn8).mono ?_
   intro e w2 hp
   cases h2 : numR s.data.toList 1 0 ((nn : Int) - 1) j with
   | none =>
    rw [h2] at hp
    obtain ⟨he, hf⟩ := hp
    have eN : N = none := by rw [<- HN.o]; unfold endR; rw [h2]
    subst eN
    unfold noE at he
    subst he
    exact ⟨rfl, rfl, HSa.o.fr.trans hf⟩
   | some xk =>
    obtain ⟨ru, k⟩ := xk
    rw [h2] at hp
    obtain ⟨⟨v, rfl, rfl⟩, hR2, hf2⟩ := hp
    have H2 := hid h2
    have HSb := hid (HSa.o.call hR2 hf2)
    have z3 := block_cell HSb.o.bx 2 _ rfl
    have f3 := block_frozen HSb.o.bx 2
    have HSc := hid (HSb.o.set 2 (.int .i64 (ru : Nat)) rfl)
    clear hR2 hf2 h2 HSb HSa
    go_upto_region 17 with fail
    clear z3 f3
    generalize w2.setCell ⟨X, 2, none⟩ (.int .i64 (ru : Nat)) = W2 at *
    have b2 : W2.cell? ⟨B, 2, none⟩ = some (.pointer (some ⟨TT, 0, none⟩)) := block_cell HSc.o.rd.bx 2 _ rfl
    have t0 := (HT.o _ HSc.o.fr).1
    have hwr : IntKind.i64.wrap ((nr : Int) - 1) = (nr : Int) - 1 := IntWalk.i64_in _ (by constructor <;> omega)
    go_wp2_with fail
    refine (rlist_any W2 B s k TT ((nr : Int) - 1) HSc.o.rd).mono ?_
    intro e w3 hp
    clear b2 t0 hwr
    cases h3 : listR s.data.toList ((nr : Int) - 1) k with
    | none =>
     rw [h3] at hp
     obtain ⟨he, hf⟩ := hp
     have eN : N = none := by rw [<- HN.o]; unfold endR; rw [H2.o]; simp [h3]
     subst eN
     unfold noE at he
     subst he
     exact ⟨rfl, rfl, HSc.o.fr.trans hf⟩
    | some ll =>
     obtain ⟨l, m⟩ := ll
     rw [h3] at hp
     obtain ⟨⟨v, rfl, hv⟩, hR3, hf3⟩ := hp
     have eN : N = some (⟨4, l, ru, 0⟩, m) := by rw [<- HN.o]; unfold endR; rw [H2.o]; simp [h3]
     have HSd := hid (HSc.o.call hR3 hf3)
     have HV := hid (ownsRow_base hv HSc.o.fr.size)
     obtain ⟨qa, qc, e1⟩ := ownsRow_len hv
     subst e1
     have z1 := block_cell HSd.o.bx 1 _ rfl
     have f1 := block_frozen HSd.o.bx 1
     have HSe := hid (HSd.o.set 1 (.slice qa l.length qc) rfl)
     have HVe := hid (ints_set HV.o HSd.o.bx 1 (.slice qa l.length qc))
     clear hv hR3 hf3 h3 HSd HV HSc
     go_upto_region 18 with fail
     clear z1 f1
     generalize w3.setCell ⟨X, 1, none⟩ (.slice qa l.length qc) = W9 at *
     subst eN
     have q0 : W9.cell? ⟨X, 0, none⟩ = some (.int .u8 ((4 : Nat) : Int)) := block_cell HSe.o.bx 0 _ rfl
     have q1 : W9.cell? ⟨X, 1, none⟩ = some (.slice qa (l).length qc) := block_cell HSe.o.bx 1 _ rfl
     have q2 : W9.cell? ⟨X, 2, none⟩ = some (.int .i64 ((ru : Nat) : Int)) := block_cell HSe.o.bx 2 _ rfl
     have q3 : W9.cell? ⟨X, 3, none⟩ = some (.int .i64 ((0 : Nat) : Int)) := block_cell HSe.o.bx 3 _ rfl
     have p0 := block_cell HSe.o.bp 0 _ rfl
     have p1 := block_cell HSe.o.bp 1 _ rfl
     have p2 := block_cell HSe.o.bp 2 _ rfl
     have p3 := block_cell HSe.o.bp 3 _ rfl
     have g0 := block_frozen HSe.o.bp 0
     have g1 := block_frozen HSe.o.bp 1
     have g2 := block_frozen HSe.o.bp 2
     have g3 := block_frozen HSe.o.bp 3
     go_wp2_with fail
     exact step_end (so := 4) (ru := ru) (sk := 0) HSe.o HVe.o rfl
  ·replace HN : Hid (endR s.data.toList 5 nr nn j = N) := HN
   go_wp2_with fail
   refine (rrule_any _ B s j TT na nn nc HSa.o.rd (HT.o _ HSa.o.fr).2 hn8).mono ?_
   intro e w2 hp
   cases h2 : numR s.data.toList 1 0 ((nn : Int) - 1) j with
   | none =>
    rw [h2] at hp
    obtain ⟨he, hf⟩ := hp
    have eN : N = none := by rw [<- HN.o]; unfold endR; rw [h2]
    subst eN
    unfold noE at he
    subst he
    exact ⟨rfl, rfl, HSa.o.fr.trans hf⟩
   | some xk =>
    obtain ⟨ru, k⟩ := xk
    rw [h2] at hp
    obtain ⟨⟨v, rfl, rfl⟩, hR2, hf2⟩ := hp
    have H2 := hid h2
    have HSb := hid (HSa.o.call hR2 hf2)
    have z3 := block_cell HSb.o.bx 2 _ rfl
    have f3 := block_frozen HSb.o.bx 2
    have HSc := hid (HSb.o.set 2 (.int .i64 (ru : Nat)) rfl)
    clear hR2 hf2 h2 HSb HSa
    go_upto_region 17 with fail
    clear z3 f3
    generalize w2.setCell ⟨X, 2, none⟩ (.int .i64 (ru : Nat)) = W2 at *
    have b2 : W2.cell? ⟨B, 2, none⟩ = some (.pointer (some ⟨TT, 0, none⟩)) := block_cell HSc.o.rd.bx 2 _ rfl
    have t0 := (HT.o _ HSc.o.fr).1
    have hwr : IntKind.i64.wrap ((nr : Int) - 1) = (nr : Int) - 1 := IntWalk.i64_in _ (by constructor <;> omega)
    go_wp2_with fail
    refine (rlist_any W2 B s k TT ((nr : Int) - 1) HSc.o.rd).mono ?_
    intro e w3 hp
    clear b2 t0 hwr
    cases h3 : listR s.data.toList ((nr : Int) - 1) k with
    | none =>
     rw [h3] at hp
     obtain ⟨he, hf⟩ := hp
     have eN : N = none := by rw [<- HN.o]; unfold endR; rw [H2.o]; simp [h3]
     subst eN
     unfold noE at he
     subst he
     exact ⟨rfl, rfl, HSc.o.fr.trans hf⟩
    | some ll =>
     obtain ⟨l, m⟩ := ll
     rw [h3] at hp
     obtain ⟨⟨v, rfl, hv⟩, hR3, hf3⟩ := hp
     have eN : N = some (⟨5, l, ru, 0⟩, m) := by rw [<- HN.o]; unfold endR; rw [H2.o]; simp [h3]
     have HSd := hid (HSc.o.call hR3 hf3)
     have HV := hid (ownsRow_base hv HSc.o.fr.size)
     obtain ⟨qa, qc, e1⟩ := ownsRow_len hv
     subst e1
     have z1 := block_cell HSd.o.bx 1 _ rfl
     have f1 := block_frozen HSd.o.bx 1
     have HSe := hid (HSd.o.set 1 (.slice qa l.length qc) rfl)
     have HVe := hid (ints_set HV.o HSd.o.bx 1 (.slice qa l.length qc))
     clear hv hR3 hf3 h3 HSd HV HSc
     go_upto_region 18 with fail
     clear z1 f1
     generalize w3.setCell ⟨X, 1, none⟩ (.slice qa l.length qc) = W9 at *
     subst eN
     have q0 : W9.cell? ⟨X, 0, none⟩ = some (.int .u8 ((5 : Nat) : Int)) := block_cell HSe.o.bx 0 _ rfl
     have q1 : W9.cell? ⟨X, 1, none⟩ = some (.slice qa (l).length qc) := block_cell HSe.o.bx 1 _ rfl
     have q2 : W9.cell? ⟨X, 2, none⟩ = some (.int .i64 ((ru : Nat) : Int)) := block_cell HSe.o.bx 2 _ rfl
     have q3 : W9.cell? ⟨X, 3, none⟩ = some (.int .i64 ((0 : Nat) : Int)) := block_cell HSe.o.bx 3 _ rfl
     have p0 := block_cell HSe.o.bp 0 _ rfl
     have p1 := block_cell HSe.o.bp 1 _ rfl
     have p2 := block_cell HSe.o.bp 2 _ rfl
     have p3 := block_cell HSe.o.bp 3 _ rfl
     have g0 := block_frozen HSe.o.bp 0
     have g1 := block_frozen HSe.o.bp 1
     have g2 := block_frozen HSe.o.bp 2
     have g3 := block_frozen HSe.o.bp 3
     go_wp2_with fail
     exact step_end (so := 5) (ru := ru) (sk := 0) HSe.o HVe.o rfl
  ·replace HN : Hid (some (⟨6, [], 0, 0⟩, j) = N) := HN
   have eN : N = some (⟨6, [], 0, 0⟩, j) := HN.o.symm
   have HSe : Hid (StS w W1 B X s j TT (.int .u8 ((6 : Nat) : Int)) (.slice none ([] : List Nat).length 0) (.int .i64 ((0 : Nat) : Int)) (.int .i64 ((0 : Nat) : Int))) := HSa
   have HVe : Hid (W1.ownsRow w.heap.size 3 1 (.slice none ([] : List Nat).length 0) ([] : List Nat).length (intRow [])) := World.ownsRow_nil _ _ _ _
   go_upto_region 18 with fail
   clear z0
   generalize W1 = W9 at *
   subst eN
   have q0 : W9.cell? ⟨X, 0, none⟩ = some (.int .u8 ((6 : Nat) : Int)) := block_cell HSe.o.bx 0 _ rfl
   have q1 : W9.cell? ⟨X, 1, none⟩ = some (.slice none (([] : List Nat)).length 0) := block_cell HSe.o.bx 1 _ rfl
   have q2 : W9.cell? ⟨X, 2, none⟩ = some (.int .i64 ((0 : Nat) : Int)) := block_cell HSe.o.bx 2 _ rfl
   have q3 : W9.cell? ⟨X, 3, none⟩ = some (.int .i64 ((0 : Nat) : Int)) := block_cell HSe.o.bx 3 _ rfl
   have p0 := block_cell HSe.o.bp 0 _ rfl
   have p1 := block_cell HSe.o.bp 1 _ rfl
   have p2 := block_cell HSe.o.bp 2 _ rfl
   have p3 := block_cell HSe.o.bp 3 _ rfl
   have g0 := block_frozen HSe.o.bp 0
   have g1 := block_frozen HSe.o.bp 1
   have g2 := block_frozen HSe.o.bp 2
   have g3 := block_frozen HSe.o.bp 3
   go_wp2_with fail
   exact step_end (so := 6) (ru := 0) (sk := 0) HSe.o HVe.o rfl
end Go.Proofs.YtccikgogjfbpeabGreatDoor
