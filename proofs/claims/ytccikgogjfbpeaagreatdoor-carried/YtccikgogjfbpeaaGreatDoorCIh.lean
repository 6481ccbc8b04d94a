/- Load, walked. A tree that was read decides every payment; plain. A table of an empty book: nothing meets, nothing is dead, no text. -/
import Derived.Test.YtccikgogjfbpeaaGreatDoorCHa
import Derived.Test.YtccikgogjfbpeaaGreatDoorCIg
import Derived.Test.YtccikgogjfbpeaaGreatDoorCQm
import Derived.Lib.UnsafeStr
namespace Go.Proofs.YtccikgogjfbpeaaGreatDoor
open Go.RowKit
set_option maxRecDepth 30000 in
set_option maxHeartbeats 400000 in
theorem catchL_panicking (a b : Nat) (v0 v1 : Value) (w : World) (h0 : w.cell? ⟨a, 0, none⟩ = some v0) (h1 : w.cell? ⟨b, 0, none⟩ = some v1) (z0 : w.frozen? ⟨a, 0, none⟩ = false) (z1 : w.frozen? ⟨b, 0, none⟩ = false) (hab : ¬ a = b) (hba : ¬ b = a) :
  CallsD Tryz.prog 41 #[.pointer (some ⟨a, 0, none⟩), .pointer (some ⟨b, 0, none⟩)] (.panicking [{ v := .iface 223 (.agg #[]), recovered := false }]) w fun e u' w' =>
   e = .returned (.tuple #[]) ∧ u' = .panicking [{ v := .iface 223 (.agg #[]), recovered := true }] ∧ w'.cell? ⟨a, 0, none⟩ = some (.pointer none) ∧ w'.cell? ⟨b, 0, none⟩ = some (.bool false) ∧ Fr (fun j => j = a ∨ j = b) w w' := by
 refine callsD_of_wpS Tryz.func41 rfl fun c₀ cs hu => ?_
 have ht : (#[.pointer (some ⟨a, 0, none⟩), .pointer (some ⟨b, 0, none⟩)] ++ Array.replicate (Tryz.f41.ntmps - (#[.pointer (some ⟨a, 0, none⟩), .pointer (some ⟨b, 0, none⟩)] : Array Value).size) undef : Array Value) = #[.pointer (some ⟨a, 0, none⟩), .pointer (some ⟨b, 0, none⟩), undef, undef] := by
  rw [Tryz.ntmps41]; rfl
 rw [ht]
 clear ht
 refine wpS_rec_seq (v := .iface 223 (.agg #[])) (cs' := { c₀ with mode := .panicking [{ v := .iface 223 (.agg #[]), recovered := true }] } :: cs) (w' := w) (o := ?o) (l := ?l) ?ho ?hw ?hx ?hr ?hno ?main
 case ho => rfl
 case hw => kernel_rfl
 case hx => rfl
 case hr => simp only [recoverD, hu]
 case hno => intro a w hh; obtain ⟨u, hh, _⟩ := hh; cases hh
 clear hu
 show wpList Tryz.prog _ _ _ { tmps := #[.pointer (some ⟨a, 0, none⟩), .pointer (some ⟨b, 0, none⟩), .iface 223 (.agg #[]), undef], defers := [] } w
 go_wp2
 have oth : ∀ (v : World) (x y : Nat) (u : Value), ¬ x = y → (v.setCell ⟨x, 0, none⟩ u).cell? ⟨y, 0, none⟩ = v.cell? ⟨y, 0, none⟩ := fun v x y u h => World.cell?_setCell_other _ _ _ _ (fun e => h (by injection e))
 refine ⟨rfl, _, rfl, .tuple #[], results_none rfl _ _ _, rfl, rfl, ?_, ?_, ?_⟩
 ·exact (oth _ b a _ hba).trans (World.cell?_setCell_same _ _ _ h0)
 ·exact World.cell?_setCell_same _ _ _ ((oth _ a b _ hab).trans h1)
 ·exact ((Fr.refl _ _).setCell (p := ⟨a, 0, none⟩) (Or.inl (Or.inl rfl)) _).setCell (p := ⟨b, 0, none⟩) (Or.inl (Or.inr rfl)) _
set_option maxRecDepth 30000 in
set_option maxHeartbeats 400000 in
theorem catchL_idle (a b : Nat) (w : World) :
  CallsD Tryz.prog 41 #[.pointer (some ⟨a, 0, none⟩), .pointer (some ⟨b, 0, none⟩)] .returning w fun e u' w' => e = .returned (.tuple #[]) ∧ u' = .returning ∧ Fr (fun _ => False) w w' := by
 refine callsD_of_wpS Tryz.func41 rfl fun c₀ cs hu => ?_
 have ht : (#[.pointer (some ⟨a, 0, none⟩), .pointer (some ⟨b, 0, none⟩)] ++ Array.replicate (Tryz.f41.ntmps - (#[.pointer (some ⟨a, 0, none⟩), .pointer (some ⟨b, 0, none⟩)] : Array Value).size) undef : Array Value) = #[.pointer (some ⟨a, 0, none⟩), .pointer (some ⟨b, 0, none⟩), undef, undef] := by
  rw [Tryz.ntmps41]; rfl
 rw [ht]
 clear ht
 refine wpS_idle_seq (w' := w) (o := ?o) (l := ?l) ?ho ?hw ?hx ?hr ?hno ?main
 case ho => rfl
 case hw => kernel_rfl
 case hx => rfl
 case hr => simp only [recoverD, hu]
 case hno => intro a w hh; obtain ⟨u, hh, _⟩ := hh; cases hh
 show wpList Tryz.prog _ _ _ { tmps := #[.pointer (some ⟨a, 0, none⟩), .pointer (some ⟨b, 0, none⟩), .nilIface, undef], defers := [] } w
 have HU := hid hu
 clear hu
 go_wp2
 exact ⟨rfl, .returning, by rw [← HU.out], .tuple #[], results_none rfl _ _ _, rfl, rfl, Fr.refl _ _⟩
def LoP (w : World) (r : Option TrD) (e : Ending) (w' : World) : Prop := match r with
 | none => e = .returned (.tuple #[.pointer none, .bool false]) ∧ Fr (fun _ => False) w w'
 | some t => (∃ T Bb zb TT ra rc, e = .returned (.tuple #[.pointer (some ⟨T, 0, none⟩), .bool true]) ∧ w'.cell? ⟨T, 0, none⟩ = some (.pointer (some ⟨Bb, 0, none⟩)) ∧ w'.cell? ⟨T, 1, none⟩ = some (.pointer (some ⟨TT, 0, none⟩)) ∧ w'.heap[Bb]? = some (.cells #[.slice none 0 0, .slice none 0 0] 89) ∧ TlAt zb w' TT t ra rc) ∧ Fr (fun _ => False) w w'
set_option maxRecDepth 30000 in
set_option maxHeartbeats 1000000 in
theorem Load_any (s : ByteArray) (w : World) (hs : s.size ≤ 9223372036854775807) (hH : Hal w) : Calls Tryz.prog 24 #[.string s] w (LoP w (loadM s.data.toList)) := by
 have hmf : ∀ (fn : Fn) (first cap : Array Value) (w : World), (Instr.makeFunc fn first cap).run Tryz.prog w = .ok (.func fn first cap) w := fun _ _ _ _ => rfl
 obtain ⟨N, hN⟩ : ∃ N, loadM s.data.toList = N := ⟨_, rfl⟩
 have HT := fun W (hf : Fr (fun _ => False) w W) => tRead_any s W hs (hH.fr hf)
 rw [hN] at HT ⊢
 have HRd : Hid (∀ W, Fr (fun _ => False) w W → Calls Tryz.prog 42 #[.string s] W (LdP W N)) := HT
 clear HT hN hH
 have hw0 : Fr (fun _ => False) w (((w.alloc (.cells #[.pointer none] 31)).alloc (.cells #[.bool false] 4)).alloc (.cells #[.slice none 0 0, .slice none 0 0] 89)) := (((Fr.refl _ _).alloc _).alloc _).alloc _
 have q0 : (((w.alloc (.cells #[.pointer none] 31)).alloc (.cells #[.bool false] 4)).alloc (.cells #[.slice none 0 0, .slice none 0 0] 89)).heap[w.heap.size]? = some (.cells #[.pointer none] 31) := (((Fr.refl (fun _ => False) _).alloc _).alloc _).whole (heap_alloc_new w _) (by simp)
 have q1 : (((w.alloc (.cells #[.pointer none] 31)).alloc (.cells #[.bool false] 4)).alloc (.cells #[.slice none 0 0, .slice none 0 0] 89)).heap[w.heap.size + 1]? = some (.cells #[.bool false] 4) := ((Fr.refl (fun _ => False) _).alloc _).whole (by have := heap_alloc_new (w.alloc (.cells #[.pointer none] 31)) (.cells #[.bool false] 4); simpa using this) (by simp)
 have q2 : (((w.alloc (.cells #[.pointer none] 31)).alloc (.cells #[.bool false] 4)).alloc (.cells #[.slice none 0 0, .slice none 0 0] 89)).heap[w.heap.size + 1 + 1]? = some (.cells #[.slice none 0 0, .slice none 0 0] 89) := by have := heap_alloc_new ((w.alloc (.cells #[.pointer none] 31)).alloc (.cells #[.bool false] 4)) (.cells #[.slice none 0 0, .slice none 0 0] 89); simpa using this
 have HW0 := hid hw0
 have HQ0 := hid q0
 have HQ1 := hid q1
 have HQ2 := hid q2
 clear hw0 q0 q1 q2
 go_enter_defers Tryz.func24, Tryz.ntmps24
 go_wp2_with fail
 refine (HRd.out _ HW0.out).mono ?_
 intro e w1 hT
 generalize ((w.alloc (.cells #[.pointer none] 31)).alloc (.cells #[.bool false] 4)).alloc (.cells #[.slice none 0 0, .slice none 0 0] 89) = w0 at *
 cases N with
 | none =>
  obtain ⟨he, hf⟩ := hT
  unfold noE at he
  subst he
  refine leaves_cons (f := 41) (args := #[.pointer (some ⟨w.heap.size, 0, none⟩), .pointer (some ⟨w.heap.size + 1, 0, none⟩)]) (by simp) (by simp [go_sem]) ?_
  refine (catchL_panicking w.heap.size (w.heap.size + 1) _ _ w1 (block_cell (hf.whole HQ0.out (by simp)) 0 _ rfl) (block_cell (hf.whole HQ1.out (by simp)) 0 _ rfl) (block_frozen (hf.whole HQ0.out (by simp)) 0) (block_frozen (hf.whole HQ1.out (by simp)) 0) (by omega) (by omega)).mono ?_
  rintro e u' w2 ⟨rfl, rfl, a0, a1, hf2⟩
  have hB : Fr (fun _ => False) w w2 := (HW0.out.trans hf).monoNew hf2 (fun k hk => .inr (by omega))
  simp [Leaves, settle, results, Tryz.results24, go_sem, a0, a1]
  exact ⟨rfl, hB⟩
 | some t =>
  obtain ⟨⟨zb, TT, ra, rc, rfl, hTT, hzb, hTg⟩, hf⟩ := hT
  have h02 : w.heap.size + 1 + 1 < w0.heap.size := (Array.getElem?_eq_some_iff.1 HQ2.out).1
  have HTg := hid hTg
  have HF1 := hid hf
  have hfa : Fr (fun _ => False) w0 (w1.alloc (.cells #[.pointer (some ⟨w.heap.size + 1 + 1, 0, none⟩), .pointer (some ⟨TT, 0, none⟩)] 80)) := hf.alloc _
  have c0 := block_cell (hfa.whole HQ0.out (by simp)) 0 _ rfl
  have c1 := block_cell (hfa.whole HQ1.out (by simp)) 0 _ rfl
  have z0 := block_frozen (hfa.whole HQ0.out (by simp)) 0
  have z1 := block_frozen (hfa.whole HQ1.out (by simp)) 0
  have hn1 : w.heap.size + 1 + 1 < w1.heap.size := Nat.lt_of_lt_of_le (Array.getElem?_eq_some_iff.1 HQ2.out).1 hf.size
  clear hfa hTg hf
  go_wp2_with fail
  have oth : ∀ (v : World) (x y o : Nat) (u : Value), ¬ x = y → (v.setCell ⟨x, 0, none⟩ u).cell? ⟨y, o, none⟩ = v.cell? ⟨y, o, none⟩ := fun v x y o u h => World.cell?_setCell_other _ _ _ _ (fun e => h (by injection e))
  have hTb := heap_alloc_new w1 (.cells #[.pointer (some ⟨w.heap.size + 1 + 1, 0, none⟩), .pointer (some ⟨TT, 0, none⟩)] 80)
  have HW : Fr (fun j => j = w.heap.size ∨ j = w.heap.size + 1) (w1.alloc (.cells #[.pointer (some ⟨w.heap.size + 1 + 1, 0, none⟩), .pointer (some ⟨TT, 0, none⟩)] 80)) (((w1.alloc (.cells #[.pointer (some ⟨w.heap.size + 1 + 1, 0, none⟩), .pointer (some ⟨TT, 0, none⟩)] 80)).setCell ⟨w.heap.size, 0, none⟩ (.pointer (some ⟨w1.heap.size, 0, none⟩))).setCell ⟨w.heap.size + 1, 0, none⟩ (.bool true)) := ((Fr.refl _ _).setCell (p := ⟨w.heap.size, 0, none⟩) (Or.inl (Or.inl rfl)) _).setCell (p := ⟨w.heap.size + 1, 0, none⟩) (Or.inl (Or.inr rfl)) _
  have d0 := (oth _ (w.heap.size + 1) w.heap.size 0 (.bool true) (by omega)).trans (World.cell?_setCell_same _ _ (.pointer (some ⟨w1.heap.size, 0, none⟩)) c0)
  have d1 := World.cell?_setCell_same _ _ (.bool true) ((oth _ w.heap.size (w.heap.size + 1) 0 (.pointer (some ⟨w1.heap.size, 0, none⟩)) (by omega)).trans c1)
  have bT := HW.whole hTb (by show ¬ (w1.heap.size = w.heap.size ∨ w1.heap.size = w.heap.size + 1); omega)
  have hA : Fr (fun _ => False) w1 (w1.alloc (.cells #[.pointer (some ⟨w.heap.size + 1 + 1, 0, none⟩), .pointer (some ⟨TT, 0, none⟩)] 80)) := (Fr.refl _ _).alloc _
  have bB := HW.whole (hA.whole (HF1.out.whole HQ2.out (by simp)) (by simp)) (by show ¬ (w.heap.size + 1 + 1 = w.heap.size ∨ w.heap.size + 1 + 1 = w.heap.size + 1); omega)
  have hTl := (HTg.out.fr hA (by simp) (by simp)).fr HW (fun k hk => by omega) (by show ¬ (TT = w.heap.size ∨ TT = w.heap.size + 1); omega)
  have hFW : Fr (fun _ => False) w (((w1.alloc (.cells #[.pointer (some ⟨w.heap.size + 1 + 1, 0, none⟩), .pointer (some ⟨TT, 0, none⟩)] 80)).setCell ⟨w.heap.size, 0, none⟩ (.pointer (some ⟨w1.heap.size, 0, none⟩))).setCell ⟨w.heap.size + 1, 0, none⟩ (.bool true)) := ((HW0.out.trans HF1.out).trans hA).monoNew HW (fun k hk => .inr (by omega))
  clear hTb HW hA c0 c1 z0 z1
  generalize ((w1.alloc (.cells #[.pointer (some ⟨w.heap.size + 1 + 1, 0, none⟩), .pointer (some ⟨TT, 0, none⟩)] 80)).setCell ⟨w.heap.size, 0, none⟩ (.pointer (some ⟨w1.heap.size, 0, none⟩))).setCell ⟨w.heap.size + 1, 0, none⟩ (.bool true) = W at *
  refine leaves_cons (f := 41) (args := #[.pointer (some ⟨w.heap.size, 0, none⟩), .pointer (some ⟨w.heap.size + 1, 0, none⟩)]) (by simp) (by simp [go_sem]) ?_
  refine (catchL_idle w.heap.size (w.heap.size + 1) W).mono ?_
  rintro e u' w3 ⟨rfl, rfl, hf2⟩
  have a0 := (hf2.cell (p := ⟨w.heap.size, 0, none⟩) (World.block_lt_of_cell? W _ d0) (by simp)).trans d0
  have a1 := (hf2.cell (p := ⟨w.heap.size + 1, 0, none⟩) (World.block_lt_of_cell? W _ d1) (by simp)).trans d1
  have eT := hf2.whole bT (by simp)
  simp [Leaves, settle, results, Tryz.results24, go_sem, a0, a1]
  exact ⟨⟨_, _, zb, TT, ra, rc, rfl, block_cell eT 0 _ rfl, block_cell eT 1 _ rfl, hf2.whole bB (by simp), hTl.fr hf2 (by simp) (by simp)⟩, hFW.trans hf2⟩
end Go.Proofs.YtccikgogjfbpeaaGreatDoor

namespace Go.Proofs.YtccikgogjfbpeaaGreatDoor
theorem ok_pt {t : TrD} (h : t.Ok) : PtOk t.rts t.nms t.prs t.root := by
 refine ⟨fun r hr => ?_, h.r6, fun s hs => ?_, fun l hl => ?_, h.dp⟩
 ·have := h.rt r hr
  exact ⟨by omega, by omega, by omega⟩
 ·have := h.nm s hs
  omega
 ·obtain ⟨h1, h2, h3, h4⟩ := h.pr l hl
  exact ⟨by omega, fun s hs _ => ⟨by have := (h3 s hs).nl; omega, (h3 s hs).sk, (h3 s hs).am⟩⟩
end Go.Proofs.YtccikgogjfbpeaaGreatDoor

namespace Go.Proofs.YtccikgogjfbpeaaGreatDoor
open Go.RowKit
def EbAt (w : World) (T : Nat) : Prop := ∃ Bb, w.cell? ⟨T, 0, none⟩ = some (.pointer (some ⟨Bb, 0, none⟩)) ∧ w.heap[Bb]? = some (.cells #[.slice none 0 0, .slice none 0 0] 89)
theorem EbAt.fr {w w' : World} {T : Nat} (h : EbAt w T) (hf : Fr (fun _ => False) w w') : EbAt w' T := by
 obtain ⟨Bb, h1, h2⟩ := h
 exact ⟨Bb, (hf.cell (p := ⟨T, 0, none⟩) (World.block_lt_of_cell? w _ h1) (by simp)).trans h1, hf.whole h2 (by simp)⟩
def LdAt (w : World) (T : Nat) (t : TrD) : Prop := EbAt w T ∧ ∃ TT zb ra rc, w.cell? ⟨T, 1, none⟩ = some (.pointer (some ⟨TT, 0, none⟩)) ∧ TgAt zb w TT t.rts ra rc t.nms t.prs t.root
theorem LdAt.fr {w w' : World} {T : Nat} {t : TrD} (h : LdAt w T t) (hf : Fr (fun _ => False) w w') : LdAt w' T t := by
 obtain ⟨h0, TT, zb, ra, rc, h1, h2⟩ := h
 exact ⟨h0.fr hf, TT, zb, ra, rc, (hf.cell (p := ⟨T, 1, none⟩) (World.block_lt_of_cell? w _ h1) (by simp)).trans h1, h2.fr hf⟩
theorem lo_some {w w' : World} {t : TrD} {e : Ending} (h : LoP w (some t) e w') : ∃ T, e = .returned (.tuple #[.pointer (some ⟨T, 0, none⟩), .bool true]) ∧ LdAt w' T t ∧ Fr (fun _ => False) w w' := by
 obtain ⟨⟨T, Bb, zb, TT, ra, rc, rfl, h1, h2, h3, h4⟩, hf⟩ := h
 exact ⟨T, rfl, ⟨⟨Bb, h1, h3⟩, TT, zb, ra, rc, h2, h4.1⟩, hf⟩
theorem load_ok {l : List UInt8} {t : TrD} (h : loadM l = some t) : t.Ok := by
 unfold loadM at h
 split at h
 ·cases h
 ·exact readR_ok h
end Go.Proofs.YtccikgogjfbpeaaGreatDoor
