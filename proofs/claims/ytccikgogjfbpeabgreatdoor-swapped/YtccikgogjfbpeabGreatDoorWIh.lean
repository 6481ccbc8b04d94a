/- Load, walked. A tree that was read decides every payment; plain. A table of an empty book: nothing meets, nothing is dead, no text. Rules of raw numbers, one above them, one below: what is read and what is decided; plain. Lists of numbers that came in, read. -/
import Derived.Test.YtccikgogjfbpeabGreatDoorWHa
import Derived.Test.YtccikgogjfbpeabGreatDoorWIg
import Derived.Test.YtccikgogjfbpeabGreatDoorWQm
import Derived.Lib.UnsafeStr
import Derived.Test.YtccikgogjfbpeabGreatDoorWKg
import Derived.Test.YtccikgogjfbpeabGreatDoorWKc
import Derived.ProofKit
import Derived.OpenShut
import Derived.Carry
import Derived.SizedLaws
import Derived.Deep.Slices
import Derived.Deep.DeepHandedRow
namespace Go.Proofs.YtccikgogjfbpeabGreatDoor
open Go.RowKit
set_option maxRecDepth 30000 in
set_option maxHeartbeats 400000 in
theorem catchL_panicking (a b : Nat) (v0 v1 : Value) (w : World) (h0 : w.cell? ⟨a, 0, none⟩ = some v0) (h1 : w.cell? ⟨b, 0, none⟩ = some v1) (z0 : w.frozen? ⟨a, 0, none⟩ = false) (z1 : w.frozen? ⟨b, 0, none⟩ = false) (hab : ¬ a = b) (hba : ¬ b = a) :
  CallsD Tryz.prog 24 #[.pointer (some ⟨a, 0, none⟩), .pointer (some ⟨b, 0, none⟩)] (.panicking [{ v := .iface 156 (.agg #[]), recovered := false }]) w fun e u' w' =>
   e = .returned (.tuple #[]) /\ u' = .panicking [{ v := .iface 156 (.agg #[]), recovered := true }] /\ w'.cell? ⟨a, 0, none⟩ = some (.pointer none) /\ w'.cell? ⟨b, 0, none⟩ = some (.bool false) /\ Fr (fun j => j = a \/ j = b) w w' := by
 refine callsD_of_wpS Tryz.func24 rfl fun c₀ cs hu => ?_
 have ht : (#[.pointer (some ⟨a, 0, none⟩), .pointer (some ⟨b, 0, none⟩)] ++ Array.replicate (Tryz.f24.ntmps - (#[.pointer (some ⟨a, 0, none⟩), .pointer (some ⟨b, 0, none⟩)] : Array Value).size) undef : Array Value) = #[.pointer (some ⟨a, 0, none⟩), .pointer (some ⟨b, 0, none⟩), undef, undef] := by
  rw [Tryz.ntmps24]; rfl
 rw [ht]
 clear ht
 refine wpS_rec_seq (v := .iface 156 (.agg #[])) (cs' := { c₀ with mode := .panicking [{ v := .iface 156 (.agg #[]), recovered := true }] } :: cs) (w' := w) (o := ?o) (l := ?l) ?ho ?hw ?hx ?hr ?hno ?main
 case ho => rfl
 case hw => kernel_rfl
 case hx => rfl
 case hr => simp only [recoverD, hu]
 case hno => intro a w hh; obtain ⟨u, hh, _⟩ := hh; cases hh
 clear hu
 show wpList Tryz.prog _ _ _ { tmps := #[.pointer (some ⟨a, 0, none⟩), .pointer (some ⟨b, 0, none⟩), .iface 156 (.agg #[]), undef], defers := [] } w
 go_wp2
 have oth : ∀ (v : World) (x y : Nat) (u : Value), ¬ x = y -> (v.setCell ⟨x, 0, none⟩ u).cell? ⟨y, 0, none⟩ = v.cell? ⟨y, 0, none⟩ := fun v x y u h => World.cell?_setCell_other _ _ _ _ (fun e => h (by injection e))
 refine ⟨rfl, _, rfl, .tuple #[], results_none rfl _ _ _, rfl, rfl, ?_, ?_, ?_⟩
 ·exact (oth _ b a _ hba).trans (World.cell?_setCell_same _ _ _ h0)
 ·exact World.cell?_setCell_same _ _ _ ((oth _ a b _ hab).trans h1)
 ·exact ((Fr.refl _ _).setCell (p := ⟨a, 0, none⟩) (Or.inl (Or.inl rfl)) _).setCell (p := ⟨b, 0, none⟩) (Or.inl (Or.inr rfl)) _
set_option maxRecDepth 30000 in
set_option maxHeartbeats 400000 in
theorem catchL_idle (a b : Nat) (w : World) :
  CallsD Tryz.prog 24 #[.pointer (some ⟨a, 0, none⟩), .pointer (some ⟨b, 0, none⟩)] .returning w fun e u' w' => e = .returned (.tuple #[]) /\ u' = .returning /\ F0 w w' := by
 refine callsD_of_wpS Tryz.func24 rfl fun c₀ cs hu => ?_
 have ht : (#[.pointer (some ⟨a, 0, none⟩), .pointer (some ⟨b, 0, none⟩)] ++ Array.replicate (Tryz.f24.ntmps - (#[.pointer (some ⟨a, 0, none⟩), .pointer (some ⟨b, 0, none⟩)] : Array Value).size) undef : Array Value) = #[.pointer (some ⟨a, 0, none⟩), .pointer (some ⟨b, 0, none⟩), undef, undef] := by
  rw [Tryz.ntmps24]; rfl
 rw [ht]
 clear ht
 refine wpS_idle_seq (w' := w) (o := ?o) (l := ?l) ?ho ?hw ?hx ?hr ?hno ?main
 case ho => rfl
 case hw => kernel_rfl
 case hx => rfl
 case hr => simp only [recoverD, hu]
 case hno => intro a w hh; obtain ⟨u, hh, _⟩ := hh; cases hh
 show wpList Tryz.prog _ _ _ { tmps := #[.pointer (some ⟨a, 0, none⟩), .pointer (some ⟨b, 0, none⟩), .nilIface, undef], defers := [] } w
 have HU := hid hu
 clear hu
 go_wp2
 exact ⟨rfl, .returning, by rw [<- HU.o], .tuple #[], results_none rfl _ _ _, rfl, rfl, Fr.refl _ _⟩
def LoP (w : World) (r : Option TrD) (e : Ending) (w' : World) : Prop := match r with
 | none => e = .returned (.tuple #[.pointer none, .bool false]) /\ F0 w w'
 | some t => (∃ T Bb zb TT ra rc, e = .returned (.tuple #[.pointer (some ⟨T, 0, none⟩), .bool true]) /\ w'.cell? ⟨T, 0, none⟩ = some (.pointer (some ⟨Bb, 0, none⟩)) /\ w'.cell? ⟨T, 1, none⟩ = some (.pointer (some ⟨TT, 0, none⟩)) /\ w'.heap[Bb]? = some (.cells #[.slice none 0 0, .slice none 0 0] 59) /\ TlAt zb w' TT t ra rc /\ w.heap.size <= TT /\ TT <= zb) /\ F0 w w'
set_option maxRecDepth 30000 in
set_option maxHeartbeats 1000000 in
theorem Load_any (s : ByteArray) (w : World) (hs : s.size <= 9223372036854775807) (hH : Hal w) : Calls Tryz.prog 6 #[.string s] w (LoP w (loadM s.data.toList)) := by
 have hmf : ∀ (fn : Fn) (first cap : Array Value) (w : World), (Instr.makeFunc fn first cap).run Tryz.prog w = .ok (.func fn first cap) w := fun _ _ _ _ => rfl
 obtain ⟨N, hN⟩ : ∃ N, loadM s.data.toList = N := ⟨_, rfl⟩
 have HT := fun W (hf : F0 w W) => tRead_any s W hs (hH.fr hf)
 rw [hN] at HT ⊢
 have HRd : Hid (∀ W, F0 w W -> Calls Tryz.prog 25 #[.string s] W (LdP W N)) := HT
 clear HT hN hH
 have hw0 : F0 w (((w.alloc (.cells #[.pointer none] 26)).alloc (.cells #[.bool false] 4)).alloc (.cells #[.slice none 0 0, .slice none 0 0] 59)) := (((Fr.refl _ _).alloc _).alloc _).alloc _
 have q0 : (((w.alloc (.cells #[.pointer none] 26)).alloc (.cells #[.bool false] 4)).alloc (.cells #[.slice none 0 0, .slice none 0 0] 59)).heap[w.heap.size]? = some (.cells #[.pointer none] 26) := (((Fr.refl (fun _ => False) _).alloc _).alloc _).whole (heap_alloc_new w _) (by simp)
 have q1 : (((w.alloc (.cells #[.pointer none] 26)).alloc (.cells #[.bool false] 4)).alloc (.cells #[.slice none 0 0, .slice none 0 0] 59)).heap[w.heap.size + 1]? = some (.cells #[.bool false] 4) := ((Fr.refl (fun _ => False) _).alloc _).whole (by have := heap_alloc_new (w.alloc (.cells #[.pointer none] 26)) (.cells #[.bool false] 4); simpa using this) (by simp)
 have q2 : (((w.alloc (.cells #[.pointer none] 26)).alloc (.cells #[.bool false] 4)).alloc (.cells #[.slice none 0 0, .slice none 0 0] 59)).heap[w.heap.size + 1 + 1]? = some (.cells #[.slice none 0 0, .slice none 0 0] 59) := by have := heap_alloc_new ((w.alloc (.cells #[.pointer none] 26)).alloc (.cells #[.bool false] 4)) (.cells #[.slice none 0 0, .slice none 0 0] 59); simpa using this
 have HW0 := hid hw0
 have HQ0 := hid q0
 have HQ1 := hid q1
 have HQ2 := hid q2
 clear hw0 q0 q1 q2
 go_enter_defers Tryz.func6, Tryz.ntmps6
 go_wp2_with fail
 refine (HRd.o _ HW0.o).mono ?_
 intro e w1 hT
 generalize ((w.alloc (.cells #[.pointer none] 26)).alloc (.cells #[.bool false] 4)).alloc (.cells #[.slice none 0 0, .slice none 0 0] 59) = w0 at *
 cases N with
 | none =>
  obtain ⟨he, hf⟩ := hT
  unfold noE at he
  subst he
  refine leaves_cons (f := 24) (args := #[.pointer (some ⟨w.heap.size, 0, none⟩), .pointer (some ⟨w.heap.size + 1, 0, none⟩)]) (by simp) (by simp [go_sem]) ?_
  refine (catchL_panicking w.heap.size (w.heap.size + 1) _ _ w1 (block_cell (hf.whole HQ0.o (by simp)) 0 _ rfl) (block_cell (hf.whole HQ1.o (by simp)) 0 _ rfl) (block_frozen (hf.whole HQ0.o (by simp)) 0) (block_frozen (hf.whole HQ1.o (by simp)) 0) (by omega) (by omega)).mono ?_
  rintro e u' w2 ⟨rfl, rfl, a0, a1, hf2⟩
  have hB : F0 w w2 := (HW0.o.trans hf).monoNew hf2 (fun k hk => .inr (by omega))
  simp [Leaves, settle, results, Tryz.results6, go_sem, a0, a1]
  exact ⟨rfl, hB⟩
 | some t =>
  obtain ⟨⟨zb, TT, ra, rc, rfl, hTT, hzb, hTg⟩, hf⟩ := hT
  have h02 : w.heap.size + 1 + 1 < w0.heap.size := (Array.getElem?_eq_some_iff.1 HQ2.o).1
  have HTg := hid hTg
  have HF1 := hid hf
  have hfa : F0 w0 (w1.alloc (.cells #[.pointer (some ⟨w.heap.size + 1 + 1, 0, none⟩), .pointer (some ⟨TT, 0, none⟩)] 63)) := hf.alloc _
  have c0 := block_cell (hfa.whole HQ0.o (by simp)) 0 _ rfl
  have c1 := block_cell (hfa.whole HQ1.o (by simp)) 0 _ rfl
  have z0 := block_frozen (hfa.whole HQ0.o (by simp)) 0
  have z1 := block_frozen (hfa.whole HQ1.o (by simp)) 0
  have hn1 : w.heap.size + 1 + 1 < w1.heap.size := Nat.lt_of_lt_of_le (Array.getElem?_eq_some_iff.1 HQ2.o).1 hf.size
  clear hfa hTg hf
  go_wp2_with fail
  have oth : ∀ (v : World) (x y o : Nat) (u : Value), ¬ x = y -> (v.setCell ⟨x, 0, none⟩ u).cell? ⟨y, o, none⟩ = v.cell? ⟨y, o, none⟩ := fun v x y o u h => World.cell?_setCell_other _ _ _ _ (fun e => h (by injection e))
  have hTb := heap_alloc_new w1 (.cells #[.pointer (some ⟨w.heap.size + 1 + 1, 0, none⟩), .pointer (some ⟨TT, 0, none⟩)] 63)
  have HW : Fr (fun j => j = w.heap.size \/ j = w.heap.size + 1) (w1.alloc (.cells #[.pointer (some ⟨w.heap.size + 1 + 1, 0, none⟩), .pointer (some ⟨TT, 0, none⟩)] 63)) (((w1.alloc (.cells #[.pointer (some ⟨w.heap.size + 1 + 1, 0, none⟩), .pointer (some ⟨TT, 0, none⟩)] 63)).setCell ⟨w.heap.size, 0, none⟩ (.pointer (some ⟨w1.heap.size, 0, none⟩))).setCell ⟨w.heap.size + 1, 0, none⟩ (.bool true)) := ((Fr.refl _ _).setCell (p := ⟨w.heap.size, 0, none⟩) (Or.inl (Or.inl rfl)) _).setCell (p := ⟨w.heap.size + 1, 0, none⟩) (Or.inl (Or.inr rfl)) _
  have d0 := (oth _ (w.heap.size + 1) w.heap.size 0 (.bool true) (by omega)).trans (World.cell?_setCell_same _ _ (.pointer (some ⟨w1.heap.size, 0, none⟩)) c0)
  have d1 := World.cell?_setCell_same _ _ (.bool true) ((oth _ w.heap.size (w.heap.size + 1) 0 (.pointer (some ⟨w1.heap.size, 0, none⟩)) (by omega)).trans c1)
  have bT := HW.whole hTb (by show ¬ (w1.heap.size = w.heap.size \/ w1.heap.size = w.heap.size + 1); omega)
  have hA : F0 w1 (w1.alloc (.cells #[.pointer (some ⟨w.heap.size + 1 + 1, 0, none⟩), .pointer (some ⟨TT, 0, none⟩)] 63)) := (Fr.refl _ _).alloc _
  have bB := HW.whole (hA.whole (HF1.o.whole HQ2.o (by simp)) (by simp)) (by show ¬ (w.heap.size + 1 + 1 = w.heap.size \/ w.heap.size + 1 + 1 = w.heap.size + 1); omega)
  have hTl := (HTg.o.fr hA (by simp) (by simp)).fr HW (fun k hk => by omega) (by show ¬ (TT = w.heap.size \/ TT = w.heap.size + 1); omega)
  have hFW : F0 w (((w1.alloc (.cells #[.pointer (some ⟨w.heap.size + 1 + 1, 0, none⟩), .pointer (some ⟨TT, 0, none⟩)] 63)).setCell ⟨w.heap.size, 0, none⟩ (.pointer (some ⟨w1.heap.size, 0, none⟩))).setCell ⟨w.heap.size + 1, 0, none⟩ (.bool true)) := ((HW0.o.trans HF1.o).trans hA).monoNew HW (fun k hk => .inr (by omega))
  clear hTb HW hA c0 c1 z0 z1
  generalize ((w1.alloc (.cells #[.pointer (some ⟨w.heap.size + 1 + 1, 0, none⟩), .pointer (some ⟨TT, 0, none⟩)] 63)).setCell ⟨w.heap.size, 0, none⟩ (.pointer (some ⟨w1.heap.size, 0, none⟩))).setCell ⟨w.heap.size + 1, 0, none⟩ (.bool true) = W at *
  refine leaves_cons (f := 24) (args := #[.pointer (some ⟨w.heap.size, 0, none⟩), .pointer (some ⟨w.heap.size + 1, 0, none⟩)]) (by simp) (by simp [go_sem]) ?_
  refine (catchL_idle w.heap.size (w.heap.size + 1) W).mono ?_
  rintro e u' w3 ⟨rfl, rfl, hf2⟩
  have a0 := (hf2.cell (p := ⟨w.heap.size, 0, none⟩) (World.block_lt_of_cell? W _ d0) (by simp)).trans d0
  have a1 := (hf2.cell (p := ⟨w.heap.size + 1, 0, none⟩) (World.block_lt_of_cell? W _ d1) (by simp)).trans d1
  have eT := hf2.whole bT (by simp)
  simp [Leaves, settle, results, Tryz.results6, go_sem, a0, a1]
  exact ⟨⟨_, _, zb, TT, ra, rc, rfl, block_cell eT 0 _ rfl, block_cell eT 1 _ rfl, hf2.whole bB (by simp), hTl.fr hf2 (by simp) (by simp), Nat.le_trans HW0.o.size hTT, hzb⟩, hFW.trans hf2⟩
end Go.Proofs.YtccikgogjfbpeabGreatDoor

namespace Go.Proofs.YtccikgogjfbpeabGreatDoor
theorem ok_pt {t : TrD} (h : t.Ok) : PtOk t.rts t.nms t.prs t.root := by
 refine ⟨fun r hr => ?_, h.r6, fun s hs => ?_, fun l hl => ?_, h.dp⟩
 ·have := h.rt r hr
  exact ⟨by omega, by omega, by omega⟩
 ·have := h.nm s hs
  omega
 ·obtain ⟨h1, h2, h3, h4⟩ := h.pr l hl
  exact ⟨by omega, fun s hs _ => ⟨by have := (h3 s hs).nl; omega, (h3 s hs).sk, (h3 s hs).am⟩⟩
end Go.Proofs.YtccikgogjfbpeabGreatDoor

namespace Go.Proofs.YtccikgogjfbpeabGreatDoor
open Go.RowKit
theorem load_ok {l : List UInt8} {t : TrD} (h : loadM l = some t) : t.Ok := by
 unfold loadM at h
 split at h
 ·cases h
 ·exact readR_ok h
end Go.Proofs.YtccikgogjfbpeabGreatDoor

namespace Go.Proofs.YtccikgogjfbpeabGreatDoor
theorem dig1 {k : Nat} (h : k < 10) : digL k 1 = [UInt8.ofNat (48 + k)] := by
 rw [digL_step (by omega), show k / 10 = 0 from by omega, show 1 - 1 = 0 from rfl, digL_zero, show k % 10 = k from by omega]
 rfl
def rN (i : Nat) : List UInt8 := 114 :: digL i 1
theorem rN_NmL {i : Nat} (h : i < 8) : NmL (rN i) := by
 unfold rN
 rw [dig1 (by omega)]
 have : i = 0 \/ i = 1 \/ i = 2 \/ i = 3 \/ i = 4 \/ i = 5 \/ i = 6 \/ i = 7 := by omega
 rcases this with rfl | rfl | rfl | rfl | rfl | rfl | rfl | rfl <;> exact nmL_of rfl (by decide) (by decide) (by decide) (by decide)
theorem rN_ne {i j : Nat} (h : i ≠ j) : ((bs (rN j)).toList == (bs (rN i)).toList) = false := by
 rw [bs_toList, bs_toList]
 cases he : (rN j == rN i) with
 | false => rfl
 | true =>
  have e := eq_of_beq he
  unfold rN at e
  injection e with _ e
  have := congrArg numOf e
  rw [tx_num, tx_num] at this
  omega
theorem act_ok {k : Nat} (h : k < 6) : (∀ w, w ∈ actR k -> NmL w) /\ ((actD k = true /\ actC k = false /\ actR k = []) \/ (actD k = false /\ actR k ≠ [])) := by
 have nb : NmL [98] := nmL_of rfl (by decide) (by decide) (by decide) (by decide)
 have nc : NmL [99] := nmL_of rfl (by decide) (by decide) (by decide) (by decide)
 have na := nm_a
 have : k = 0 \/ k = 1 \/ k = 2 \/ k = 3 \/ k = 4 \/ k = 5 := by omega
 rcases this with rfl | rfl | rfl | rfl | rfl | rfl
 ·exact ⟨fun w hw => (by cases hw), .inl ⟨rfl, rfl, rfl⟩⟩
 all_goals
  refine ⟨fun w hw => ?_, .inr ⟨by decide, by simp [actR]⟩⟩
  simp [actR] at hw
 ·subst hw; exact na
 ·rcases hw with rfl | rfl <;> assumption
 ·rcases hw with rfl | rfl | rfl <;> assumption
 ·rcases hw with rfl | rfl <;> assumption
 ·rcases hw with rfl | rfl | rfl <;> assumption
theorem rlK_lt (c : Int) : rlK c < 6 := pickK_lt _ 6 (by decide)
theorem rlX_ok {i : Nat} (h : i < 8) (c : Int) : (rlX i c).Ok :=
 gd_ok (rN_NmL h) (tx_DgL (by have := pickK_lt (c.tdiv 41) 3 (by decide); omega)) (act_ok (rlK_lt c)).1 (act_ok (rlK_lt c)).2
theorem rlX_fit (i : Nat) (c : Int) : (rlX i c).Fit := gd_fit (by rw [tx_num]; have := pickK_lt (c.tdiv 41) 3 (by decide); omega)
def rlM (i : Nat) (c : Int) : RuleM := (rlX i c).rl (actP (rlK c)) 3
theorem hasName_app (nm : ByteArray) : ∀ (a b : List RuleM), hasName nm (a ++ b) = (hasName nm a || hasName nm b)
 | [], b => by simp [hasName]
 | r :: a, b => by
  simp only [List.cons_append, hasName]
  split
  ·rfl
  ·exact hasName_app nm a b
def rsX (l : List Int) (i : Nat) : Nat -> List RuX
 | 0 => []
 | k + 1 => rlX i (rawK l i) :: rsX l (i + 1) k
def rsM (l : List Int) (i : Nat) : Nat -> List RuleM
 | 0 => []
 | k + 1 => rlM i (rawK l i) :: rsM l (i + 1) k
def rsE (l : List Int) (line i : Nat) : Nat -> List EntE
 | 0 => []
 | k + 1 => .rule ((rlX i (rawK l i)).ent line) :: rsE l (line + 1) (i + 1) k
def rsT (l : List Int) (i : Nat) : Nat -> List UInt8
 | 0 => []
 | k + 1 => rlT i (rawK l i) ++ rsT l (i + 1) k
theorem rs_tx (l : List Int) {t : List UInt8} {xs : List EntE} : ∀ (k i line : Nat), i + k <= 8 -> TxL t (line + k) xs -> TxL (rsT l i k ++ t) line (rsE l line i k ++ xs)
 | 0, _, _, _, h => h
 | k + 1, i, line, hk, h => by
  have ih := rs_tx l k (i + 1) (line + 1) (by omega) (by rw [show line + 1 + k = line + (k + 1) from by omega]; exact h)
  have := tx_rule (rlX_ok (i := i) (by omega) (rawK l i)) (tx_nl ih)
  simpa [rsT, rlT, rsE] using this
theorem rs_under (l : List Int) {xs : List EntE} : ∀ (k i line : Nat) (rls : List RuleM), rls.length + k <= 8 -> (∀ j, i <= j -> j < i + k -> hasName (bs (rN j)) rls = false) -> underM rts3 rls (rsE l line i k ++ xs) = underM rts3 (rls ++ rsM l i k) xs
 | 0, _, _, rls, _, _ => by simp [rsE, rsM]
 | k + 1, i, line, rls, hk, hn => by
  have ih := rs_under l (xs := xs) k (i + 1) (line + 1) (rls ++ [rlM i (rawK l i)]) (by simp; omega) (fun j h1 h2 => by
   rw [hasName_app, hn j (by omega) (by omega)]
   show hasName _ [rlM i (rawK l i)] = false
   have e := rN_ne (i := j) (j := i) (by omega)
   simp only [hasName]
   rw [show (rlM i (rawK l i)).name = bs (rN i) from rfl, if_neg (by rw [e]; decide)])
  simp only [rsE, List.cons_append]
  rw [under_rule (r := rlX i (rawK l i)) (ps := actP (rlK (rawK l i))) (by omega) (hn i (by omega) (by omega)) (rlX_fit i _) (pls3 (rlK_lt _))]
  show underM rts3 (rls ++ [rlM i (rawK l i)]) _ = _
  rw [ih, List.append_assoc]
  rfl
theorem rsT_len (l : List Int) : ∀ (k i : Nat), i + k <= 100 -> (rsT l i k).length <= 90 * k
 | 0, _, _ => by simp [rsT]
 | k + 1, i, h => by
  have h1 := rsT_len l k (i + 1) (by omega)
  have h2 := rlT_len (i := i) (by omega) (rawK l i)
  simp only [rsT, List.length_append]
  omega
theorem rsT_flat (l : List Int) : ∀ (k i : Nat), rsT l i k = ((List.range' i k).map fun j => bs (rlT j (rawK l j))).flatMap fun b => b.data.toList
 | 0, _ => rfl
 | k + 1, i => by
  rw [List.range'_succ]
  simp only [rsT, List.map_cons, List.flatMap_cons]
  rw [rsT_flat l k (i + 1)]
theorem whT_rl (l : List Int) (m : Nat) : whT (rlL l m) = routes3 ++ rsT l 0 m := by
 unfold whT rlL
 rw [rsT_flat, List.range_eq_range']
theorem rsM_len (l : List Int) : ∀ (k i : Nat), (rsM l i k).length = k
 | 0, _ => rfl
 | k + 1, i => by simp [rsM, rsM_len l k (i + 1)]
theorem base_read (l : List Int) (m : Nat) (hm : m <= 8) : readM (bs (whT (rlL l m))) = .ok (rts3, rsM l 0 m) := by
 have h := tx_routes3 (rs_tx l m 0 2 (by omega) (tx_nil _))
 have e : whT (rlL l m) = routes3 ++ (rsT l 0 m ++ []) := by rw [whT_rl, List.append_nil]
 have hl := rsT_len l m 0 (by omega)
 rw [e, readM_of h (by simp [routes3]; omega), under_routes3, rs_under l m 0 2 [] (by simp; omega) (fun j _ _ => rfl)]
 rfl
end Go.Proofs.YtccikgogjfbpeabGreatDoor

namespace Go.Proofs.YtccikgogjfbpeabGreatDoor
open Go.ChangeShapes Go.WideShapes Go.ChangeAt Go.RowKit Go.Deep
theorem own : ownKnob Tryz.prog.godebug = none := by kernel_rfl
theorem laidOut : laidOutB Tryz.prog = true := by kernel_rfl
theorem cellsInt : Tryz.prog.cellsOf 3 = 1 := by kernel_rfl
theorem wf_in {a : Int} (h : (Lit.int .i64 a).wf = true) : InI a := (by simpa [Lit.wf] using h : IntKind.i64.min <= a /\ a <= 9223372036854775807)
theorem listI_of {Q : Nat -> Int -> Prop} : ∀ n, (∀ i, i < n -> ∃ s, Q i s) -> ∃ l : List Int, l.length = n /\ ∀ k s, l[k]? = some s -> Q k s
 | 0, _ => ⟨[], rfl, fun k s h => by simp at h⟩
 | n + 1, h => by
  obtain ⟨l, h1, h2⟩ := listI_of n (fun i hi => h i (by omega))
  obtain ⟨s, hs⟩ := h n (by omega)
  refine ⟨l ++ [s], by simp [h1], fun k s' hk => ?_⟩
  by_cases hkn : k < l.length
  ·rw [List.getElem?_append_left hkn] at hk
   exact h2 k s' hk
  ·rw [List.getElem?_append_right (by omega)] at hk
   have : k - l.length = 0 := by have := (List.getElem?_eq_some_iff.1 hk).1; simp at this; omega
   rw [this] at hk
   injection hk with hk
   subst hk
   have : k = n := by omega
   subst this
   exact hs
theorem ints_read {H : Type} {enc : TypeId × Value -> H} {w : World} {base : Nat} {spare : Nat -> Bool} {held : Bool} {n : Nat} {v : Value} {x : DataW H × List MemPlace} (h : DataW.trod enc Tryz.prog w base spare held n 22 [v] = some x) :
  ∃ (da : Option Addr) (dn dc : Nat) (dl : List Int), v = .slice da dn dc /\ dl.length = dn /\ RawAt w da dl /\ (∀ y, y ∈ dl -> InI y) /\ dn <= dc := by
 rcases open_slice Tryz.underlying22 h with ⟨hcs, _⟩ | ⟨a, len, cap, m, n, D, Pl, hcs, hb, hl, hm, hmm, hx, hel⟩
 ·simp only [List.cons.injEq, and_true] at hcs
  exact ⟨none, 0, 0, [], hcs, rfl, fun k s hk => by simp at hk, fun y hy => (by simp at hy), Nat.le_refl _⟩
 ·simp only [List.cons.injEq, and_true] at hcs
  have hlm : len <= m := by rw [hmm]; split <;> omega
  obtain ⟨dl, h1, h2⟩ := listI_of (Q := fun k s => w.cell? (a.add k) = some (.int .i64 s) /\ InI s) len (fun i hi => by
   obtain ⟨cs', e1, e2⟩ := hel i (by omega)
   rw [cellsInt, Nat.mul_one] at e1
   obtain ⟨s, e3, _, e4⟩ := DataW.trod_int Tryz.underlying3 e2
   subst e3
   obtain ⟨_, _, hc⟩ := World.cells?_some e1
   have := hc 0 (by simp)
   refine ⟨s, ?_, wf_in e4⟩
   simpa [Addr.add] using this)
  refine ⟨some a, len, cap, dl, hcs, h1, fun k s hk => ?_, fun y hy => ?_, hl⟩
  ·have hc := (h2 k s hk).1
   obtain ⟨g, o, spot⟩ := a
   have h00 : 0 < dl.length := by have := (List.getElem?_eq_some_iff.1 hk).1; omega
   have hc0 := (h2 0 _ (List.getElem?_eq_getElem h00)).1
   have hspot : spot = none := by simpa [Addr.add] using World.cell?_spot hc0
   subst hspot
   exact ⟨g, o, rfl, by rw [addr_add'] at hc; exact hc⟩
  ·obtain ⟨k, hk, rfl⟩ := List.getElem_of_mem hy
   exact (h2 k _ (List.getElem?_eq_getElem hk)).2
end Go.Proofs.YtccikgogjfbpeabGreatDoor
