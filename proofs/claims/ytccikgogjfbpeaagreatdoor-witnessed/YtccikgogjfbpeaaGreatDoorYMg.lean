/- Regions: a function that leaves with many marks among its deferred calls. Ranges over an iterator that lays loops of its own: one round; the loop. Regions: from's function, at its end. Regions: what from's function reads, and how it goes on from side to side. -/
import Derived.Test.YtccikgogjfbpeaaGreatDoorYHa
import Derived.Test.YtccikgogjfbpeaaGreatDoorYMf
import Derived.Test.YtccikgogjfbpeaaGreatDoorYGb
namespace Go.Proofs.YtccikgogjfbpeaaGreatDoor
open Go.RowKit Go.Shelf
def marksOf (Ds : List Nat) : List Deferred := Ds.map fun D => { target := .collected D, args := #[] }
def shutM (W : World) : List Nat → World
 | [] => W
 | D :: r => shutM (W.putObj D (.deferred none)) r
theorem leaves_marks {F : Fence} {n : Nat} {P : Program} {fn : Func} {tmps : Array Value} {R : Ending → World → Prop} : ∀ (Ds : List Nat) (W : World), Ds.Nodup → (∀ D, D ∈ Ds → W.heap[D]? = some (.deferred (some []))) → LeavesIn F n P fn tmps R [] .returning (shutM W Ds) → LeavesInM F n P fn tmps R (marksOf Ds) .returning W
 | [], _, _, _, h => h
 | D :: r, W, hd, hD, h => by
  obtain ⟨h1, h2⟩ := List.nodup_cons.1 hd
  refine ⟨by simp, .inl ⟨D, _, rfl, run_takeDeferred (hD D (by simp)), ?_⟩⟩
  refine leaves_marks r _ h2 (fun E hE => ?_) h
  exact (World.putObj_heap_other (fun e => h1 (by first | exact e ▸ hE | exact e.symm ▸ hE))).trans (hD E (by simp [hE]))
end Go.Proofs.YtccikgogjfbpeaaGreatDoor

namespace Go.Proofs.YtccikgogjfbpeaaGreatDoor
open Go.RowKit Go.Shelf
def OwnB {β : Type} (M : Nat) (I : β → World → Prop) : Prop := ∀ s W W', I s W → Fr (fun k => M ≤ k) W W' → I s W'
def RdPost {α : Type} (S : Nat → Prop) (I : List α → World → Prop) (Ix : Code → List α → World → Prop) (xs : List α) (W : World) : Exit → Act → World → Prop
 | .normal, _, W' => Fr S W W' ∧ I xs W'
 | .ret, _, W' => Fr S W W' ∧ Ix .ret xs W'
 | .exit id, _, W' => Fr S W W' ∧ Ix (.exit id) xs W'
 | _, _, _ => False
def RdReady (B : Nat) (r : Loop) (W : World) : Prop := W.heap[B + 1]? = some (.loop r) ∧ W.heap[B]? = some (.deferred (some []))
def RdDone (B : Nat) (r : Loop) (c : Code) (W : World) : Prop := W.heap[B + 1]? = some (.loop { r with state := .done, pending := some c }) ∧ W.heap[B]? = some (.deferred (some []))
def andRd (S : Nat → Prop) (B : Nat) : Nat → Prop := fun k => S k ∨ k = B ∨ k = B + 1
theorem fr_put {S : Nat → Prop} {l : Nat} {W : World} (h : S l) (o : Obj) : Fr S W (W.putObj l o) := by
 have hg := grownBy_putObj' W l o
 exact ⟨hg.os, hg.tape, hg.output, hg.size, fun k hk hn => World.putObj_heap_other (by rintro rfl; exact hn h)⟩
theorem OwnB.put {β : Type} {M : Nat} {I : β → World → Prop} (h : OwnB M I) {s : β} {W : World} {l : Nat} (o : Obj) (hs : I s W) (hl : M ≤ l) : I s (W.putObj l o) := h s W _ hs (fr_put hl o)
theorem OwnB.alloc {β : Type} {M : Nat} {I : β → World → Prop} (h : OwnB M I) {s : β} {W : World} (o : Obj) (hs : I s W) : I s (W.alloc o) := h s W _ hs ((Fr.refl _ _).alloc o)
theorem OwnB.mono {β : Type} {M N : Nat} {I : β → World → Prop} (h : OwnB M I) (hMN : M ≤ N) : OwnB N I := fun s W W' hs hf => h s W W' hs (hf.mono (fun _ hk => Nat.le_trans hMN hk))
theorem OwnB.and {β : Type} {M : Nat} {I K : β → World → Prop} (h : OwnB M I) (k : OwnB M K) : OwnB M (fun s W => I s W ∧ K s W) := fun s W W' hs hf => ⟨h s W W' hs.1 hf, k s W W' hs.2 hf⟩
theorem OwnB.map {β γ : Type} {M : Nat} {I : β → World → Prop} (h : OwnB M I) (f : γ → β) : OwnB M (fun (s : γ) W => I (f s) W) := fun s W W' hs hf => h (f s) W W' hs hf
theorem OwnB.pure {β : Type} {M : Nat} (p : β → Prop) : OwnB M (fun (s : β) (_ : World) => p s) := fun _ _ _ hs _ => hs
theorem OwnB.fr {β : Type} {M : Nat} {S : Nat → Prop} {a : World} (h : a.heap.size ≤ M) : OwnB M (fun (_ : β) W => Fr S a W) := fun _ _ _ hs hf => hs.monoNew hf (fun _ hi => .inr (Nat.le_trans h hi))
theorem OwnB.block {β : Type} {M b : Nat} {o : Obj} (h : b < M) : OwnB M (fun (_ : β) (W : World) => W.heap[b]? = some o) := fun _ W _ hs hf => (hf.block b (Array.getElem?_eq_some_iff.1 hs).1 (by show ¬ M ≤ b; omega)).trans hs
theorem fr_shut {M : Nat} : ∀ (Ds : List Nat) (W : World), (∀ D, D ∈ Ds → M ≤ D) → Fr (fun k => M ≤ k) W (shutM W Ds)
 | [], W, _ => Fr.refl _ W
 | D :: r, W, h => (fr_put (S := fun k => M ≤ k) (h D (by simp)) _).trans (fr_shut r _ (fun E hE => h E (by simp [hE])))
theorem fr_kept {S : Nat → Prop} {k : Nat} {X Y : World} {o : Obj} (h : Fr S X Y) (hk : ¬ S k) (ho : X.heap[k]? = some o) : Y.heap[k]? = some o :=
 (h.block k (Array.getElem?_eq_some_iff.1 ho).1 hk).trans ho
theorem round_own {α : Type} {P : Program} {m B : Nat} {S : Nat → Prop} {r : Loop} {I : List α → World → Prop} {Ix : Code → List α → World → Prop} {encs : α → Array Value} {x : α} {pre : List α} {Ax : Nat → Act → World → Prop} {W : World}
  (hfn : Fence.wide.fn r.fn) (hst : r.state = .ready) (hpe : r.pending = none) (hps : (encs x).size = r.params.size) (hS : ∀ k, S k → k < B) (hI : OwnB B I) (hIx : ∀ c, OwnB B (Ix c)) (hAx : ∀ m a', OwnFrom B (fun (_ : Unit) W => Ax m a' W)) (hW : RdReady B r W)
  (hassign : ∀ K : Act → World → Prop, (∀ a' W', Fr S W W' → I pre W' → Ax W.heap.size a' W' → K a' W') → r.assign.wpIn (Fence.wide.inRound (B + 1)) m P (Exit.then K (fun _ _ _ => False)) { tmps := (r.params.zip (encs x)).foldl (fun t (p, v) => t.setIfInBounds p v) r.tmps, defers := [] } W)
  (hbody : ∀ M a' W', B + 2 ≤ M → I pre W' → Ax M a' W' → r.body.wpIn (Fence.wide.inRound (B + 1)) m P (RdPost (fun k => S k ∨ M ≤ k) I Ix (pre ++ [x]) W') a' W') :
  YieldAt Fence.wide m P (B + 1) (encs x) W fun e W' => Fr (andRd S B) W W' ∧ ((e = .returned (.bool true) ∧ I (pre ++ [x]) W' ∧ RdReady B r W') ∨ (e = .returned (.bool false) ∧ ∃ c, Ix c (pre ++ [x]) W' ∧ RdDone B r c W')) := by
 refine ⟨r.fn, _, r.assign, r.body, run_yield hW.1 hps, roundIn_of_wpIn hfn (hassign _ fun a' Wa hb hi hx => ?_)⟩
 have n1 : ¬ S (B + 1) := fun h => by have := hS _ h; omega
 have n0 : ¬ S B := fun h => by have := hS _ h; omega
 have hsz : B + 2 ≤ W.heap.size := (Array.getElem?_eq_some_iff.1 hW.1).1
 have hl := fr_kept hb n1 hW.1
 have hd := fr_kept hb n0 hW.2
 have hb := hb.mono (T := andRd S B) (fun k h => .inl h)
 refine ⟨_, run_beginRound hl hst, ?_⟩
 have hlt := (Array.getElem?_eq_some_iff.1 hl).1
 have hl2 : (Wa.putObj (B + 1) (.loop { r with state := .busy })).heap[B + 1]? = some (.loop { r with state := .busy }) := World.putObj_heap_same hlt
 have hd2 : (Wa.putObj (B + 1) (.loop { r with state := .busy })).heap[B]? = some (.deferred (some [])) := (World.putObj_heap_other (by omega)).trans hd
 have hb2 : Fr (andRd S B) Wa (Wa.putObj (B + 1) (.loop { r with state := .busy })) := fr_put (.inr (.inr rfl)) _
 refine wpIn_mono (hbody _ a' _ hsz (hI.put _ hi (by omega)) ((hAx _ a').putObj (s := ()) _ hx (by omega) hl rfl)) ?_
 intro e a3 W3 hp
 have fin : ∀ j, Fr (fun k => S k ∨ W.heap.size ≤ k) (Wa.putObj (B + 1) (.loop { r with state := .busy })) W3 → W3.heap[B + 1]? = some (.loop { r with state := .busy }) ∧ (W3.putObj (B + 1) j).heap[B + 1]? = some j ∧ (W3.putObj (B + 1) j).heap[B]? = some (.deferred (some [])) ∧ Fr (andRd S B) W (W3.putObj (B + 1) j) := fun j h3 => by
  have h4 := fr_kept h3 (by rintro (h | h); exact n1 h; omega) hl2
  exact ⟨h4, World.putObj_heap_same (Array.getElem?_eq_some_iff.1 h4).1, (World.putObj_heap_other (by omega)).trans (fr_kept h3 (by rintro (h | h); exact n0 h; omega) hd2), ((hb.trans hb2).monoNew h3 (fun i hi => hi.elim (fun h => .inl (.inl h)) .inr)).trans (fr_put (.inr (.inr rfl)) _)⟩
 have er : ({ { r with state := .busy } with state := .ready, pending := none } : Loop) = r := by
  cases r
  simp at hst hpe
  subst hst hpe
  rfl
 cases e with
 | normal =>
  obtain ⟨h3, hi3⟩ := hp
  obtain ⟨h4, h5, h6, h7⟩ := fin (.loop r) h3
  have hr := run_endRound (P := P) none h4
  simp only [Option.isNone_none, if_true, er] at hr
  exact ⟨_, _, hr, h7, .inl ⟨rfl, hI.put _ hi3 (by omega), h5, h6⟩⟩
 | ret =>
  obtain ⟨h3, hi3⟩ := hp
  obtain ⟨h4, h5, h6, h7⟩ := fin (.loop { r with state := .done, pending := some .ret }) h3
  have hr := run_endRound (P := P) (some .ret) h4
  exact ⟨_, _, hr, h7, .inr ⟨rfl, .ret, (hIx _).put _ hi3 (by omega), h5, h6⟩⟩
 | exit id =>
  obtain ⟨h3, hi3⟩ := hp
  obtain ⟨h4, h5, h6, h7⟩ := fin (.loop { r with state := .done, pending := some (.exit id) }) h3
  have hr := run_endRound (P := P) (some (.exit id)) h4
  exact ⟨_, _, hr, h7, .inr ⟨rfl, .exit id, (hIx _).put _ hi3 (by omega), h5, h6⟩⟩
 | goto t => exact hp.elim
 | panic c => exact hp.elim
 | outgrown => exact hp.elim
def SeqO {α : Type} (P : Program) (gf : Nat) (lb : Array Value) (encs : α → Array Value) (S : Nat → Prop) (xs : List α) (w : World) : Prop :=
 ∀ (n l : Nat) (J Jx : List α → World → Prop) (W : World), Fr S w W → (∀ k, S k → k < W.heap.size) → OwnB W.heap.size J → OwnB W.heap.size Jx →
  (∀ pre x W1, pre ++ [x] <+: xs → J pre W1 → YieldAt Fence.wide n P l (encs x) W1 fun e W' => Fr S W1 W' ∧ ((e = .returned (.bool true) ∧ J (pre ++ [x]) W') ∨ (e = .returned (.bool false) ∧ Jx (pre ++ [x]) W'))) →
  J [] W → CallsIn Fence.wide (n + 1) P gf (#[.func (.yield l) #[] #[]] ++ lb) W fun e W' => (∃ v, e = .returned v) ∧ (J xs W' ∨ ∃ pre, pre <+: xs ∧ Jx pre W')
theorem rd_kept {A B : World} {k : Nat} {o p : Obj} (hg : Fr (fun i => k + 2 ≤ i) A B) (h : A.heap[k + 1]? = some o ∧ A.heap[k]? = some p) : B.heap[k + 1]? = some o ∧ B.heap[k]? = some p :=
 ⟨(hg.block _ (Array.getElem?_eq_some_iff.1 h.1).1 (by show ¬ k + 2 ≤ k + 1; omega)).trans h.1, (hg.block _ (Array.getElem?_eq_some_iff.1 h.2).1 (by show ¬ k + 2 ≤ k; omega)).trans h.2⟩
theorem range_own {α : Type} {P : Program} {g : Operand} {ps : Array Tmp} {assign body : Code} {Q : Exit → Act → World → Prop} {a : Act} {w w0 : World} {n gf : Nat} {S : Nat → Prop} {lb : Array Value} {encs : α → Array Value} {xs : List α}
  (hg : a.eval g = .func (.func gf) #[] lb) (eg : ∀ args w, (callFunc gf args).run P w = .ok (.enter gf args) w) (hseq : SeqO P gf lb encs (andRd S w.heap.size) xs w0) (hb0 : Fr S w0 w) (hps : ∀ x, (encs x).size = ps.size) (hS : ∀ k, S k → k < w.heap.size)
  (I : List α → World → Prop) (Ix : Code → List α → World → Prop) (hI : OwnB w.heap.size I) (hIx : ∀ c, OwnB w.heap.size (Ix c)) (h0 : I [] w) (Ax : α → Nat → Act → World → Prop) (hAx : ∀ x m a', OwnFrom w.heap.size (fun (_ : Unit) W => Ax x m a' W))
  (hassign : ∀ pre x W (K : Act → World → Prop), pre ++ [x] <+: xs → I pre W → (∀ a' W', Fr S W W' → I pre W' → Ax x W.heap.size a' W' → K a' W') → assign.wpIn (Fence.wide.inRound (w.heap.size + 1)) n P (Exit.then K (fun _ _ _ => False)) { tmps := (ps.zip (encs x)).foldl (fun t (p, v) => t.setIfInBounds p v) a.tmps, defers := [] } W)
  (hbody : ∀ pre x M a' W, pre ++ [x] <+: xs → w.heap.size + 2 ≤ M → I pre W → Ax x M a' W → body.wpIn (Fence.wide.inRound (w.heap.size + 1)) n P (RdPost (fun k => S k ∨ M ≤ k) I Ix (pre ++ [x]) W) a' W)
  (hdone : ∀ W, I xs W → W.heap[w.heap.size]? = some (.deferred (some [])) → Q .normal { a with defers := { target := .collected w.heap.size, args := #[] } :: a.defers } W)
  (hstop : ∀ c pre W, pre <+: xs → Ix c pre W → W.heap[w.heap.size]? = some (.deferred (some [])) → c.wpIn Fence.wide (n + 2) P Q { a with defers := { target := .collected w.heap.size, args := #[] } :: a.defers } W) :
  (Code.rangeFunc g ps assign body).wpIn Fence.wide (n + 2) P Q a w := by
 refine wpIn_rangeFunc ?_
 intro fn hfn
 have hL : ((w.alloc (.deferred (some []))).alloc (.loop { state := .ready, pending := none, fn, tmps := a.tmps, params := ps, assign, body, defers := w.heap.size })).heap[w.heap.size + 1]? = some (.loop { state := .ready, pending := none, fn, tmps := a.tmps, params := ps, assign, body, defers := w.heap.size }) := by
  have := World.alloc_heap_new (w.alloc (.deferred (some []))) (.loop { state := .ready, pending := none, fn, tmps := a.tmps, params := ps, assign, body, defers := w.heap.size })
  rwa [World.size_alloc] at this
 have hD : ((w.alloc (.deferred (some []))).alloc (.loop { state := .ready, pending := none, fn, tmps := a.tmps, params := ps, assign, body, defers := w.heap.size })).heap[w.heap.size]? = some (.deferred (some [])) := (Below.heap_alloc _ _ _ (by simp)).trans (World.alloc_heap_new w _)
 have hI1 := hI.alloc (.loop { state := .ready, pending := none, fn, tmps := a.tmps, params := ps, assign, body, defers := w.heap.size }) (hI.alloc (.deferred (some [])) h0)
 have hb1 : Fr (andRd S w.heap.size) w0 ((w.alloc (.deferred (some []))).alloc (.loop { state := .ready, pending := none, fn, tmps := a.tmps, params := ps, assign, body, defers := w.heap.size })) := ((hb0.alloc _).alloc _).mono (fun k h => .inl h)
 have hsz : ((w.alloc (.deferred (some []))).alloc (.loop { state := .ready, pending := none, fn, tmps := a.tmps, params := ps, assign, body, defers := w.heap.size })).heap.size = w.heap.size + 2 := by simp
 refine ⟨w.heap.size + 1, _, ((w.alloc (.deferred (some []))).alloc (.loop { state := .ready, pending := none, fn, tmps := a.tmps, params := ps, assign, body, defers := w.heap.size })), { target := .fn (.func gf) lb, args := #[.func (.yield (w.heap.size + 1)) #[] #[]] }, ((w.alloc (.deferred (some []))).alloc (.loop { state := .ready, pending := none, fn, tmps := a.tmps, params := ps, assign, body, defers := w.heap.size })), gf, #[.func (.yield (w.heap.size + 1)) #[] #[]] ++ lb, ((w.alloc (.deferred (some []))).alloc (.loop { state := .ready, pending := none, fn, tmps := a.tmps, params := ps, assign, body, defers := w.heap.size })), run_enterLoop_outer _ _ _ _ _, ?q1, ?q0, ?q2, ?q4, ?q3⟩
 case q0 => exact fun _ _ => trivial
 case q4 => intro h; cases h
 case q1 => simp only [resolve, hg]; simp [go_sem]
 case q2 => simp [invoke, go_sem, eg]
 case q3 =>
  generalize (w.alloc (.deferred (some []))).alloc (.loop { state := .ready, pending := none, fn, tmps := a.tmps, params := ps, assign, body, defers := w.heap.size }) = W1 at *
  have hr := hseq n (w.heap.size + 1) (fun pre W => I pre W ∧ RdReady w.heap.size { state := .ready, pending := none, fn, tmps := a.tmps, params := ps, assign, body, defers := w.heap.size } W) (fun pre W => ∃ c, Ix c pre W ∧ RdDone w.heap.size { state := .ready, pending := none, fn, tmps := a.tmps, params := ps, assign, body, defers := w.heap.size } c W) W1 hb1 ?k0 ?k1 ?k2 ?k3 ⟨hI1, hL, hD⟩
  case k0 =>
   rintro k (h | rfl | rfl)
   ·have := hS k h; omega
   ·omega
   ·omega
  case k1 =>
   intro s A B hs hf
   rw [hsz] at hf
   exact ⟨hI s A B hs.1 (hf.mono (fun k hk => by show w.heap.size ≤ k; omega)), rd_kept hf hs.2⟩
  case k2 =>
   intro s A B hs hf
   rw [hsz] at hf
   obtain ⟨c, h1, h2⟩ := hs
   exact ⟨c, hIx c s A B h1 (hf.mono (fun k hk => by show w.heap.size ≤ k; omega)), rd_kept hf h2⟩
  case k3 =>
   intro pre x W2 hp hJ
   exact round_own hfn rfl rfl (hps x) hS hI hIx (hAx x) hJ.2 (fun K hK => hassign pre x W2 K hp hJ.1 hK) (fun M a' W' hM hi hx => hbody pre x M a' W' hp hM hi hx)
  refine hr.mono ?_
  rintro e W3 ⟨⟨v, rfl⟩, (⟨hi, h1, h2⟩ | ⟨pre, hpre, c, hi, h1, h2⟩)⟩
  ·exact ⟨none, _, run_endLoop h1 (by simp), hdone _ (hI.put _ hi (by omega)) ((World.putObj_heap_other (by omega)).trans h2)⟩
  ·exact ⟨some c, _, run_endLoop h1 (by simp), hstop c pre _ hpre ((hIx c).put _ hi (by omega)) ((World.putObj_heap_other (by omega)).trans h2)⟩
end Go.Proofs.YtccikgogjfbpeaaGreatDoor

namespace Go.Proofs.YtccikgogjfbpeaaGreatDoor
open Go.RowKit Go.Shelf
attribute [local go_sem] Oper.semAt_some
def paV (p : PaM) : Value := .agg #[.int .i64 (p.p0 : Nat), .int .i64 (p.p1 : Nat), .int .i64 (p.p2 : Nat), .int .i64 (p.p3 : Nat)]
def paE (y : PaM × Nat) : Array Value := #[paV y.1, .int .i64 (y.2 : Nat)]
set_option maxRecDepth 100000 in
set_option maxHeartbeats 4000000 in
theorem fromD_end (Bs Bo Ba N c : Nat) (S : Nat → Prop) (a : Option Addr) (w : World) (h1 : ∀ W, Fr S w W → W.cell? ⟨Bs, 0, none⟩ = some (.int .i64 4) ∧ W.cell? ⟨Bo, 0, none⟩ = some (.slice a N c)) :
  SeqO Tryz.prog 212 #[.pointer (some ⟨Bs, 0, none⟩), .pointer (some ⟨Bo, 0, none⟩), .pointer (some ⟨Ba, 0, none⟩)] paE S [(⟨0, 0, 0, 0⟩, N)] w := by
 intro n l J Jx W hW hS hJ hJx hY h0
 obtain ⟨c1, c2⟩ := h1 W hW
 have HF : Hid (Fr (fun _ => False) W (W.alloc (.cells #[.func (.yield l) #[] #[]] 312))) := (Fr.refl _ _).alloc _
 refine callsIn_wide.2 ?_
 show Calls _ _ #[.func (.yield l) #[] #[], .pointer (some ⟨Bs, 0, none⟩), .pointer (some ⟨Bo, 0, none⟩), .pointer (some ⟨Ba, 0, none⟩)] W _
 obtain ⟨fn, tmps, assign, body, hyd, hR⟩ := hY [] (⟨0, 0, 0, 0⟩, N) (W.alloc (.cells #[.func (.yield l) #[] #[]] 312)) (by simp) (hJ.alloc _ h0)
 unfold paE paV at hyd
 replace hyd : (Instr.yield l #[.agg #[.int .i64 0, .int .i64 0, .int .i64 0, .int .i64 0], .int .i64 (N : Nat)]).run Tryz.prog (W.alloc (.cells #[.func (.yield l) #[] #[]] 312)) = .ok (.round l fn tmps assign body) (W.alloc (.cells #[.func (.yield l) #[] #[]] 312)) := hyd
 have HRd := hid hR
 have c3 : (W.alloc (.cells #[.func (.yield l) #[] #[]] 312)).cell? ⟨Bo, 0, none⟩ = some (.slice a N c) := (HF.out.cell (p := ⟨Bo, 0, none⟩) (World.block_lt_of_cell? W _ c2) (by simp)).trans c2
 have c4 : (W.alloc (.cells #[.func (.yield l) #[] #[]] 312)).cell? ⟨Bs, 0, none⟩ = some (.int .i64 4) := (HF.out.cell (p := ⟨Bs, 0, none⟩) (World.block_lt_of_cell? W _ c1) (by simp)).trans c1
 clear hR hY hJ hJx h1 hS
 go_enter Tryz.func212, Tryz.ntmps212
 go_upto_region 2 with fail
 refine (wpIn_wide (n := n + 1)).1 ?_
 gi_wp2
 refine HRd.out.mono ?_
 rintro e W3 ⟨hk3, (⟨rfl, hJ3⟩ | ⟨rfl, hJx3⟩)⟩
 ·have HJ3 := hid hJ3
  clear hJ3 hk3 hyd HRd
  gi_wp2
  go_wp2_with fail
  refine bodyPost_ret (results_none rfl _ _ _) rfl ?_
  exact ⟨⟨_, rfl⟩, .inl HJ3.out⟩
 ·have HX3 := hid hJx3
  clear hJx3 hk3 hyd HRd
  gi_wp2
  go_wp2_with fail
  refine bodyPost_ret (results_none rfl _ _ _) rfl ?_
  exact ⟨⟨_, rfl⟩, .inr ⟨_, by simp, HX3.out⟩⟩
end Go.Proofs.YtccikgogjfbpeaaGreatDoor

namespace Go.Proofs.YtccikgogjfbpeaaGreatDoor
open Go.RowKit Go.Shelf
theorem ownFrom_block {β : Type} {C b : Nat} {cs : Array Value} {t : TypeId} : OwnFrom C (fun (_ : β) (W : World) => W.heap[b]? = some (.cells cs t)) := fun _ W W' row hs hg hr =>
 (hg.block _ (Array.getElem?_eq_some_iff.1 hs).1 (fun e => by obtain ⟨_, o, h1, h2⟩ := hr _ e.symm; rw [hs] at h1; cases h1; cases h2)).trans hs
theorem arRows_get : ∀ (es : List ArE) (k : Nat) (e : ArE), es[k]? = some e → ∀ (j : Nat) (v : Value), (arRow e)[j]? = some v → (arRows es)[k * 4 + j]? = some v
 | [], k, e, h => by simp at h
 | x :: r, 0, e, h => by
  simp at h; subst h
  intro j v hv
  have hj := (List.getElem?_eq_some_iff.1 hv).1
  show (arRow x ++ arRows r)[0 * 4 + j]? = some v
  rw [List.getElem?_append_left (by omega), Nat.zero_mul, Nat.zero_add]
  exact hv
 | x :: r, k + 1, e, h => by
  intro j v hv
  have l : (arRow x).length = 4 := rfl
  show (arRow x ++ arRows r)[(k + 1) * 4 + j]? = some v
  rw [List.getElem?_append_right (by omega), l, show (k + 1) * 4 + j - 4 = k * 4 + j from by omega]
  exact arRows_get r k e (by simpa using h) j v hv
theorem ars_own {W : World} {n₀ : Nat} {v : Value} {es : List ArE} {t : TypeId} (h : W.ownsRow n₀ t 4 v es.length (arRows es)) (hok : ∀ e, e ∈ es → e.ok W) : ∃ a c, v = .slice a es.length c ∧ ArsAt W a es ∧ ∀ g o, a = some ⟨g, o, none⟩ → n₀ ≤ g ∧ g < W.heap.size := by
 by_cases hn : 0 < es.length
 ·obtain ⟨g, cap, rfl, hb, hl⟩ := h.form hn
  refine ⟨_, _, rfl, fun k e he => ⟨hok e (List.mem_of_getElem? he), g, 0, rfl, fun j v hv => ?_⟩, fun g' o e => ?_⟩
  ·have hc := h.cells (g := g) rfl _ _ (arRows_get es k e he j v hv)
   have hadd : ∀ k, (⟨g, 0, none⟩ : Addr).add k = ⟨g, k, none⟩ := fun k => by unfold Addr.add; split <;> simp_all
   rw [hadd] at hc
   rw [Nat.zero_add]
   exact hc
  ·cases e
   exact ⟨hb, hl⟩
 ·have he : es = [] := List.length_eq_zero_iff.1 (by omega)
  subst he
  rcases h.2 with ⟨rfl, _⟩ | ⟨g, cap, cur, rfl, hb, hg, _⟩
  ·exact ⟨none, 0, rfl, fun k e he => by simp at he, fun g o e => by cases e⟩
  ·refine ⟨_, _, rfl, fun k e he => by simp at he, fun g' o e => ?_⟩
   cases e
   exact ⟨hb, (Array.getElem?_eq_some_iff.1 hg).1⟩
theorem ArsAt.frS {w w' : World} {S : Nat → Prop} {a : Option Addr} {es : List ArE} (h : ArsAt w a es) (hf : Fr S w w') (hg : ∀ g o, a = some ⟨g, o, none⟩ → g < w.heap.size → ¬ S g) (hok : ∀ e, e ∈ es → e.ok w') : ArsAt w' a es := by
 intro k e he
 obtain ⟨_, g, o, ea, hc⟩ := h k e he
 refine ⟨hok e (List.mem_of_getElem? he), g, o, ea, fun j v hv => ?_⟩
 have hl := World.block_lt_of_cell? w _ (hc j v hv)
 exact (hf.cell (p := ⟨g, o + k * 4 + j, none⟩) hl (hg g o ea hl)).trans (hc j v hv)
structure FromAt (W : World) (Bs Bo Ba side : Nat) (A : ArM) (x0 x1 x2 x3 : SlM) (a : Option Addr) (c : Nat) (es : List ArE) : Prop where
 s : W.cell? ⟨Bs, 0, none⟩ = some (.int .i64 (side : Nat))
 o : W.cell? ⟨Bo, 0, none⟩ = some (.slice a es.length c)
 a0 : W.cell? ⟨Ba, 0, none⟩ = some (spV x0 A.s0)
 a1 : W.cell? ⟨Ba, 1, none⟩ = some (spV x1 A.s1)
 a2 : W.cell? ⟨Ba, 2, none⟩ = some (spV x2 A.s2)
 a3 : W.cell? ⟨Ba, 3, none⟩ = some (spV x3 A.s3)
 ar : ArV W A x0 x1 x2 x3
 ars : ArsAt W a es
def paF (side n : Nat) (y : PaM × Nat) : PaM × Nat := (y.1.set side n, y.2)
def fromG (A : ArM) (k : Nat) (es : List ArE) (side n : Nat) : List (PaM × Nat) := (fromM A k (havE side n es)).map (paF side n)
def fromD' (A : ArM) (k : Nat) (es : List ArE) (side : Nat) (l : List Nat) : List (PaM × Nat) := l.flatMap (fromG A k es side)
theorem fromM_eq (A : ArM) (k side : Nat) (es : List ArE) (h : side + k = 3) : fromM A (k + 1) es = fromD' A k es side (startsM side A es) := by
 obtain rfl : side = 3 - k := by omega
 rfl
theorem fromD_snoc (A : ArM) (k : Nat) (es : List ArE) (side : Nat) (l : List Nat) (n : Nat) : fromD' A k es side (l ++ [n]) = fromD' A k es side l ++ fromG A k es side n := by simp [fromD']
theorem fromD_take {A : ArM} {k : Nat} {es : List ArE} {side : Nat} {l : List Nat} {j n : Nat} (h : l[j]? = some n) : fromD' A k es side (l.take (j + 1)) = fromD' A k es side (l.take j) ++ fromG A k es side n := by
 rw [List.take_add_one, h]
 exact fromD_snoc A k es side _ n
theorem fromD_pre {A : ArM} {k : Nat} {es : List ArE} {side : Nat} {l : List Nat} (j : Nat) : fromD' A k es side (l.take j) <+: fromD' A k es side l := by
 refine ⟨fromD' A k es side (l.drop j), ?_⟩
 unfold fromD'
 rw [← List.flatMap_append, List.take_append_drop]
theorem fromD_here {A : ArM} {k : Nat} {es : List ArE} {side : Nat} {l : List Nat} {j n : Nat} (h : l[j]? = some n) {pre : List (PaM × Nat)} (hp : pre <+: fromM A k (havE side n es)) : fromD' A k es side (l.take j) ++ pre.map (paF side n) <+: fromD' A k es side l := by
 refine List.IsPrefix.trans ?_ (fromD_pre (j + 1))
 rw [fromD_take h]
 exact (List.prefix_append_right_inj _).2 (hp.map _)
theorem starts_len {W : World} {side : Nat} {A : ArM} {x0 x1 x2 x3 : SlM} {a : Option Addr} {es : List ArE} (hl : es.length ≤ 10) (h : ArV W A x0 x1 x2 x3) (h2 : ArsAt W a es) : (startsM side A es).length ≤ 2010 := by
 have h3 : ∀ e, e ∈ es → (e.A.at side).length ≤ 10 := fun e he => by
  obtain ⟨k, hk⟩ := List.mem_iff_getElem?.1 he
  exact (h2 k e hk).1.few side
 have h4 := stRaw_len side es h3 (A.at side)
 have h5 := startN_len (stRaw side (A.at side) es)
 have h6 := Nat.mul_le_mul (show 1 + 20 * es.length ≤ 201 by omega) (h.few side)
 unfold startsM
 omega
theorem pa_cell {W : World} {B side : Nat} {v0 v1 v2 v3 : Value} {t : TypeId} (hs : side < 4) (h : W.heap[B]? = some (.cells #[v0, v1, v2, v3] t)) : ∃ u, W.cell? ⟨B, side, none⟩ = some u := by
 have : side = 0 ∨ side = 1 ∨ side = 2 ∨ side = 3 := by omega
 rcases this with rfl | rfl | rfl | rfl
 ·exact ⟨_, block_cell h 0 _ rfl⟩
 ·exact ⟨_, block_cell h 1 _ rfl⟩
 ·exact ⟨_, block_cell h 2 _ rfl⟩
 ·exact ⟨_, block_cell h 3 _ rfl⟩
theorem pa_set (p : PaM) (side n : Nat) (hs : side < 4) (B : Nat) (W : World) (t : TypeId) (h : W.heap[B]? = some (.cells #[.int .i64 (p.p0 : Nat), .int .i64 (p.p1 : Nat), .int .i64 (p.p2 : Nat), .int .i64 (p.p3 : Nat)] t)) :
  (W.setCell ⟨B, side, none⟩ (.int .i64 (n : Nat))).cell? ⟨B, 0, none⟩ = some (.int .i64 ((p.set side n).p0 : Nat)) ∧ (W.setCell ⟨B, side, none⟩ (.int .i64 (n : Nat))).cell? ⟨B, 1, none⟩ = some (.int .i64 ((p.set side n).p1 : Nat)) ∧ (W.setCell ⟨B, side, none⟩ (.int .i64 (n : Nat))).cell? ⟨B, 2, none⟩ = some (.int .i64 ((p.set side n).p2 : Nat)) ∧ (W.setCell ⟨B, side, none⟩ (.int .i64 (n : Nat))).cell? ⟨B, 3, none⟩ = some (.int .i64 ((p.set side n).p3 : Nat)) := by
 have c0 : W.cell? ⟨B, 0, none⟩ = some (.int .i64 (p.p0 : Nat)) := block_cell h 0 _ rfl
 have c1 : W.cell? ⟨B, 1, none⟩ = some (.int .i64 (p.p1 : Nat)) := block_cell h 1 _ rfl
 have c2 : W.cell? ⟨B, 2, none⟩ = some (.int .i64 (p.p2 : Nat)) := block_cell h 2 _ rfl
 have c3 : W.cell? ⟨B, 3, none⟩ = some (.int .i64 (p.p3 : Nat)) := block_cell h 3 _ rfl
 have : side = 0 ∨ side = 1 ∨ side = 2 ∨ side = 3 := by omega
 rcases this with rfl | rfl | rfl | rfl
 ·exact ⟨World.cell?_setCell_same _ _ _ c0, (World.cell?_setCell_other _ _ _ _ (by simp)).trans c1, (World.cell?_setCell_other _ _ _ _ (by simp)).trans c2, (World.cell?_setCell_other _ _ _ _ (by simp)).trans c3⟩
 ·exact ⟨(World.cell?_setCell_other _ _ _ _ (by simp)).trans c0, World.cell?_setCell_same _ _ _ c1, (World.cell?_setCell_other _ _ _ _ (by simp)).trans c2, (World.cell?_setCell_other _ _ _ _ (by simp)).trans c3⟩
 ·exact ⟨(World.cell?_setCell_other _ _ _ _ (by simp)).trans c0, (World.cell?_setCell_other _ _ _ _ (by simp)).trans c1, World.cell?_setCell_same _ _ _ c2, (World.cell?_setCell_other _ _ _ _ (by simp)).trans c3⟩
 ·exact ⟨(World.cell?_setCell_other _ _ _ _ (by simp)).trans c0, (World.cell?_setCell_other _ _ _ _ (by simp)).trans c1, (World.cell?_setCell_other _ _ _ _ (by simp)).trans c2, World.cell?_setCell_same _ _ _ c3⟩
end Go.Proofs.YtccikgogjfbpeaaGreatDoor
