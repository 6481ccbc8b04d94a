/- Read, walked. Compile: what is deferred. Compile: the deferred literal. -/
import Derived.Test.YtccikgogjfbpeabGreatDoorWHa
import Derived.Test.YtccikgogjfbpeabGreatDoorWQk
import Derived.Defers
import Derived.Recover
namespace Go.Proofs.YtccikgogjfbpeabGreatDoor
open Go.RowKit
def readM (s : ByteArray) : Except (Nat × Nat) (List RouteM × List RuleM) :=
 if 3000 < s.size then .error (1, 0)
 else match lexFrom s 0 1 [] with
  | .error l => .error (2, l)
  | .ok ts => match parseFrom ts 0 [] with
   | .error l => .error (3, l)
   | .ok (xs, _) => underM [] [] xs
def RPost (x : Except (Nat × Nat) (List RouteM × List RuleM)) (w : World) (e : Ending) (w' : World) : Prop :=
 match x with
 | .ok p => (∃ B vr vl xs, e = .returned (.pointer (some ⟨B, 0, none⟩)) /\ w.heap.size <= B /\ Bk w' B vr vl p.1 p.2 xs) /\ Below w.heap.size w w'
 | .error f => e = faultE f.1 f.2 /\ Below w.heap.size w w'
theorem RPost.ok {x : Except (Nat × Nat) (List RouteM × List RuleM)} {w w' : World} {e : Ending} {p : List RouteM × List RuleM} (h : x = .ok p) : RPost x w e w' ↔ (∃ B vr vl xs, e = .returned (.pointer (some ⟨B, 0, none⟩)) /\ w.heap.size <= B /\ Bk w' B vr vl p.1 p.2 xs) /\ Below w.heap.size w w' := by subst h; exact Iff.rfl
theorem RPost.err {x : Except (Nat × Nat) (List RouteM × List RuleM)} {w w' : World} {e : Ending} {f : Nat × Nat} (h : x = .error f) : RPost x w e w' ↔ e = faultE f.1 f.2 /\ Below w.heap.size w w' := by subst h; exact Iff.rfl
theorem Scanned.ok {w w' : World} {s : ByteArray} {e : Ending} {ts : List Tk} (h : lexFrom s 0 1 [] = .ok ts) : Scanned w s e w' ↔ (∃ v, e = .returned v /\ w'.ownsRow w.heap.size 207 3 v ts.length (tkRow ts) /\ ts.length <= s.size + 1) /\ Below w.heap.size w w' := by unfold Scanned; rw [h]
theorem Scanned.err {w w' : World} {s : ByteArray} {e : Ending} {l : Nat} (h : lexFrom s 0 1 [] = .error l) : Scanned w s e w' ↔ e = faultE 2 l /\ Below w.heap.size w w' := by unfold Scanned; rw [h]
theorem Parsed.ok {w w' : World} {ts : List Tk} {e : Ending} {xs : List EntE} {k : Nat} (h : parseFrom ts 0 [] = .ok (xs, k)) : Parsed w ts e w' ↔ (∃ v vs, e = .returned v /\ w'.ownsRow w.heap.size 200 1 v xs.length vs /\ EntVs w.heap.size w' xs vs /\ xs.length <= 4000) /\ Below w.heap.size w w' := by unfold Parsed; rw [h]
theorem Parsed.err {w w' : World} {ts : List Tk} {e : Ending} {l : Nat} (h : parseFrom ts 0 [] = .error l) : Parsed w ts e w' ↔ e = faultE 3 l /\ Below w.heap.size w w' := by unfold Parsed; rw [h]
set_option maxRecDepth 30000 in
set_option maxHeartbeats 1000000 in
theorem Read_any (s : ByteArray) (w : World) : Calls Tryz.prog 44 #[.string s] w (RPost (readM s) w) := by
 by_cases hs : 3000 < s.size
 ·have HQ : Hid (readM s = .error (1, 0)) := by show _ = _; unfold readM; rw [if_pos hs]
  go_enter Tryz.func44, Tryz.ntmps44
  go_wp2
  exact ⟨rfl, (RPost.err HQ.o).2 ⟨rfl, Below.refl _ _⟩⟩
 ·have HS := hid hs
  go_enter Tryz.func44, Tryz.ntmps44
  go_wp2_with fail
  clear hs
  refine (scan_any s w (by have := HS.o; omega)).mono ?_
  intro e w1 hT
  cases hL : lexFrom s 0 1 [] with
  | error l =>
   obtain ⟨he, hf⟩ := (Scanned.err hL).1 hT
   unfold faultE at he
   subst he
   exact ⟨rfl, (RPost.err (f := (2, l)) (by unfold readM; rw [if_neg HS.o, hL])).2 ⟨rfl, hf⟩⟩
  | ok ts =>
   obtain ⟨⟨v, rfl, hown, hlen⟩, hf⟩ := (Scanned.ok hL).1 hT
   obtain ⟨hall, hlast, hpos⟩ := lexFrom_all _ 0 1 [] ts rfl (by simp) hL
   obtain ⟨g, cap, rfl, hb, hl⟩ := hown.form hpos
   have hadd : ∀ k, (⟨g, 0, none⟩ : Addr).add k = ⟨g, k, none⟩ := fun k => by unfold Addr.add; split <;> simp_all
   have HAll := hid hall
   have HL1 := hid hlen
   have HL := hid hL
   have HB1 := hid hf
   have HP : Hid (Calls Tryz.prog 75 #[.slice (some ⟨g, 0, none⟩) ts.length cap] w1 (Parsed w1 ts)) := by
    refine parse_any w1 g cap ts (fun j t hj => ?_) hl hpos (by have := HS.o; omega) hlast
    obtain ⟨t0, t1, t2⟩ := tkRow_get ts j t hj
    have q0 := hown.cells (g := g) rfl _ _ t0
    have q1 := hown.cells (g := g) rfl _ _ t1
    have q2 := hown.cells (g := g) rfl _ _ t2
    rw [hadd] at q0 q1 q2
    exact ⟨q0, q1, q2⟩
   clear hT hL hown hlen hf hall hlast hb hadd
   go_wp2_with fail
   refine HP.o.mono ?_
   intro e w2 hT
   cases hE : parseFrom ts 0 [] with
   | error l =>
    obtain ⟨he, hf⟩ := (Parsed.err hE).1 hT
    unfold faultE at he
    subst he
    exact ⟨rfl, (RPost.err (f := (3, l)) (by unfold readM; rw [if_neg HS.o, HL.o]; dsimp only; rw [hE])).2 ⟨rfl, HB1.o.trans (hf.mono HB1.o.size)⟩⟩
   | ok r =>
    obtain ⟨xs, k⟩ := r
    obtain ⟨⟨v, vs, rfl, hown, hev, hxl⟩, hf⟩ := (Parsed.ok hE).1 hT
    have HE := hid (parse_ok HAll.o (by have := HS.o; omega) (by have := HS.o; have := HL1.o; omega) _ 0 [] xs k rfl (by simp) hE)
    have HU := hid (understand_any w2 _ _ v xs vs hown hev HE.o hxl)
    have HR : Hid (readM s = underM [] [] xs) := by show _ = _; unfold readM; rw [if_neg HS.o, HL.o]; dsimp only; rw [hE]
    have HB2 := hid (HB1.o.trans (hf.mono HB1.o.size))
    obtain ⟨a1, a2, a3, rfl⟩ := ownsRow_slice hown
    clear hT hE hown hev hxl hf
    go_wp2_with fail
    refine HU.o.mono ?_
    intro e w3 hT
    cases hM : underM [] [] xs with
    | error f =>
     obtain ⟨he, hf⟩ := (UPost.err hM).1 hT
     unfold faultE at he
     subst he
     exact ⟨rfl, (RPost.err (HR.o.trans hM)).2 ⟨rfl, HB2.o.trans (hf.mono HB2.o.size)⟩⟩
    | ok p =>
     obtain ⟨rfl, hk, hf⟩ := (UPost.ok hM).1 hT
     have HK := hid hk
     have HB3 := hid (HB2.o.trans (hf.mono HB2.o.size))
     have HM := hid (HR.o.trans hM)
     clear hT hM hk hf
     go_wp2
     go_ret
     obtain ⟨vr, vl, ys, hk⟩ := HK.o
     exact (RPost.ok HM.o).2 ⟨⟨_, _, _, _, rfl, HB2.o.size, hk⟩, HB3.o⟩
end Go.Proofs.YtccikgogjfbpeabGreatDoor

namespace Go.Proofs.YtccikgogjfbpeabGreatDoor
open Go.RowKit
section
variable {P : Program} {ops : Array Oper} {Q : Exit -> Act -> List Frame -> World -> Prop} {a : Act} {cs cs' : List Frame} {w w' : World} {o : Oper} {v : Value}
theorem upon_next {n1 n2 : Act -> World -> Prop} {q : Exit -> Act -> World -> Prop} (h1 : ∀ a w, n1 a w -> n2 a w) {r : Result Next} (h : o.upon P a n1 q r) : o.upon P a n2 q r := by
 unfold Oper.upon at h ⊢
 split at h
 ·exact h1 _ _ h
 ·exact h1 _ _ h
 ·exact h1 _ _ h
 ·refine h.mono ?_
  intro e w' hh
  cases e with
  | returned v => exact h1 _ _ hh
  | panicked c => exact hh
  | outgrown => exact hh
 ·exact h.mono fun _ _ hh => h1 _ _ hh
 ·exact h
 ·exact h.elim
theorem opsS_of_list (hno : ∀ a w, ¬ Q .outgrown a cs w) : ∀ (l : List Oper) (k : Nat), (∀ j, l[j]? = ops[k + j]?) -> ∀ (a : Act) (w : World), wpList P ops (fun e a w => Q e a cs w) l a w -> wpOpsS P ops Q (List.range' k l.length) a cs w
 | [], k, _, a, w, h => h
 | o :: l, k, hl, a, w, h => by
  have h0 : ops[k]? = some o := by simpa using (hl 0).symm
  have ih := opsS_of_list hno l (k + 1) (fun j => by have := hl (j + 1); simpa [Nat.add_assoc, Nat.add_comm 1 j] using this)
  simp only [List.length_cons, List.range'_succ, wpOpsS, h0]
  simp only [wpList] at h
  split at h
  ·rename_i hw
   rw [if_pos hw]
   rcases h with h | ⟨_, a', w', h⟩
   ·unfold Oper.wp at h
    split
    ·rename_i w' hx
     rw [hx] at h
     exact absurd h (by simp [Oper.upon])
    ·exact upon_next (fun a' w' h => ih a' w' h) h
   ·exact absurd h (hno a' w')
  ·rename_i hw
   rw [if_neg hw]
   exact ih _ _ h
theorem wpList_weak {q1 q2 : Exit -> Act -> World -> Prop} (hq : ∀ e a w, q1 e a w -> q2 e a w) : ∀ (l : List Oper) (a : Act) (w : World), wpList P ops q1 l a w -> wpList P ops q2 l a w
 | [], a, w, h => hq _ _ _ h
 | o :: l, a, w, h => by
  simp only [wpList] at h ⊢
  split at h
  ·rename_i hw
   rw [if_pos hw]
   rcases h with h | ⟨h1, a', w', h⟩
   ·left
    have h2 := upon_next (n2 := wpList P ops q2 l) (fun a w hh => wpList_weak hq l a w hh) h
    unfold Oper.wp
    unfold Oper.upon at h2 ⊢
    split at h2
    ·exact h2
    ·exact h2
    ·exact h2
    ·refine h2.mono ?_
     intro e w' hh
     cases e with
     | returned v => exact hh
     | panicked c => exact hq _ _ _ hh
     | outgrown => obtain ⟨a', w', hh⟩ := hh; exact ⟨a', w', hq _ _ _ hh⟩
    ·exact h2
    ·exact hq _ _ _ h2
    ·exact h2.elim
   ·exact Or.inr ⟨h1, a', w', hq _ _ _ h⟩
  ·rename_i hw
   rw [if_neg hw]
   exact wpList_weak hq l _ _ h
theorem wpS_rec_seq {id : Nat} {y : Code} {o : Oper} {l : List Oper} (ho : ops.toList = o :: l) (hw : Region.wanted o (yielded ops a.tmps) = true) (hx : (execOp a.eval o).run P w = .ok .recover w') (hr : recoverD cs = some (v, cs')) (hno : ∀ a w, ¬ Q .outgrown a cs' w)
  (h : wpList P ops (Exit.then (y.wp P (fun e a w => Q e a cs' w)) (fun e a w => Q e a cs' w)) l (a.put o.dst v) w') : (Code.seq (.region id ops false) y).wpS P Q a cs w := by
 refine wpS_seq (wpS_region ?_)
 have h0 : ops[0]? = some o := by rw [<- Array.getElem?_toList, ho]; rfl
 have hs : List.range ops.size = 0 :: List.range' 1 l.length := by rw [<- Array.length_toList, ho, List.range_eq_range', List.length_cons, List.range'_succ]
 rw [hs]
 simp only [wpOpsS, h0, hw, if_true, hx, hr]
 refine opsS_of_list (Q := Exit.thenS (y.wpS P Q) Q) (fun a w => hno a w) l 1 (fun j => ?_) _ _ ?_
 ·rw [<- Array.getElem?_toList, ho, Nat.add_comm, List.getElem?_cons_succ]
 ·have hq : ∀ e a w, Exit.then (y.wp P (fun e a w => Q e a cs' w)) (fun e a w => Q e a cs' w) e a w -> Exit.thenS (y.wpS P Q) Q e a cs' w := fun e a w hh => by
   cases e with
   | normal => exact wpS_of_wp hh
   | _ => exact hh
  exact wpList_weak hq l _ _ h
end
end Go.Proofs.YtccikgogjfbpeabGreatDoor

namespace Go.Proofs.YtccikgogjfbpeabGreatDoor
open Go.RowKit
set_option maxRecDepth 30000 in
set_option maxHeartbeats 200000 in
theorem catch_panicking (a b c : Nat) (k l : Nat) (v0 v1 v2 : Value) (w : World) (h0 : w.cell? ⟨a, 0, none⟩ = some v0) (h1 : w.cell? ⟨b, 0, none⟩ = some v1) (h2 : w.cell? ⟨c, 0, none⟩ = some v2)
  (z0 : w.frozen? ⟨a, 0, none⟩ = false) (z1 : w.frozen? ⟨b, 0, none⟩ = false) (z2 : w.frozen? ⟨c, 0, none⟩ = false) (hab : ¬ a = b) (hac : ¬ a = c) (hbc : ¬ b = c) (hba : ¬ b = a) (hca : ¬ c = a) (hcb : ¬ c = b) :
  CallsD Tryz.prog 43 #[.pointer (some ⟨a, 0, none⟩), .pointer (some ⟨b, 0, none⟩), .pointer (some ⟨c, 0, none⟩)] (.panicking [{ v := .iface 80 (.agg #[.int .i64 k, .int .i64 l]), recovered := false }]) w fun e u' w' =>
   e = .returned (.tuple #[]) /\ u' = .panicking [{ v := .iface 80 (.agg #[.int .i64 k, .int .i64 l]), recovered := true }] /\
    w'.cell? ⟨a, 0, none⟩ = some (.pointer none) /\ w'.cell? ⟨b, 0, none⟩ = some (.int .i64 k) /\ w'.cell? ⟨c, 0, none⟩ = some (.int .i64 l) /\ Fr (fun j => j = a \/ j = b \/ j = c) w w' := by
 have hta : ∀ w : World, (Instr.typeAssert (.iface 80 (.agg #[.int .i64 k, .int .i64 l])) 20 80 true).run Tryz.prog w = .ok (.tuple #[.agg #[.int .i64 k, .int .i64 l], .bool true]) w := fun _ => by kernel_rfl
 refine callsD_of_wpS Tryz.func43 rfl fun c₀ cs hu => ?_
 have ht : (#[.pointer (some ⟨a, 0, none⟩), .pointer (some ⟨b, 0, none⟩), .pointer (some ⟨c, 0, none⟩)] ++ Array.replicate (Tryz.f43.ntmps - (#[.pointer (some ⟨a, 0, none⟩), .pointer (some ⟨b, 0, none⟩), .pointer (some ⟨c, 0, none⟩)] : Array Value).size) undef : Array Value) = #[.pointer (some ⟨a, 0, none⟩), .pointer (some ⟨b, 0, none⟩), .pointer (some ⟨c, 0, none⟩), undef, undef, undef, undef, undef, undef, undef, undef, undef, undef, undef, undef] := by rw [show Tryz.f43.ntmps = 15 from rfl]; rfl
 rw [ht]
 clear ht
 refine wpS_rec_seq (v := .iface 80 (.agg #[.int .i64 k, .int .i64 l])) (cs' := { c₀ with mode := .panicking [{ v := .iface 80 (.agg #[.int .i64 k, .int .i64 l]), recovered := true }] } :: cs) (w' := w) (o := ?o) (l := ?l) ?ho ?hw ?hx ?hr ?hno ?main
 case ho => rfl
 case hw => kernel_rfl
 case hx => rfl
 case hr => simp only [recoverD, hu]
 case hno => intro a w hh; obtain ⟨u, hh, _⟩ := hh; cases hh
 clear hu
 show wpList Tryz.prog _ _ _ { tmps := #[.pointer (some ⟨a, 0, none⟩), .pointer (some ⟨b, 0, none⟩), .pointer (some ⟨c, 0, none⟩), undef, undef, undef, .iface 80 (.agg #[.int .i64 k, .int .i64 l]), undef, undef, undef, undef, undef, undef, undef, undef], defers := [] } w
 go_wp2
 have la : a < w.heap.size := World.block_lt_of_cell? w _ h0
 have lb : b < w.heap.size := World.block_lt_of_cell? w _ h1
 have lc : c < w.heap.size := World.block_lt_of_cell? w _ h2
 have hf : F0 w (w.alloc (.cells #[.int .i64 k, .int .i64 l] 80)) := (Fr.refl _ _).alloc _
 have HF := hid hf
 have g0 := (hf.cell (p := ⟨a, 0, none⟩) la (by simp)).trans h0
 have g1 := (hf.cell (p := ⟨b, 0, none⟩) lb (by simp)).trans h1
 have g2 := (hf.cell (p := ⟨c, 0, none⟩) lc (by simp)).trans h2
 have y0 := (hf.frozen (p := ⟨a, 0, none⟩) la (by simp)).trans z0
 have y1 := (hf.frozen (p := ⟨b, 0, none⟩) lb (by simp)).trans z1
 have y2 := (hf.frozen (p := ⟨c, 0, none⟩) lc (by simp)).trans z2
 have k0 := block_cell (heap_alloc_new w (.cells #[.int .i64 k, .int .i64 l] 80)) 0 _ rfl
 have k1 := block_cell (heap_alloc_new w (.cells #[.int .i64 k, .int .i64 l] 80)) 1 _ rfl
 clear hf hta h0 h1 h2 z0 z1 z2
 generalize hN : w.heap.size = N at *
 generalize w.alloc (.cells #[.int .i64 k, .int .i64 l] 80) = wA at *
 have na : ¬ a = N := by omega
 have nb : ¬ b = N := by omega
 have nc : ¬ c = N := by omega
 have na' : ¬ N = a := by omega
 have nb' : ¬ N = b := by omega
 have nc' : ¬ N = c := by omega
 clear hN la lb lc
 go_region
 have oth : ∀ (v : World) (x y : Nat) (u : Value), ¬ x = y -> (v.setCell ⟨x, 0, none⟩ u).cell? ⟨y, 0, none⟩ = v.cell? ⟨y, 0, none⟩ := fun v x y u h => World.cell?_setCell_other _ _ _ _ (fun e => h (by injection e))
 refine ⟨rfl, _, rfl, .tuple #[], results_none rfl _ _ _, rfl, rfl, ?_, ?_, ?_, ?_⟩
 ·exact (oth _ c a _ hca).trans ((oth _ b a _ hba).trans (World.cell?_setCell_same _ _ _ g0))
 ·exact (oth _ c b _ hcb).trans (World.cell?_setCell_same _ _ _ ((oth _ a b _ hab).trans g1))
 ·exact World.cell?_setCell_same _ _ _ ((oth _ b c _ hbc).trans ((oth _ a c _ hac).trans g2))
 ·exact ((((HF.o.mono (by simp)).setCell (p := ⟨a, 0, none⟩) (Or.inl (Or.inl rfl)) _).setCell (p := ⟨b, 0, none⟩) (Or.inl (Or.inr (Or.inl rfl))) _).setCell (p := ⟨c, 0, none⟩) (Or.inl (Or.inr (Or.inr rfl))) _).drew
theorem wpS_idle_seq {P : Program} {ops : Array Oper} {Q : Exit -> Act -> List Frame -> World -> Prop} {a : Act} {cs : List Frame} {w w' : World} {id : Nat} {y : Code} {o : Oper} {l : List Oper} (ho : ops.toList = o :: l) (hw : Region.wanted o (yielded ops a.tmps) = true) (hx : (execOp a.eval o).run P w = .ok .recover w') (hr : recoverD cs = none) (hno : ∀ a w, ¬ Q .outgrown a cs w)
  (h : wpList P ops (Exit.then (y.wp P (fun e a w => Q e a cs w)) (fun e a w => Q e a cs w)) l (a.put o.dst .nilIface) w') : (Code.seq (.region id ops false) y).wpS P Q a cs w := by
 refine wpS_seq (wpS_region ?_)
 have h0 : ops[0]? = some o := by rw [<- Array.getElem?_toList, ho]; rfl
 have hs : List.range ops.size = 0 :: List.range' 1 l.length := by rw [<- Array.length_toList, ho, List.range_eq_range', List.length_cons, List.range'_succ]
 rw [hs]
 simp only [wpOpsS, h0, hw, if_true, hx, hr]
 refine opsS_of_list (Q := Exit.thenS (y.wpS P Q) Q) (fun a w => hno a w) l 1 (fun j => ?_) _ _ ?_
 ·rw [<- Array.getElem?_toList, ho, Nat.add_comm, List.getElem?_cons_succ]
 ·have hq : ∀ e a w, Exit.then (y.wp P (fun e a w => Q e a cs w)) (fun e a w => Q e a cs w) e a w -> Exit.thenS (y.wpS P Q) Q e a cs w := fun e a w hh => by
   cases e with
   | normal => exact wpS_of_wp hh
   | _ => exact hh
  exact wpList_weak hq l _ _ h
set_option maxRecDepth 30000 in
set_option maxHeartbeats 200000 in
theorem catch_idle (a b c : Nat) (w : World) :
  CallsD Tryz.prog 43 #[.pointer (some ⟨a, 0, none⟩), .pointer (some ⟨b, 0, none⟩), .pointer (some ⟨c, 0, none⟩)] .returning w fun e u' w' =>
   e = .returned (.tuple #[]) /\ u' = .returning /\ F0 w w' := by
 have hta : ∀ w : World, (Instr.typeAssert .nilIface 20 80 true).run Tryz.prog w = .ok (.tuple #[.agg #[.int .i64 0, .int .i64 0], .bool false]) w := fun _ => by kernel_rfl
 refine callsD_of_wpS Tryz.func43 rfl fun c₀ cs hu => ?_
 have ht : (#[.pointer (some ⟨a, 0, none⟩), .pointer (some ⟨b, 0, none⟩), .pointer (some ⟨c, 0, none⟩)] ++ Array.replicate (Tryz.f43.ntmps - (#[.pointer (some ⟨a, 0, none⟩), .pointer (some ⟨b, 0, none⟩), .pointer (some ⟨c, 0, none⟩)] : Array Value).size) undef : Array Value) = #[.pointer (some ⟨a, 0, none⟩), .pointer (some ⟨b, 0, none⟩), .pointer (some ⟨c, 0, none⟩), undef, undef, undef, undef, undef, undef, undef, undef, undef, undef, undef, undef] := by rw [show Tryz.f43.ntmps = 15 from rfl]; rfl
 rw [ht]
 clear ht
 refine wpS_idle_seq (w' := w) (o := ?o) (l := ?l) ?ho ?hw ?hx ?hr ?hno ?main
 case ho => rfl
 case hw => kernel_rfl
 case hx => rfl
 case hr => simp only [recoverD, hu]
 case hno => intro a w hh; obtain ⟨u, hh, _⟩ := hh; cases hh
 show wpList Tryz.prog _ _ _ { tmps := #[.pointer (some ⟨a, 0, none⟩), .pointer (some ⟨b, 0, none⟩), .pointer (some ⟨c, 0, none⟩), undef, undef, undef, .nilIface, undef, undef, undef, undef, undef, undef, undef, undef], defers := [] } w
 have HU := hid hu
 clear hu
 go_wp2
 refine ⟨rfl, .returning, by rw [<- HU.o], .tuple #[], results_none rfl _ _ _, rfl, rfl, (Fr.refl _ _).alloc _⟩
end Go.Proofs.YtccikgogjfbpeabGreatDoor
