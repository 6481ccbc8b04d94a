/- The parser: pair, list, route. The parser: list. The parser: route. The parser: action. -/
import Derived.Test.YtccikgogjfbpeabGreatDoorWHa
import Derived.Test.YtccikgogjfbpeabGreatDoorWQd
import Derived.Test.YtccikgogjfbpeabGreatDoorWQa
namespace Go.Proofs.YtccikgogjfbpeabGreatDoor
open Go.RowKit
def PPost {α : Type} (r : Except Nat (α × Nat)) (val : α -> Value -> World -> Prop) (w : World) (p g cap : Nat) (ts : List Tk) (e : Ending) (w' : World) : Prop :=
 match r with
 | .ok (a, i) => (∃ v, e = .returned v /\ val a v w') /\ Pa w' p g cap ts i /\ Fr (fun k => k = p) w w'
 | .error l => e = faultE 3 l /\ Fr (fun k => k = p) w w'
theorem PPost.ok {α : Type} {r : Except Nat (α × Nat)} {val : α -> Value -> World -> Prop} {w : World} {p g cap : Nat} {ts : List Tk} {e : Ending} {w' : World} {a : α} {i : Nat} (hr : r = .ok (a, i)) :
  PPost r val w p g cap ts e w' ↔ (∃ v, e = .returned v /\ val a v w') /\ Pa w' p g cap ts i /\ Fr (fun k => k = p) w w' := by subst hr; exact Iff.rfl
theorem PPost.err {α : Type} {r : Except Nat (α × Nat)} {val : α -> Value -> World -> Prop} {w : World} {p g cap : Nat} {ts : List Tk} {e : Ending} {w' : World} {l : Nat} (hr : r = .error l) :
  PPost r val w p g cap ts e w' ↔ e = faultE 3 l /\ Fr (fun k => k = p) w w' := by subst hr; exact Iff.rfl
theorem Pa.at {w : World} {p g cap : Nat} {ts : List Tk} {i : Nat} (h : Pa w p g cap ts i) : ts[i]? = some (tkAt ts i) := by
 unfold tkAt
 rw [List.getD_eq_getElem?_getD, List.getElem?_eq_getElem h.lt]
 rfl
theorem take_any (w : World) (p g cap : Nat) (ts : List Tk) (i want : Nat) (i1 : Int) (h : Pa w p g cap ts i) (hw : want ≠ 3) (e1 : i1 = want) :
  Calls Tryz.prog 187 #[.pointer (some ⟨p, 0, none⟩), .int .i64 i1] w (PPost (takeM ts i want) (fun t v _ => v = tkV t) w p g cap ts) := by
 by_cases hs : (tkAt ts i).sort = want
 ·exact (take_yes w p g cap ts i (tkAt ts i) want i1 h h.at hs hw e1).mono fun e w' hh => (PPost.ok (by unfold takeM; rw [if_pos hs])).2 ⟨⟨_, hh.1, rfl⟩, hh.2⟩
 ·exact (take_no w p g cap ts i (tkAt ts i) want i1 h h.at hs e1).mono fun e w' hh => (PPost.err (by unfold takeM; rw [if_neg hs])).2 ⟨hh.1, hh.2.mono (by simp)⟩
theorem expect_any (w : World) (p g cap : Nat) (ts : List Tk) (i : Nat) (m : ByteArray) (h : Pa w p g cap ts i) :
  Calls Tryz.prog 114 #[.pointer (some ⟨p, 0, none⟩), .string m] w (PPost (expectM ts i m) (fun _ v _ => v = .tuple #[]) w p g cap ts) := by
 cases hq : isFix (tkAt ts i) m with
 | true => exact (expect_yes w p g cap ts i (tkAt ts i) m h h.at hq).mono fun e w' hh => (PPost.ok (by unfold expectM; rw [if_pos hq])).2 ⟨⟨_, hh.1, rfl⟩, hh.2⟩
 | false => exact (expect_no w p g cap ts i (tkAt ts i) m h h.at hq).mono fun e w' hh => (PPost.err (by unfold expectM; rw [hq]; rfl)).2 ⟨hh.1, hh.2.mono (by simp)⟩
theorem block_cell {w : World} {g : Nat} {cs : Array Value} {t : TypeId} (h : w.heap[g]? = some (.cells cs t)) (j : Nat) (v : Value) (hj : cs[j]? = some v) : w.cell? ⟨g, j, none⟩ = some v := by
 rw [cell_of_row w g j cs t (0, 0) h]; exact hj
theorem block_frozen {w : World} {g : Nat} {cs : Array Value} {t : TypeId} (h : w.heap[g]? = some (.cells cs t)) (j : Nat) : w.frozen? ⟨g, j, none⟩ = false := by
 simp [World.frozen?, h]
theorem Fr.whole {S : Nat -> Prop} {w w' : World} (h : Fr S w w') {g : Nat} {o : Obj} (hg : w.heap[g]? = some o) (hn : ¬ S g) : w'.heap[g]? = some o := by
 have hlt : g < w.heap.size := (Array.getElem?_eq_some_iff.1 hg).1
 rw [h.block g hlt hn]; exact hg
def pairV (ab : Tk × Tk) : Value := .agg #[.int .i64 ab.1.sort, .string ab.1.text, .int .i64 ab.1.line, .int .i64 ab.2.sort, .string ab.2.text, .int .i64 ab.2.line]
set_option maxHeartbeats 400000 in
theorem pair_any (w : World) (p g cap : Nat) (ts : List Tk) (i : Nat) (h : Pa w p g cap ts i) :
  Calls Tryz.prog 188 #[.pointer (some ⟨p, 0, none⟩)] w (PPost (pairM ts i) (fun ab v _ => v = pairV ab) w p g cap ts) := by
 have HP := hid h
 have hpl : p < w.heap.size := World.block_lt_of_cell? w _ h.c0
 clear h
 go_enter Tryz.func188, Tryz.ntmps188
 go_wp2_with fail
 refine (take_any _ p g cap ts i 1 _ (HP.o.fr (S := fun _ => False) ((Fr.refl _ _).alloc _) (by simp)) (by decide) (by rfl)).mono ?_
 intro e w1 hT
 cases hM : takeM ts i 1 with
 | error l =>
  obtain ⟨he, hf⟩ := (PPost.err hM).1 hT
  unfold faultE at he
  subst he
  exact ⟨rfl, (PPost.err (by unfold pairM; rw [hM])).2 ⟨rfl, ((Fr.refl _ _).alloc _).trans hf⟩⟩
 | ok r =>
  obtain ⟨a, i1⟩ := r
  obtain ⟨⟨v, rfl, rfl⟩, hp1, hf⟩ := (PPost.ok hM).1 hT
  clear hT
  have HP1 := hid hp1
  have HF1 := hid (((Fr.refl _ _).alloc _).trans hf)
  have HR1 := hid (hf.whole (heap_alloc_new w _) (by omega))
  have hp1l : p < w1.heap.size := Nat.lt_of_lt_of_le hpl HF1.o.size
  have hsz1 : w.heap.size < w1.heap.size := by have := hf.size; simp at this; omega
  have hM' := hid hM
  clear hM hp1 hf
  simp only [tkV]
  go_wp2_with fail
  refine (expect_any _ p g cap ts i1 mDots (HP1.o.fr (S := fun _ => False) ((Fr.refl _ _).alloc _) (by simp))).mono ?_
  intro e w2 hT
  cases hE : expectM ts i1 mDots with
  | error l =>
   obtain ⟨he, hf⟩ := (PPost.err hE).1 hT
   unfold faultE at he
   subst he
   exact ⟨rfl, (PPost.err (by unfold pairM; rw [hM'.o]; simp only; rw [hE])).2 ⟨rfl, HF1.o.trans (((Fr.refl _ _).alloc _).trans hf)⟩⟩
  | ok r =>
   obtain ⟨u, i2⟩ := r
   obtain ⟨⟨v, rfl, rfl⟩, hp2, hf⟩ := (PPost.ok hE).1 hT
   have HP2 := hid hp2
   have HF2 := hid (HF1.o.trans (((Fr.refl _ _).alloc _).trans hf))
   have HA := hid (hf.whole (heap_alloc_new w1 _) (by omega))
   have HR2 := hid (hf.whole (((Fr.refl (fun _ => False) _).alloc _).whole HR1.o (by simp)) (by omega))
   have hE' := hid hE
   clear hT hE hp2 hf
   have a0 := block_cell HA.o 0 _ rfl
   have a1 := block_cell HA.o 1 _ rfl
   have a2 := block_cell HA.o 2 _ rfl
   go_wp2_with fail
   refine wp_region_held_drew (S := fun w' => w'.cell? ⟨w1.heap.size, 0, none⟩ = some (.int .i64 a.sort) /\ w'.cell? ⟨w1.heap.size, 1, none⟩ = some (.string a.text) /\ w'.cell? ⟨w1.heap.size, 2, none⟩ = some (.int .i64 a.line)) (by kernel_rfl) ?_ (fun hH => ?_)
   ·exact ⟨by simpa using a0, by simpa using a1, by simpa using a2⟩
   refine htk 0 (v := ?v0) ?y0 hH ?r0
   case y0 => intro w hw; obtain ⟨g0, g1, g2⟩ := hw; go_simp; with_reducible rfl
   go_frame
   refine htk 1 (v := ?v1) ?y1 hH ?r1
   case y1 => intro w hw; obtain ⟨g0, g1, g2⟩ := hw; go_simp; with_reducible rfl
   go_frame
   refine wpAnyH_ready (rs := [2]) (by kernel_rfl) (by simp) ?_
   refine held_cons rfl (fun K hK => ?_) AllReadyH.nil
   rw [if_pos (by rfl)]
   go_simp
   refine (take_any _ p g cap ts i2 1 _ (HP2.o.fr (S := fun _ => False) (Fr.refl _ _).drew (by simp)) (by decide) (by rfl)).mono ?_
   intro e w3 hT
   cases hM3 : takeM ts i2 1 with
   | error l =>
    obtain ⟨he, hf⟩ := (PPost.err hM3).1 hT
    unfold faultE at he
    subst he
    exact ⟨rfl, (PPost.err (by unfold pairM; rw [hM'.o]; simp only; rw [hE'.o]; simp only; rw [hM3])).2 ⟨rfl, HF2.o.trans ((Fr.refl _ _).drew.trans hf)⟩⟩
   | ok r =>
    obtain ⟨c, i3⟩ := r
    obtain ⟨⟨v, rfl, rfl⟩, hp3, hf⟩ := (PPost.ok hM3).1 hT
    have HP3 := hid hp3
    have HF3 := hid (HF2.o.trans ((Fr.refl _ _).drew.trans hf))
    have HA3 := hf.whole (g := w1.heap.size) HA.o (by omega)
    have HR3 := hf.whole (g := w.heap.size) HR2.o (by omega)
    have hM3' := hid hM3
    clear hT hM3 hp3 hf a0 a1 a2 hH
    refine hK.out _ _ ⟨block_cell HA3 0 _ rfl, block_cell HA3 1 _ rfl, block_cell HA3 2 _ rfl⟩ (fun hH => ?_)
    clear hK K HA3
    have r0 := block_cell HR3 0 _ rfl
    have r1 := block_cell HR3 1 _ rfl
    have r2 := block_cell HR3 2 _ rfl
    have r3 := block_cell HR3 3 _ rfl
    have r4 := block_cell HR3 4 _ rfl
    have r5 := block_cell HR3 5 _ rfl
    have rf := block_frozen HR3
    clear HR3
    simp only [tkV]
    try go_frame
    refine htk 3 (v := ?v3) ?y3 hH ?r3
    case y3 => intro w hw; go_simp; with_reducible rfl
    go_frame
    refine wpAnyH_ready (rs := [4]) (by kernel_rfl) (by simp) ?_
    refine held_cons rfl (fun K hK => ?_) AllReadyH.nil
    rw [if_pos (by rfl)]
    go_simp
    have hW := ((((((Fr.refl (fun k => k = w.heap.size) w3).setCell (p := ⟨w.heap.size, 0, none⟩) (Or.inl rfl) (.int .i64 a.sort)).setCell (p := ⟨w.heap.size, 1, none⟩) (Or.inl rfl) (.string a.text)).setCell (p := ⟨w.heap.size, 2, none⟩) (Or.inl rfl) (.int .i64 a.line)).setCell (p := ⟨w.heap.size, 3, none⟩) (Or.inl rfl) (.int .i64 c.sort)).setCell (p := ⟨w.heap.size, 4, none⟩) (Or.inl rfl) (.string c.text)).setCell (p := ⟨w.heap.size, 5, none⟩) (Or.inl rfl) (.int .i64 c.line)
    have hlt3 : w1.heap.size < w3.heap.size := World.block_lt_of_cell? w3 _ hH.1
    have HW := hid hW
    refine hK.out _ _ ⟨(hW.cell (p := ⟨w1.heap.size, 0, none⟩) hlt3 (by simp; omega)).trans hH.1, (hW.cell (p := ⟨w1.heap.size, 1, none⟩) hlt3 (by simp; omega)).trans hH.2.1, (hW.cell (p := ⟨w1.heap.size, 2, none⟩) hlt3 (by simp; omega)).trans hH.2.2⟩ (fun _ => ?_)
    clear hK K hW
    try go_frame
    refine wpAnyH_done (by kernel_rfl) ?_ _
    go_wp2
    have hgl := HP.o.gl
    have hn := HP3.o.fr HW.o (fun k hk => by omega)
    exact bodyPost_ret (v := pairV (a, c)) (by simp [results, Tryz.results188, go_sem, pairV, *]) rfl ((PPost.ok (by unfold pairM; rw [hM'.o]; simp only; rw [hE'.o]; simp only; rw [hM3'.o])).2 ⟨⟨_, rfl, rfl⟩, hn, HF3.o.monoNew HW.o (fun k hk => by omega)⟩)
end Go.Proofs.YtccikgogjfbpeabGreatDoor

namespace Go.Proofs.YtccikgogjfbpeabGreatDoor
open Go.RowKit
theorem ownsRow_fr {w w' : World} {S : Nat -> Prop} {base : Nat} {e : TypeId} {size : Nat} {v : Value} {n : Nat} {xs : List Value} (h : w.ownsRow base e size v n xs) (hf : Fr S w w') (hS : ∀ k, S k -> k < base) : w'.ownsRow base e size v n xs := by
 refine ⟨h.1, ?_⟩
 rcases h.2 with hn | ⟨g, cap, cur, rfl, hb, hgg, rest⟩
 ·exact .inl hn
 ·refine .inr ⟨g, cap, cur, rfl, hb, ?_, rest⟩
  exact hf.whole hgg (fun hs => by have := hS g hs; omega)
theorem ownsRow_base {w : World} {base base' : Nat} {e : TypeId} {size : Nat} {v : Value} {n : Nat} {xs : List Value} (h : w.ownsRow base e size v n xs) (hb : base' <= base) : w.ownsRow base' e size v n xs :=
 ⟨h.1, h.2.imp id (fun ⟨g, cap, cur, h1, h2, h3⟩ => ⟨g, cap, cur, h1, by omega, h3⟩)⟩
theorem Fr.grown {S : Nat -> Prop} {a w w' : World} {row : Option Nat} (h : Fr S a w) (hg : w.grownBy w' row) (hr : ∀ k, row = some k -> S k \/ a.heap.size <= k) : Fr S a w' :=
 h.monoNew (T := fun k => row = some k) ⟨hg.os, hg.tape, hg.output, hg.size, fun k hk hn => hg.block k hk (fun e => hn e.symm)⟩ hr
theorem restM_no {ts : List Tk} {i want : Nat} {acc : List Tk} (h : isFix (tkAt ts i) mComma = false) : restM ts i want acc = .ok (acc, i) := by
 rw [restM, dif_neg (by simp [h])]
theorem restM_err {ts : List Tk} {i want : Nat} {acc : List Tk} {l : Nat} (h : isFix (tkAt ts i) mComma = true) (ht : takeM ts (i + 1) want = .error l) : restM ts i want acc = .error l := by
 rw [restM, dif_pos h]; split <;> simp_all
theorem restM_ok {ts : List Tk} {i want : Nat} {acc : List Tk} {t : Tk} {i' : Nat} (h : isFix (tkAt ts i) mComma = true) (ht : takeM ts (i + 1) want = .ok (t, i')) : restM ts i want acc = restM ts i' want (acc ++ [t]) := by
 rw [restM, dif_pos h]; split <;> simp_all
set_option maxHeartbeats 1000000 in
theorem list_any (w : World) (p g cap : Nat) (ts : List Tk) (i want : Nat) (i1 : Int) (h : Pa w p g cap ts i) (hw : want ≠ 3) (e1 : i1 = want) :
  Calls Tryz.prog 189 #[.pointer (some ⟨p, 0, none⟩), .int .i64 i1] w (PPost (listM ts i want) (fun l v w' => w'.ownsRow w.heap.size 207 3 v l.length (tkRow l)) w p g cap ts) := by
 subst e1
 have HP := hid h
 have hpl : p < w.heap.size := World.block_lt_of_cell? w _ h.c0
 have hfew : ts.length <= 4000 := h.few
 obtain ⟨ii, hi, hz0, hz1, hz2⟩ := info_parts Tryz.infoToken
 clear h
 go_enter Tryz.func189, Tryz.ntmps189
 go_wp2_with fail
 refine (take_any _ p g cap ts i want _ HP.o hw (by rfl)).mono ?_
 intro e w1 hT
 cases hM : takeM ts i want with
 | error l =>
  obtain ⟨he, hf⟩ := (PPost.err hM).1 hT
  unfold faultE at he
  subst he
  exact ⟨rfl, (PPost.err (by unfold listM; rw [hM])).2 ⟨rfl, hf⟩⟩
 | ok r =>
  obtain ⟨a, j1⟩ := r
  obtain ⟨⟨v, rfl, rfl⟩, hp1, hf⟩ := (PPost.ok hM).1 hT
  have HP1 := hid hp1
  have HF1 := hid hf
  have hM' : Hid (listM ts i want = restM ts j1 want [a]) := by show _ = _; unfold listM; rw [hM]
  have hj1 := (takeM_ok hM).2.2
  have HJ : Hid (1 <= j1) := by show _ <= _; omega
  clear hM hp1 hf hT hj1
  simp only [tkV]
  go_wp2_with fail
  go_loopg [5] (ts.length - j1) (fun m l wr => ∃ j acc, m = ts.length - j /\ Hid (Pa wr p g cap ts j) /\ Hid (Fr (fun k => k = p) w wr) /\ Hid (wr.ownsRow w.heap.size 207 3 l acc.length (tkRow acc)) /\ Hid (acc.length <= j) /\ Hid (listM ts i want = restM ts j want acc))
  case atStart =>
   refine ⟨j1, [a], rfl, HP1.o.fr (S := fun _ => False) ((Fr.refl _ _).alloc _) (by simp), HF1.o.alloc _, ?_, HJ.o, hM'.o⟩
   exact World.ownsRow_lit (base := w.heap.size) w1 #[.int .i64 a.sort, .string a.text, .int .i64 a.line] 1 HF1.o.size (by unfold maxLen; decide) rfl
  case round =>
   obtain ⟨j, acc, rfl, HPj, HFj, HO, HL, HR⟩ := hrel
   cases hq : isFix (tkAt ts j) mComma with
   | false =>
    go_wp2_with fail
    refine (skip_no wr p g cap ts j _ mComma HPj.o HPj.o.at hq).mono ?_
    rintro e w2 ⟨rfl, hf⟩
    have HF2 := hid hf
    clear hf
    go_wp2
    go_ret
    exact (PPost.ok (HR.o.trans (restM_no hq))).2 ⟨⟨_, rfl, ownsRow_fr HO.o HF2.o (by simp)⟩, HPj.o.fr HF2.o (by simp), HFj.o.trans (HF2.o.mono (by simp))⟩
   | true =>
    go_wp2_with fail
    refine (skip_yes wr p g cap ts j _ mComma HPj.o HPj.o.at hq).mono ?_
    rintro e w2 ⟨rfl, hp2, hf⟩
    have HP2 := hid hp2
    have HF2 := hid (HFj.o.trans hf)
    have HO2 := hid (ownsRow_fr HO.o hf (fun k hk => by omega))
    have hq' := hid hq
    have hlt : j + 1 < ts.length := hp2.lt
    clear hp2 hf hq
    go_wp2_with fail
    refine (take_any _ p g cap ts (j + 1) want _ HP2.o hw (by rfl)).mono ?_
    intro e w3 hT
    cases hM3 : takeM ts (j + 1) want with
    | error l =>
     obtain ⟨he, hf⟩ := (PPost.err hM3).1 hT
     unfold faultE at he
     subst he
     exact ⟨rfl, (PPost.err (HR.o.trans (restM_err hq'.o hM3))).2 ⟨rfl, HF2.o.trans hf⟩⟩
    | ok r =>
     obtain ⟨c, j3⟩ := r
     obtain ⟨⟨v, rfl, rfl⟩, hp3, hf⟩ := (PPost.ok hM3).1 hT
     have HP3 := hid hp3
     have HF3 := hid (HF2.o.trans hf)
     have HO3 := hid (ownsRow_fr HO2.o hf (fun k hk => by omega))
     have hj3 := (takeM_ok hM3).2.2
     have HR3 := hid (HR.o.trans (restM_ok hq'.o hM3))
     have hacc := HL.o
     clear hT hM3 hp3 hf
     simp only [tkV]
     go_wp2_with (at_builtin; refine wpList_append_lies _ rfl (.tmp 12) (.tmp 16) 151 rfl w.heap.size 207 ii _ 3 32 Tryz.underlying151 hi hz0 hz1 hz2 rfl (by decide) _ acc.length (tkRow acc) rfl ?h1 ⟨w3.heap.size, 0, none⟩ 1 1 [.int .i64 c.sort, .string c.text, .int .i64 c.line] rfl rfl ?h2 ?h3 (by decide) ?h4 ?h5 ?h6 _ rfl ?h7)
     case h1 => exact HO3.o.alloc _
     case h2 => exact World.news_of_block (heap_alloc_new w3 _)
     case h3 => simp [Value.oneCell']
     case h4 => unfold maxLen; omega
     case h5 => omega
     case h6 => simp; have := HF3.o.size; omega
     case h7 =>
      intro g2 cap2 w4 hown hgrow _ _
      have HO4 := hid hown
      have hrow : ∀ k, u5.ownBlock = some k -> w.heap.size <= k := fun k hk => (HO3.o.lt k hk).1
      have HF4 := hid ((HF3.o.alloc _).grown hgrow (fun k hk => Or.inr (hrow k hk)))
      have hgl := HP.o.gl
      have HP4 := hid (HP3.o.fr (S := fun k => w.heap.size <= k) (((Fr.refl _ _).alloc _).grown hgrow (fun k hk => Or.inl (hrow k hk))) (fun k hk => by omega))
      clear hgrow hown hrow hgl
      go_wp2
      go_roundg (ts.length - j3)
      case measure => omega
      case rel =>
       refine ⟨j3, acc ++ [c], rfl, HP4.o, HF4.o, ?_, ?_, HR3.o⟩
       ·show World.ownsRow _ _ _ _ _ _ _
        rw [tkRow_snoc, List.length_append]; exact HO4.o
       ·show _ <= _
        simp; omega
end Go.Proofs.YtccikgogjfbpeabGreatDoor

namespace Go.Proofs.YtccikgogjfbpeabGreatDoor
open Go.RowKit
theorem heap_set {w : World} {g : Nat} {cs : Array Value} {t : TypeId} (h : w.heap[g]? = some (.cells cs t)) (j : Nat) (u : Value) : (w.setCell ⟨g, j, none⟩ u).heap[g]? = some (.cells (cs.setIfInBounds j u) t) := by
 simp [World.setCell, Array.getElem?_modify, h]
theorem heap_alloc_two (w : World) (o1 o2 : Obj) : ((w.alloc o1).alloc o2).heap[w.heap.size + 1]? = some o2 := by
 have h : (w.alloc o1).heap.size = w.heap.size + 1 := by simp
 rw [<- h]; exact heap_alloc_new _ _
def put3 (w : World) (g j : Nat) (t : Tk) : World := ((w.setCell ⟨g, j, none⟩ (.int .i64 t.sort)).setCell ⟨g, j + 1, none⟩ (.string t.text)).setCell ⟨g, j + 2, none⟩ (.int .i64 t.line)
theorem put3_fr (w : World) (g j : Nat) (t : Tk) : Fr (fun k => k = g) w (put3 w g j t) :=
  (((Fr.refl (fun k => k = g) w).setCell (p := ⟨g, j, none⟩) (Or.inl rfl) _).setCell (p := ⟨g, j + 1, none⟩) (Or.inl rfl) _).setCell (p := ⟨g, j + 2, none⟩) (Or.inl rfl) _
theorem put3_heap {w : World} {g : Nat} {cs : Array Value} {t : TypeId} (h : w.heap[g]? = some (.cells cs t)) (j : Nat) (x : Tk) :
  (put3 w g j x).heap[g]? = some (.cells (((cs.setIfInBounds j (.int .i64 x.sort)).setIfInBounds (j + 1) (.string x.text)).setIfInBounds (j + 2) (.int .i64 x.line)) t) :=
 heap_set (heap_set (heap_set h j _) (j + 1) _) (j + 2) _
def routeV (r : RouteE) : Value := .agg #[.int .i64 r.name.sort, .string r.name.text, .int .i64 r.name.line, .int .i64 r.base.sort, .string r.base.text, .int .i64 r.base.line, .int .i64 r.rate.sort, .string r.rate.text, .int .i64 r.rate.line]
def zero9 : Array Value := #[.int .i64 0, .string ⟨#[]⟩, .int .i64 0, .int .i64 0, .string ⟨#[]⟩, .int .i64 0, .int .i64 0, .string ⟨#[]⟩, .int .i64 0]
set_option maxHeartbeats 1000000 in
theorem route_any (w : World) (p g cap : Nat) (ts : List Tk) (i : Nat) (h : Pa w p g cap ts i) :
    Calls Tryz.prog 146 #[.pointer (some ⟨p, 0, none⟩)] w (PPost (routeM ts i) (fun r v _ => v = routeV r) w p g cap ts) := by
  have HP : Hid (Pa w p g cap ts i) := h
  have hpl : p < w.heap.size := World.block_lt_of_cell? w _ h.c0
  have hgl : g < w.heap.size := h.gl
  clear h
  go_enter Tryz.func146, Tryz.ntmps146
  go_wp2_with fail
  refine (take_any _ p g cap ts i 0 _ (HP.o.fr (S := fun _ => False) (((Fr.refl _ _).alloc _).alloc _) (by simp)) (by decide) (by rfl)).mono ?_
  intro e w1 hT
  cases hM : takeM ts i 0 with
  | error l =>
    obtain ⟨he, hf⟩ := (PPost.err hM).1 hT
    unfold faultE at he
    subst he
    exact ⟨rfl, (PPost.err (by unfold routeM; rw [bindM_err hM])).2 ⟨rfl, (((Fr.refl _ _).alloc _).alloc _).trans hf⟩⟩
  | ok r =>
    obtain ⟨a, i1⟩ := r
    obtain ⟨⟨v, rfl, rfl⟩, hp1, hf⟩ := (PPost.ok hM).1 hT
    have HP1 : Hid (Pa w1 p g cap ts i1) := hp1
    have HF1 : Hid (Fr (fun k => k = p) w w1) := (((Fr.refl _ _).alloc _).alloc _).trans hf
    have HR1 : Hid (w1.heap[w.heap.size]? = some (.cells zero9 233)) := hf.whole (((Fr.refl (fun _ => False) _).alloc _).whole (heap_alloc_new w _) (by simp)) (by omega)
    have HE1 : Hid (w1.heap[w.heap.size + 1]? = some (.cells zero9 233)) := hf.whole (heap_alloc_two w _ _) (by omega)
    have hA : Hid (takeM ts i 0 = .ok (a, i1)) := hM
    have e0 := block_cell HE1.o 0 _ rfl
    have e1 := block_cell HE1.o 1 _ rfl
    have e2 := block_cell HE1.o 2 _ rfl
    have ef := block_frozen HE1.o
    clear hM hT hp1 hf
    simp only [tkV]
    go_wp2_with fail
    clear e0 e1 e2 ef
    change Calls _ _ _ (put3 w1 (w.heap.size + 1) 0 a) _
    have HQ1 : Hid (Pa (put3 w1 (w.heap.size + 1) 0 a) p g cap ts i1) := HP1.o.fr (put3_fr _ _ _ _) (fun k hk => by omega)
    have HG1 : Hid (Fr (fun k => k = p) w (put3 w1 (w.heap.size + 1) 0 a)) := HF1.o.monoNew (put3_fr _ _ _ _) (fun k hk => by omega)
    have HE2 : Hid ((put3 w1 (w.heap.size + 1) 0 a).heap[w.heap.size + 1]? = some (.cells #[.int .i64 a.sort, .string a.text, .int .i64 a.line, .int .i64 0, .string ⟨#[]⟩, .int .i64 0, .int .i64 0, .string ⟨#[]⟩, .int .i64 0] 233)) := put3_heap HE1.o 0 a
    have HR2 : Hid ((put3 w1 (w.heap.size + 1) 0 a).heap[w.heap.size]? = some (.cells zero9 233)) := (put3_fr _ _ _ _).whole HR1.o (by omega)
    generalize put3 w1 (w.heap.size + 1) 0 a = w1' at *
    refine (take_any _ p g cap ts i1 1 _ HQ1.o (by decide) (by rfl)).mono ?_
    intro e w2 hT
    cases hM : takeM ts i1 1 with
    | error l =>
      obtain ⟨he, hf⟩ := (PPost.err hM).1 hT
      unfold faultE at he
      subst he
      exact ⟨rfl, (PPost.err (by unfold routeM; rw [bindM_ok hA.o, bindM_err hM])).2 ⟨rfl, HG1.o.trans hf⟩⟩
    | ok r =>
      obtain ⟨b, i2⟩ := r
      obtain ⟨⟨v, rfl, rfl⟩, hp2, hf⟩ := (PPost.ok hM).1 hT
      have HP2 : Hid (Pa w2 p g cap ts i2) := hp2
      have HF2 : Hid (Fr (fun k => k = p) w w2) := HG1.o.trans hf
      have HR3 : Hid (w2.heap[w.heap.size]? = _) := hf.whole HR2.o (by omega)
      have HE3 : Hid (w2.heap[w.heap.size + 1]? = _) := hf.whole HE2.o (by omega)
      have hB : Hid (takeM ts i1 1 = .ok (b, i2)) := hM
      have e3 := block_cell HE3.o 3 _ rfl
      have e4 := block_cell HE3.o 4 _ rfl
      have e5 := block_cell HE3.o 5 _ rfl
      have ef := block_frozen HE3.o
      clear hM hT hp2 hf HR1 HE1 HE2 HR2 HP1 HF1
      simp only [tkV]
      go_wp2_with fail
      clear e3 e4 e5 ef
      change Calls _ _ _ (put3 w2 (w.heap.size + 1) 3 b) _
      have HQ2 : Hid (Pa (put3 w2 (w.heap.size + 1) 3 b) p g cap ts i2) := HP2.o.fr (put3_fr _ _ _ _) (fun k hk => by omega)
      have HG2 : Hid (Fr (fun k => k = p) w (put3 w2 (w.heap.size + 1) 3 b)) := HF2.o.monoNew (put3_fr _ _ _ _) (fun k hk => by omega)
      have HE4 : Hid ((put3 w2 (w.heap.size + 1) 3 b).heap[w.heap.size + 1]? = some (.cells #[.int .i64 a.sort, .string a.text, .int .i64 a.line, .int .i64 b.sort, .string b.text, .int .i64 b.line, .int .i64 0, .string ⟨#[]⟩, .int .i64 0] 233)) := put3_heap HE3.o 3 b
      have HR4 : Hid ((put3 w2 (w.heap.size + 1) 3 b).heap[w.heap.size]? = some (.cells zero9 233)) := (put3_fr _ _ _ _).whole HR3.o (by omega)
      generalize put3 w2 (w.heap.size + 1) 3 b = w2' at *
      refine (take_any _ p g cap ts i2 1 _ HQ2.o (by decide) (by rfl)).mono ?_
      intro e w3 hT
      cases hM : takeM ts i2 1 with
      | error l =>
        obtain ⟨he, hf⟩ := (PPost.err hM).1 hT
        unfold faultE at he
        subst he
        exact ⟨rfl, (PPost.err (by unfold routeM; rw [bindM_ok hA.o, bindM_ok hB.o, bindM_err hM])).2 ⟨rfl, HG2.o.trans hf⟩⟩
      | ok r =>
        obtain ⟨c, i3⟩ := r
        obtain ⟨⟨v, rfl, rfl⟩, hp3, hf⟩ := (PPost.ok hM).1 hT
        have HP3 : Hid (Pa w3 p g cap ts i3) := hp3
        have HF3 : Hid (Fr (fun k => k = p) w w3) := HG2.o.trans hf
        have HR5 := hf.whole HR4.o (by omega)
        have HE5 := hf.whole HE4.o (by omega)
        have hC : Hid (takeM ts i2 1 = .ok (c, i3)) := hM
        have e0 := block_cell HE5 0 _ rfl
        have r0 := block_cell HR5 0 _ rfl
        have e1 := block_cell HE5 1 _ rfl
        have r1 := block_cell HR5 1 _ rfl
        have e2 := block_cell HE5 2 _ rfl
        have r2 := block_cell HR5 2 _ rfl
        have e3 := block_cell HE5 3 _ rfl
        have r3 := block_cell HR5 3 _ rfl
        have e4 := block_cell HE5 4 _ rfl
        have r4 := block_cell HR5 4 _ rfl
        have e5 := block_cell HE5 5 _ rfl
        have r5 := block_cell HR5 5 _ rfl
        have e6 := block_cell HE5 6 _ rfl
        have r6 := block_cell HR5 6 _ rfl
        have e7 := block_cell HE5 7 _ rfl
        have r7 := block_cell HR5 7 _ rfl
        have e8 := block_cell HE5 8 _ rfl
        have r8 := block_cell HR5 8 _ rfl
        have ef := block_frozen HE5
        have rf := block_frozen HR5
        clear hM hT hp3 hf HR3 HE3 HE4 HR4 HP2 HF2 HE5 HR5
        simp only [tkV]
        have hne : ¬ w.heap.size + 1 = w.heap.size := by omega
        go_wp2
        have hW : Fr (fun k => w.heap.size <= k) w3 (put3 (put3 (put3 (put3 w3 (w.heap.size + 1) 6 c) w.heap.size 0 a) w.heap.size 3 b) w.heap.size 6 c) :=
          ((((put3_fr w3 (w.heap.size + 1) 6 c).mono (fun k hk => by omega)).trans ((put3_fr _ w.heap.size 0 a).mono (fun k hk => by omega))).trans ((put3_fr _ w.heap.size 3 b).mono (fun k hk => by omega))).trans ((put3_fr _ w.heap.size 6 c).mono (fun k hk => by omega))
        exact bodyPost_ret (v := routeV ⟨a, b, c⟩) (by simp [results, Tryz.results146, go_sem, routeV, *]) rfl ((PPost.ok (by unfold routeM; rw [bindM_ok hA.o, bindM_ok hB.o, bindM_ok hC.o])).2 ⟨⟨_, rfl, rfl⟩, HP3.o.fr hW (fun k hk => by omega), HF3.o.monoNew hW (fun k hk => by omega)⟩)
end Go.Proofs.YtccikgogjfbpeabGreatDoor

namespace Go.Proofs.YtccikgogjfbpeabGreatDoor
open Go.RowKit
theorem skip_any (w : World) (p g cap : Nat) (ts : List Tk) (i : Nat) (m : ByteArray) (h : Pa w p g cap ts i) :
  Calls Tryz.prog 145 #[.pointer (some ⟨p, 0, none⟩), .string m] w fun e w' => e = .returned (.bool (isFix (tkAt ts i) m)) /\ Pa w' p g cap ts (if isFix (tkAt ts i) m then i + 1 else i) /\ Fr (fun k => k = p) w w' := by
 cases hq : isFix (tkAt ts i) m with
 | true => exact (skip_yes w p g cap ts i _ m h h.at hq).mono fun e w' hh => hh
 | false => exact (skip_no w p g cap ts i _ m h h.at hq).mono fun e w' hh => ⟨hh.1, h.fr hh.2 (by simp), hh.2.mono (by simp)⟩
theorem ownsRow_slice {w : World} {base : Nat} {e : TypeId} {size : Nat} {v : Value} {n : Nat} {xs : List Value} (h : w.ownsRow base e size v n xs) : ∃ a n c, v = .slice a n c := by
 rcases h.2 with ⟨rfl, _⟩ | ⟨g, cap, cur, rfl, _⟩
 ·exact ⟨_, _, _, rfl⟩
 ·exact ⟨_, _, _, rfl⟩
theorem set_same {cs : Array Value} {j : Nat} {u : Value} (h : cs[j]? = some u) : cs.setIfInBounds j u = cs := by
 apply Array.ext
 ·simp
 ·intro k h1 h2
  by_cases e : j = k
  ·subst e
   obtain ⟨hlt, hu⟩ := Array.getElem?_eq_some_iff.1 h
   simp [hu]
  ·rw [Array.getElem_setIfInBounds_ne _ e]
def APost (r : Except Nat (ActE × Nat)) (w : World) (p g cap : Nat) (ts : List Tk) (E : Nat) (cs : Array Value) (e : Ending) (w' : World) : Prop :=
 match r with
 | .ok (a, i) => e = .returned (.tuple #[]) /\ (∃ v, w'.heap[E]? = some (.cells (((cs.setIfInBounds 21 (.bool a.decline)).setIfInBounds 22 (.bool a.cheapest)).setIfInBounds 23 v) 238) /\ w'.ownsRow w.heap.size 207 3 v a.routes.length (tkRow a.routes)) /\ Pa w' p g cap ts i /\ Fr (fun k => k = p \/ k = E) w w'
 | .error l => e = faultE 3 l /\ Fr (fun k => k = p \/ k = E) w w'
theorem APost.ok {r : Except Nat (ActE × Nat)} {w : World} {p g cap : Nat} {ts : List Tk} {E : Nat} {cs : Array Value} {e : Ending} {w' : World} {a : ActE} {i : Nat} (hr : r = .ok (a, i)) :
  APost r w p g cap ts E cs e w' ↔ e = .returned (.tuple #[]) /\ (∃ v, w'.heap[E]? = some (.cells (((cs.setIfInBounds 21 (.bool a.decline)).setIfInBounds 22 (.bool a.cheapest)).setIfInBounds 23 v) 238) /\ w'.ownsRow w.heap.size 207 3 v a.routes.length (tkRow a.routes)) /\ Pa w' p g cap ts i /\ Fr (fun k => k = p \/ k = E) w w' := by subst hr; exact Iff.rfl
theorem APost.err {r : Except Nat (ActE × Nat)} {w : World} {p g cap : Nat} {ts : List Tk} {E : Nat} {cs : Array Value} {e : Ending} {w' : World} {l : Nat} (hr : r = .error l) :
  APost r w p g cap ts E cs e w' ↔ e = faultE 3 l /\ Fr (fun k => k = p \/ k = E) w w' := by subst hr; exact Iff.rfl
set_option maxHeartbeats 1000000 in
theorem action_any (w : World) (p g cap : Nat) (ts : List Tk) (i E : Nat) (cs : Array Value) (h : Pa w p g cap ts i) (hE : w.heap[E]? = some (.cells cs 238)) (hEp : E ≠ p) (hEg : E ≠ g)
  (h21 : cs[21]? = some (.bool false)) (h22 : cs[22]? = some (.bool false)) (h23 : cs[23]? = some (.slice none 0 0)) :
  Calls Tryz.prog 190 #[.pointer (some ⟨p, 0, none⟩), .pointer (some ⟨E, 0, none⟩)] w (APost (actionM ts i) w p g cap ts E cs) := by
 have HP := hid h
 have hpl : p < w.heap.size := World.block_lt_of_cell? w _ h.c0
 have hgl : g < w.heap.size := h.gl
 have HE := hid hE
 have H21 := hid h21
 have H22 := hid h22
 have H23 := hid h23
 have hEl : E < w.heap.size := (Array.getElem?_eq_some_iff.1 hE).1
 clear h hE h21 h22 h23
 cases hd : isFix (tkAt ts i) kwDecline with
 | true =>
  go_enter Tryz.func190, Tryz.ntmps190
  go_wp2_with fail
  refine (skip_yes w p g cap ts i _ kwDecline HP.o HP.o.at hd).mono ?_
  rintro e w1 ⟨rfl, hp1, hf⟩
  have HP1 := hid hp1
  have HF1 := hid hf
  have HE1 := hid (hf.whole HE.o hEp)
  have e21 := block_cell HE1.o 21 _ H21.o
  have ef := block_frozen HE1.o
  clear hp1 hf
  go_wp2
  refine bodyPost_ret (results_none rfl _ _ _) rfl ?_
  have hW : Fr (fun k => k = E) w1 (w1.setCell ⟨E, 21, none⟩ (.bool true)) := (Fr.refl (fun k => k = E) w1).setCell (p := ⟨E, 21, none⟩) (Or.inl rfl) _
  refine (APost.ok (by unfold actionM; rw [if_pos hd])).2 ⟨rfl, ⟨.slice none 0 0, ?_, World.ownsRow_nil _ _ _ _⟩, HP1.o.fr hW (fun k hk => by omega), (HF1.o.mono (fun k hk => Or.inl hk)).trans (hW.mono (fun k hk => Or.inr hk))⟩
  have e1 : ((cs.setIfInBounds 21 (.bool true)).setIfInBounds 22 (.bool false)) = cs.setIfInBounds 21 (.bool true) := set_same (by rw [Array.getElem?_setIfInBounds_ne (by decide)]; exact H22.o)
  have e2 : ((cs.setIfInBounds 21 (.bool true)).setIfInBounds 23 (.slice none 0 0)) = cs.setIfInBounds 21 (.bool true) := set_same (by rw [Array.getElem?_setIfInBounds_ne (by decide)]; exact H23.o)
  show _ = some (Obj.cells (((cs.setIfInBounds 21 (.bool true)).setIfInBounds 22 (.bool false)).setIfInBounds 23 (.slice none 0 0)) _)
  rw [e1, e2]
  exact heap_set HE1.o 21 _
 | false =>
  have hM : Hid (actionM ts i = bindM (listM ts (if isFix (tkAt ts i) kwCheapest then i + 1 else i) 0) fun l k => .ok (⟨false, isFix (tkAt ts i) kwCheapest, l⟩, k)) := by
   show _ = _
   unfold actionM
   rw [if_neg (by simp [hd])]
   cases isFix (tkAt ts i) kwCheapest <;> rfl
  go_enter Tryz.func190, Tryz.ntmps190
  go_wp2_with fail
  refine (skip_no w p g cap ts i _ kwDecline HP.o HP.o.at hd).mono ?_
  rintro e w1 ⟨rfl, hf⟩
  have HP1 := hid (HP.o.fr hf (by simp))
  have HF1 := hid hf
  have HE1 := hid (hf.whole HE.o (by simp))
  clear hf
  go_wp2_with fail
  refine (skip_any w1 p g cap ts i kwCheapest HP1.o).mono ?_
  rintro e w2 ⟨rfl, hp2, hf⟩
  generalize isFix (tkAt ts i) kwCheapest = ch at *
  generalize (if ch = true then i + 1 else i) = i2 at *
  have HP2 := hid hp2
  have HF2 := hid ((HF1.o.mono (by simp)).trans hf)
  have HE2 := hid (hf.whole HE1.o hEp)
  have e22 := block_cell HE2.o 22 _ H22.o
  have ef := block_frozen HE2.o
  clear hp2 hf HP1 HF1 HE1
  go_wp2_with fail
  clear e22 ef
  have hW : Fr (fun k => k = E) w2 (w2.setCell ⟨E, 22, none⟩ (.bool ch)) := (Fr.refl (fun k => k = E) w2).setCell (p := ⟨E, 22, none⟩) (Or.inl rfl) _
  have HP3 := hid (HP2.o.fr hW (fun k hk => by omega))
  have HF3 := hid ((HF2.o.mono (fun k hk => Or.inl hk)).trans (hW.mono (fun k hk => Or.inr hk)))
  have HE3 : Hid ((w2.setCell ⟨E, 22, none⟩ (.bool ch)).heap[E]? = some (.cells (cs.setIfInBounds 22 (.bool ch)) 238)) := heap_set HE2.o 22 _
  clear hW HP2 HF2 HE2
  generalize w2.setCell ⟨E, 22, none⟩ (.bool ch) = w3 at *
  refine (list_any w3 p g cap ts i2 0 _ HP3.o (by decide) (by rfl)).mono ?_
  intro e w4 hT
  cases hL : listM ts i2 0 with
  | error l =>
   obtain ⟨he, hf⟩ := (PPost.err hL).1 hT
   unfold faultE at he
   subst he
   exact ⟨rfl, (APost.err (hM.o.trans (bindM_err hL))).2 ⟨rfl, HF3.o.trans (hf.mono (fun k hk => Or.inl hk))⟩⟩
  | ok r =>
   obtain ⟨l, i4⟩ := r
   obtain ⟨⟨v, rfl, hown⟩, hp4, hf⟩ := (PPost.ok hL).1 hT
   obtain ⟨va, vn, vc, rfl⟩ := ownsRow_slice hown
   have HP4 := hid hp4
   have HF4 := hid (HF3.o.trans (hf.mono (fun k hk => Or.inl hk)))
   have HE4 := hid (hf.whole HE3.o hEp)
   have HO := hid hown
   have hL' := hid hL
   have e23 := block_cell HE4.o 23 (.slice none 0 0) (by rw [Array.getElem?_setIfInBounds_ne (by decide)]; exact H23.o)
   have ef := block_frozen HE4.o
   have hsz := HF3.o.size
   clear hp4 hf hown hL hT
   go_wp2
   go_end0
   have hW : Fr (fun k => k = E) w4 (w4.setCell ⟨E, 23, none⟩ (.slice va vn vc)) := (Fr.refl (fun k => k = E) w4).setCell (p := ⟨E, 23, none⟩) (Or.inl rfl) _
   refine (APost.ok (hM.o.trans (bindM_ok hL'.o))).2 ⟨rfl, ⟨.slice va vn vc, ?_, ?_⟩, HP4.o.fr hW (fun k hk => by omega), HF4.o.trans (hW.mono (fun k hk => Or.inr hk))⟩
   ·have e1 : (cs.setIfInBounds 21 (.bool false)) = cs := set_same H21.o
    show _ = some (Obj.cells (((cs.setIfInBounds 21 (.bool false)).setIfInBounds 22 (.bool ch)).setIfInBounds 23 (.slice va vn vc)) _)
    rw [e1]
    exact heap_set HE4.o 23 _
   ·exact ownsRow_base (ownsRow_fr HO.o hW (fun k hk => by omega)) (by omega)
end Go.Proofs.YtccikgogjfbpeabGreatDoor
