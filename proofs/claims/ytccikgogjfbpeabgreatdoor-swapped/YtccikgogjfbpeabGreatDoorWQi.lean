/- The book in memory; strings.Clone; a route is added. A route is added to the book. The book: has it a rule of this name? -/
import Derived.Test.YtccikgogjfbpeabGreatDoorWHa
import Derived.Test.YtccikgogjfbpeabGreatDoorWQh
import Derived.Shelf.LaysM
import Derived.Shelf.Strconv.Clone
namespace Go.Proofs
open Go.Shelf
def Tryz.lays316_ren : Go.Shelf.Ren := ⟨fun | 316 => 67 | n => n, fun | 9 => 9 | 3 => 3 | 4 => 4 | 37 => 104 | 0 => 0 | 127 => 188 | 5 => 5 | n => n, fun | n => n⟩
theorem Tryz.lays316 : LaysM.n316 Tryz.prog Tryz.lays316_ren := {
 mixed := by kernel_rfl
 f316 := Tryz.func67.trans (congrArg some (by kernel_rfl))
 t0 := Tryz.underlying0
 a0 := Tryz.isAgg0
 z0 := Tryz.sizeOf0
 v0 := Tryz.zeroValue0
 t3 := Tryz.underlying3
 a3 := Tryz.isAgg3
 z3 := Tryz.sizeOf3
 v3 := Tryz.zeroValue3
 t4 := Tryz.underlying4
 a4 := Tryz.isAgg4
 z4 := Tryz.sizeOf4
 v4 := Tryz.zeroValue4
 t9 := Tryz.underlying9
 a9 := Tryz.isAgg9
 z9 := Tryz.sizeOf9
 v9 := Tryz.zeroValue9
 t37 := Tryz.underlying104
 a37 := Tryz.isAgg104
 z37 := Tryz.sizeOf104
 v37 := Tryz.zeroValue104
 t127 := Tryz.underlying188
 a127 := Tryz.isAgg188
 z127 := Tryz.sizeOf188
 v127 := Tryz.zeroValue188
 t5 := Tryz.underlying5
 a5 := Tryz.isAgg5
 z5 := Tryz.sizeOf5
 v5 := Tryz.zeroValue5
 i0 := by kernel_rfl
 i3 := by kernel_rfl
 i4 := by kernel_rfl
 i5 := by kernel_rfl
 i9 := by kernel_rfl
 i37 := by kernel_rfl
 i127 := by kernel_rfl }
namespace YtccikgogjfbpeabGreatDoor
open Go.RowKit
theorem sClone_any (s : ByteArray) (w : World) (hs : s.size <= 3000) : Calls Tryz.prog 67 #[.string s] w fun e w' => e = .returned (.string s) /\ F0 w w' :=
 (Any.stringslite_Clone Tryz.lays316 s w (by omega)).mono fun _ _ h => ⟨h.1, Fr.of_below h.2⟩
set_option maxHeartbeats 400000 in
theorem Clone_any (s : ByteArray) (w : World) (hs : s.size <= 3000) : Calls Tryz.prog 40 #[.string s] w fun e w' => e = .returned (.string s) /\ F0 w w' := by
 have HC := hid (sClone_any s w hs)
 clear hs
 go_enter Tryz.func40, Tryz.ntmps40
 go_wp2_with fail
 refine HC.o.mono ?_
 rintro e w1 ⟨rfl, hf⟩
 have HF := hid hf
 clear hf
 go_wp2
 go_ret
 exact ⟨rfl, HF.o⟩
structure RuleM where
 name : ByteArray
 rank : Nat
 digits : Nat
 lo : Nat
 hi : Nat
 mcc : List Nat
 am : Option (Nat × Nat)
 cur : List Nat
 decline : Bool
 cheapest : Bool
 routes : List Nat
 ahead : Nat
def RuV (base : Nat) (w : World) (r : RuleM) (cs : List Value) : Prop :=
 ∃ vm vc vp, cs = [.string r.name, .int .i64 r.rank, .int .i64 r.digits, .int .i64 r.lo, .int .i64 r.hi, vm, .bool r.am.isSome, .int .i64 (r.am.getD (0, 0)).1, .int .i64 (r.am.getD (0, 0)).2, vc, .bool r.decline, .bool r.cheapest, vp, .int .i64 r.ahead] /\
  w.ownsRow base 3 1 vm r.mcc.length (intRow r.mcc) /\ w.ownsRow base 3 1 vc r.cur.length (intRow r.cur) /\ w.ownsRow base 3 1 vp r.routes.length (intRow r.routes)
def RuVs (base : Nat) (w : World) : List RuleM -> List Value -> Prop
 | [], xs => xs = []
 | r :: rs, xs => ∃ c rest, xs = c ++ rest /\ RuV base w r c /\ RuVs base w rs rest
theorem RuV.keep {base : Nat} {w w' : World} {r : RuleM} {cs : List Value} (h : RuV base w r cs) (hk : ∀ v n xs, w.ownsRow base 3 1 v n xs -> w'.ownsRow base 3 1 v n xs) : RuV base w' r cs := by
 obtain ⟨vm, vc, vp, e, h1, h2, h3⟩ := h
 exact ⟨vm, vc, vp, e, hk _ _ _ h1, hk _ _ _ h2, hk _ _ _ h3⟩
theorem RuVs.keep {base : Nat} {w w' : World} (hk : ∀ v n xs, w.ownsRow base 3 1 v n xs -> w'.ownsRow base 3 1 v n xs) : ∀ {rs : List RuleM} {xs : List Value}, RuVs base w rs xs -> RuVs base w' rs xs
 | [], _, h => h
 | _ :: _, _, ⟨c, rest, e, h1, h2⟩ => ⟨c, rest, e, h1.keep hk, RuVs.keep hk h2⟩
theorem RuVs.snoc {base : Nat} {w : World} {r : RuleM} {c : List Value} (hr : RuV base w r c) : ∀ {rs : List RuleM} {xs : List Value}, RuVs base w rs xs -> RuVs base w (rs ++ [r]) (xs ++ c)
 | [], _, h => by
  have h' : _ = [] := h
  subst h'
  exact ⟨c, [], by simp, hr, rfl⟩
 | _ :: _, _, ⟨d, rest, e, h1, h2⟩ => ⟨d, rest ++ c, by rw [e, List.append_assoc], h1, RuVs.snoc hr h2⟩
structure Bk (w : World) (B : Nat) (vr vl : Value) (rts : List RouteM) (rls : List RuleM) (xs : List Value) : Prop where
 c0 : w.cell? ⟨B, 0, none⟩ = some vr
 c1 : w.cell? ⟨B, 1, none⟩ = some vl
 fz : ∀ o, w.frozen? ⟨B, o, none⟩ = false
 ro : w.ownsRow (B + 1) 144 3 vr rts.length (rtRow rts)
 lo : w.ownsRow (B + 1) 108 14 vl rls.length xs
 ru : RuVs (B + 1) w rls xs
 r6 : rts.length <= 6
 l8 : rls.length <= 8
theorem Bk.fr {w w' : World} {B : Nat} {vr vl : Value} {rts : List RouteM} {rls : List RuleM} {xs : List Value} {S : Nat -> Prop} (h : Bk w B vr vl rts rls xs) (hf : Fr S w w') (hS : ∀ k, S k -> k < B) : Bk w' B vr vl rts rls xs := by
 have hl : B < w.heap.size := World.block_lt_of_cell? w _ h.c0
 have hn : ¬ S B := fun e => by have := hS B e; omega
 exact ⟨(hf.cell (p := ⟨B, 0, none⟩) hl hn).trans h.c0, (hf.cell (p := ⟨B, 1, none⟩) hl hn).trans h.c1, fun o => (hf.frozen (p := ⟨B, o, none⟩) hl hn).trans (h.fz o),
  ownsRow_fr h.ro hf (fun k hk => by have := hS k hk; omega), ownsRow_fr h.lo hf (fun k hk => by have := hS k hk; omega), RuVs.keep (fun v n ys hv => ownsRow_fr hv hf (fun k hk => by have := hS k hk; omega)) h.ru, h.r6, h.l8⟩
def addRouteM (rts : List RouteM) (r : RouteE) : Except (Nat × Nat) RouteM :=
 if rts.length = 6 then .error (6, r.name.line)
 else if 0 <= placeFrom r.name.text 0 rts then .error (4, r.name.line)
 else if 1000000 < valOf r.base then .error (5, r.base.line)
 else if 1000 < valOf r.rate then .error (5, r.rate.line)
 else .ok ⟨r.name.text, valOf r.base, valOf r.rate⟩
def ARPost (x : Except (Nat × Nat) RouteM) (w : World) (B : Nat) (vl : Value) (rts : List RouteM) (rls : List RuleM) (xs : List Value) (e : Ending) (w' : World) : Prop :=
 match x with
 | .ok r => e = .returned (.tuple #[]) /\ (∃ vr, Bk w' B vr vl (rts ++ [r]) rls xs) /\ Below B w w'
 | .error f => e = faultE f.1 f.2 /\ Below B w w'
theorem ARPost.ok {x : Except (Nat × Nat) RouteM} {w w' : World} {B : Nat} {vl : Value} {rts : List RouteM} {rls : List RuleM} {xs : List Value} {e : Ending} {r : RouteM} (h : x = .ok r) : ARPost x w B vl rts rls xs e w' ↔ e = .returned (.tuple #[]) /\ (∃ vr, Bk w' B vr vl (rts ++ [r]) rls xs) /\ Below B w w' := by subst h; exact Iff.rfl
theorem ARPost.err {x : Except (Nat × Nat) RouteM} {w w' : World} {B : Nat} {vl : Value} {rts : List RouteM} {rls : List RuleM} {xs : List Value} {e : Ending} {f : Nat × Nat} (h : x = .error f) : ARPost x w B vl rts rls xs e w' ↔ e = faultE f.1 f.2 /\ Below B w w' := by subst h; exact Iff.rfl
theorem ownsRow_len {w : World} {base : Nat} {e : TypeId} {size : Nat} {v : Value} {n : Nat} {xs : List Value} (h : w.ownsRow base e size v n xs) : ∃ a c, v = .slice a n c := by
 rcases h.2 with ⟨rfl, h0⟩ | ⟨g, cap, cur, rfl, _⟩
 ·exact ⟨none, 0, by rw [h0]⟩
 ·exact ⟨_, _, rfl⟩
theorem Tryz.infoRoute : (Tryz.prog.info? 144).map (fun i => (i.zero, i.size, i.bytes)) = some (some (.agg #[.string ByteArray.empty, .int .i64 0, .int .i64 0]), 3, 32) := by kernel_rfl
end YtccikgogjfbpeabGreatDoor
end Go.Proofs

namespace Go.Proofs.YtccikgogjfbpeabGreatDoor
open Go.RowKit
theorem bk_append {w W2 w1 : World} {B : Nat} {vr vl V : Value} {rts : List RouteM} {rls : List RuleM} {xs : List Value} {rt : RouteM} (h : Bk w B vr vl rts rls xs) (h2 : Below w.heap.size w W2) (hg : W2.grownBy w1 vr.ownBlock) (ho : w1.ownsRow (B + 1) 144 3 V (rts.length + 1) (rtRow rts ++ rtCells rt)) :
  w1.cell? ⟨B, 0, none⟩ = some vr /\ (∀ o, w1.frozen? ⟨B, o, none⟩ = false) /\ (rts.length <= 5 -> Bk (w1.setCell ⟨B, 0, none⟩ V) B V vl (rts ++ [rt]) rls xs /\ Below B w (w1.setCell ⟨B, 0, none⟩ V)) := by
 have hl : B < w.heap.size := World.block_lt_of_cell? w _ h.c0
 have hne : ∀ j, j <= B -> some j ≠ vr.ownBlock := fun j hj e => by have := h.ro.lt j e.symm; omega
 have hc : ∀ o, w1.cell? ⟨B, o, none⟩ = w.cell? ⟨B, o, none⟩ := fun o => (hg.cell_far ⟨B, o, none⟩ (Nat.lt_of_lt_of_le hl h2.size) (hne B (Nat.le_refl _))).trans (h2.cell (p := ⟨B, o, none⟩) hl)
 have hf : ∀ o, w1.frozen? ⟨B, o, none⟩ = w.frozen? ⟨B, o, none⟩ := fun o => (hg.frozen_far ⟨B, o, none⟩ (Nat.lt_of_lt_of_le hl h2.size) (hne B (Nat.le_refl _))).trans (h2.frozen (p := ⟨B, o, none⟩) hl)
 have hro : W2.ownsRow (B + 1) 144 3 vr rts.length (rtRow rts) := ownsRow_fr h.ro (Fr.of_below (S := fun _ => False) h2) (by simp)
 have hB : Below B w w1 := (h2.mono (by omega)).trans ⟨hg.os, hg.tape, hg.output, hg.size, fun k hk => hg.block k (Nat.lt_of_lt_of_le (by omega) h2.size) (hne k (by omega))⟩
 refine ⟨(hc 0).trans h.c0, fun o => (hf o).trans (h.fz o), fun h5 => ⟨⟨?_, ?_, fun o => by simp [hf o, h.fz o], ?_, ?_, ?_, by simp; omega, h.l8⟩, hB.setCell (by simp) _⟩⟩
 ·exact World.cell?_setCell_same _ _ _ ((hc 0).trans h.c0)
 ·rw [World.cell?_setCell_other _ _ _ _ (by simp)]; exact (hc 1).trans h.c1
 ·rw [rtRow_snoc, List.length_append]; exact ownsRow_setCell_below ho (by simp) _
 ·have h3 : W2.ownsRow (B + 1) 108 14 vl rls.length xs := ownsRow_fr h.lo (Fr.of_below (S := fun _ => False) h2) (by simp)
  exact ownsRow_setCell_below (h3.kept hg (own_ne h3 hro (by decide))) (by simp) _
 ·refine RuVs.keep (fun v n ys hv => ?_) h.ru
  have h3 : W2.ownsRow (B + 1) 3 1 v n ys := ownsRow_fr hv (Fr.of_below (S := fun _ => False) h2) (by simp)
  exact ownsRow_setCell_below (h3.kept hg (own_ne h3 hro (by decide))) (by simp) _
set_option maxRecDepth 30000 in
set_option maxHeartbeats 1000000 in
theorem addRoute_any (w : World) (B : Nat) (vr vl : Value) (rts : List RouteM) (rls : List RuleM) (xs : List Value) (r : RouteE) (h : Bk w B vr vl rts rls xs) (hn : r.name.text.size <= 3000) (hb : Dg r.base.text) (hr : Dg r.rate.text) :
  Calls Tryz.prog 263 #[routeV r, .pointer (some ⟨B, 0, none⟩)] w (ARPost (addRouteM rts r) w B vl rts rls xs) := by
 have HK := hid h
 have hBl : B < w.heap.size := World.block_lt_of_cell? w _ h.c0
 obtain ⟨va, vc, rfl⟩ := ownsRow_len h.ro
 obtain ⟨ii, hi, hz0, hz1, hz2⟩ := info_parts Tryz.infoRoute
 have HNS := hid hn
 have HDB := hid hb
 have HDR := hid hr
 have c0 := h.c0
 have HAL : Hid (F0 w (w.alloc (.cells #[.int .i64 r.name.sort, .string r.name.text, .int .i64 r.name.line, .int .i64 r.base.sort, .string r.base.text, .int .i64 r.base.line, .int .i64 r.rate.sort, .string r.rate.text, .int .i64 r.rate.line] 233))) := (Fr.refl _ _).alloc _
 clear h hn hb hr
 unfold routeV
 by_cases h6 : rts.length = 6
 ·have hq : ((rts.length : Int) == 6) = true := by simp; omega
  have H6 : Hid (addRouteM rts r = .error (6, r.name.line)) := by show _ = _; unfold addRouteM; rw [if_pos h6]
  clear h6
  go_enter Tryz.func263, Tryz.ntmps263
  go_wp2_with fail
  refine (giveUp_any r.name 6 _ _ (by rfl)).mono ?_
  rintro e w9 ⟨he, hf⟩
  unfold faultE at he
  subst he
  exact ⟨rfl, (ARPost.err H6.o).2 ⟨rfl, (HAL.o.trans hf).below (by omega) (by simp)⟩⟩
 ·have hq : ((rts.length : Int) == 6) = false := by simp; omega
  have H6 := hid h6
  clear h6
  go_enter Tryz.func263, Tryz.ntmps263
  go_wp2_with fail
  refine (broute_any _ B (B + 1) _ rts r.name.text (HK.o.fr HAL.o (by simp)).c0 (HK.o.fr HAL.o (by simp)).ro HK.o.r6).mono ?_
  rintro e w1 ⟨rfl, hf⟩
  have HE1 := hf.whole (heap_alloc_new w _) (by simp)
  have HF1 := hid (HAL.o.trans hf)
  have e0 := block_cell HE1 0 _ rfl
  have e1 := block_cell HE1 1 _ rfl
  have e2 := block_cell HE1 2 _ rfl
  have e3 := block_cell HE1 3 _ rfl
  have e4 := block_cell HE1 4 _ rfl
  have e5 := block_cell HE1 5 _ rfl
  have e6 := block_cell HE1 6 _ rfl
  have e7 := block_cell HE1 7 _ rfl
  have e8 := block_cell HE1 8 _ rfl
  have HE1' := hid HE1
  clear HE1 hf c0
  by_cases hp : 0 <= placeFrom r.name.text 0 rts
  ·have HQ : Hid (addRouteM rts r = .error (4, r.name.line)) := by show _ = _; unfold addRouteM; rw [if_neg H6.o, if_pos hp]
   generalize placeFrom r.name.text 0 rts = q at *
   go_wp2_with fail
   refine (giveUp_any r.name 4 _ _ (by rfl)).mono ?_
   rintro e w9 ⟨he, hf⟩
   unfold faultE at he
   subst he
   exact ⟨rfl, (ARPost.err HQ.o).2 ⟨rfl, (HF1.o.trans hf).below (by omega) (by simp)⟩⟩
  ·have HP := hid hp
   have hp' : placeFrom r.name.text 0 rts < 0 := by omega
   generalize hg : placeFrom r.name.text 0 rts = q at hp hp'
   clear hg
   have hEl : w.heap.size < w1.heap.size := (Array.getElem?_eq_some_iff.1 HE1'.o).1
   go_wp2_with fail
   refine (Clone_any r.name.text _ HNS.o).mono ?_
   rintro e w2 ⟨rfl, hf⟩
   have HE2 := hf.whole (((Fr.refl (fun _ => False) _).alloc _).whole HE1'.o (by simp)) (by simp)
   have HR2 := hf.whole (heap_alloc_new w1 _) (by simp)
   have HF2 := hid ((HF1.o.alloc _).trans hf)
   clear hf e0 e1 e2 e3 e4 e5 e6 e7 e8 hp hp'
   have HE2' := hid HE2
   have HR2' := hid HR2
   have e3 := block_cell HE2 3 _ rfl
   have e4 := block_cell HE2 4 _ rfl
   have e5 := block_cell HE2 5 _ rfl
   have n0 := block_cell HR2 0 _ rfl
   have nf := block_frozen HR2
   have hne : ¬ w.heap.size = w1.heap.size := by omega
   have hne2 : ¬ w1.heap.size = w.heap.size := by omega
   clear HE2 HR2
   go_wp2_with fail
   clear e3 e4 e5 n0 nf
   have hW2 : Fr (fun k => k = w1.heap.size) w2 (w2.setCell ⟨w1.heap.size, 0, none⟩ (.string r.name.text)) := (Fr.refl (fun k => k = w1.heap.size) _).setCell (p := ⟨w1.heap.size, 0, none⟩) (Or.inl rfl) _
   have HE3 := hid (hW2.whole HE2'.o (by omega))
   have HR3 : Hid ((w2.setCell ⟨w1.heap.size, 0, none⟩ (.string r.name.text)).heap[w1.heap.size]? = some (.cells #[.string r.name.text, .int .i64 0, .int .i64 0] 144)) := heap_set HR2'.o 0 _
   have HF3 := hid (HF2.o.monoNew hW2 (fun k hk => Or.inr (by omega)))
   clear hW2 HE2' HR2' HF2
   generalize w2.setCell ⟨w1.heap.size, 0, none⟩ (.string r.name.text) = w3 at *
   by_cases hb1 : 1000000 < valOf r.base
   ·have HQ : Hid (addRouteM rts r = .error (5, r.base.line)) := by show _ = _; unfold addRouteM; rw [if_neg H6.o, if_neg (by have := HP.o; omega), if_pos hb1]
    refine (upTo_bad r.base _ 1000000 _ HDB.o hb1 (by rfl)).mono ?_
    rintro e w9 ⟨he, hf⟩
    unfold faultE at he
    subst he
    exact ⟨rfl, (ARPost.err HQ.o).2 ⟨rfl, (HF3.o.trans hf).below (by omega) (by simp)⟩⟩
   ·have HB1 := hid hb1
    refine (upTo_ok r.base _ 1000000 _ HDB.o (by omega) (by rfl)).mono ?_
    rintro e w4 ⟨rfl, hf⟩
    have HE4 := hf.whole HE3.o (by simp)
    have HR4 := hf.whole HR3.o (by simp)
    have HF4 := hid (HF3.o.trans hf)
    clear hf hb1 HE3 HR3 HF3
    have HE4' := hid HE4
    have HR4' := hid HR4
    have e6 := block_cell HE4 6 _ rfl
    have e7 := block_cell HE4 7 _ rfl
    have e8 := block_cell HE4 8 _ rfl
    have n1 := block_cell HR4 1 _ rfl
    have nf := block_frozen HR4
    clear HE4 HR4
    generalize hvb : valOf r.base = bv at *
    have HVB := hid hvb
    clear hvb
    go_wp2_with fail
    clear e6 e7 e8 n1 nf
    have hW4 : Fr (fun k => k = w1.heap.size) w4 (w4.setCell ⟨w1.heap.size, 1, none⟩ (.int .i64 bv)) := (Fr.refl (fun k => k = w1.heap.size) _).setCell (p := ⟨w1.heap.size, 1, none⟩) (Or.inl rfl) _
    have HR5 : Hid ((w4.setCell ⟨w1.heap.size, 1, none⟩ (.int .i64 bv)).heap[w1.heap.size]? = some (.cells #[.string r.name.text, .int .i64 bv, .int .i64 0] 144)) := heap_set HR4'.o 1 _
    have HF5 := hid (HF4.o.monoNew hW4 (fun k hk => Or.inr (by omega)))
    clear hW4 HE4' HR4' HF4
    generalize w4.setCell ⟨w1.heap.size, 1, none⟩ (.int .i64 bv) = w5 at *
    by_cases hb2 : 1000 < valOf r.rate
    ·have HQ : Hid (addRouteM rts r = .error (5, r.rate.line)) := by show _ = _; unfold addRouteM; rw [if_neg H6.o, if_neg (by have := HP.o; omega), HVB.o, if_neg HB1.o, if_pos hb2]
     refine (upTo_bad r.rate _ 1000 _ HDR.o hb2 (by rfl)).mono ?_
     rintro e w9 ⟨he, hf⟩
     unfold faultE at he
     subst he
     exact ⟨rfl, (ARPost.err HQ.o).2 ⟨rfl, (HF5.o.trans hf).below (by omega) (by simp)⟩⟩
    ·have HQ : Hid (addRouteM rts r = .ok ⟨r.name.text, bv, valOf r.rate⟩) := by show _ = _; unfold addRouteM; rw [if_neg H6.o, if_neg (by have := HP.o; omega), HVB.o, if_neg HB1.o, if_neg hb2]
     refine (upTo_ok r.rate _ 1000 _ HDR.o (by omega) (by rfl)).mono ?_
     rintro e w6 ⟨rfl, hf⟩
     have HR6 := hf.whole HR5.o (by simp)
     have HF6 := hid (HF5.o.trans hf)
     clear hf hb2 HR5 HF5
     have HR6' := hid HR6
     have n2 := block_cell HR6 2 _ rfl
     have nf := block_frozen HR6
     clear HR6
     generalize valOf r.rate = rv at *
     go_wp2_with fail
     clear n2 nf
     have hW6 : Fr (fun k => k = w1.heap.size) w6 (w6.setCell ⟨w1.heap.size, 2, none⟩ (.int .i64 rv)) := (Fr.refl (fun k => k = w1.heap.size) _).setCell (p := ⟨w1.heap.size, 2, none⟩) (Or.inl rfl) _
     have HR7 : Hid ((w6.setCell ⟨w1.heap.size, 2, none⟩ (.int .i64 rv)).heap[w1.heap.size]? = some (.cells #[.string r.name.text, .int .i64 bv, .int .i64 rv] 144)) := heap_set HR6'.o 2 _
     have HF7 := hid (HF6.o.monoNew hW6 (fun k hk => Or.inr (by omega)))
     clear hW6 HR6' HF6
     generalize w6.setCell ⟨w1.heap.size, 2, none⟩ (.int .i64 rv) = w7 at *
     have HK7 := hid (HK.o.fr HF7.o (by simp))
     have c0 := HK7.o.c0
     have m0 := block_cell HR7.o 0 _ rfl
     have m1 := block_cell HR7.o 1 _ rfl
     have m2 := block_cell HR7.o 2 _ rfl
     have hr6 := HK.o.r6
     have hB7 : B < w7.heap.size := World.block_lt_of_cell? w7 _ c0
     have HR7l : w1.heap.size < w7.heap.size := World.block_lt_of_cell? w7 _ m0
     refine wp_region_held_drew (S := fun w' => w'.cell? ⟨w1.heap.size, 0, none⟩ = some (.string r.name.text) /\ w'.cell? ⟨w1.heap.size, 1, none⟩ = some (.int .i64 bv) /\ w'.cell? ⟨w1.heap.size, 2, none⟩ = some (.int .i64 rv)) (by kernel_rfl) ?_ (fun hH => ?_)
     ·exact ⟨by simpa using m0, by simpa using m1, by simpa using m2⟩
     refine htk 0 (v := ?v0) ?y0 hH ?r0
     case y0 => intro w hw; obtain ⟨g0, g1, g2⟩ := hw; go_simp; with_reducible rfl
     go_frame
     refine htk 1 (v := ?v1) ?y1 hH ?r1
     case y1 => intro w hw; obtain ⟨g0, g1, g2⟩ := hw; go_simp; with_reducible rfl
     go_frame
     refine htk 2 (v := ?v2) ?y2 hH ?r2
     case y2 => intro w hw; obtain ⟨g0, g1, g2⟩ := hw; go_simp; with_reducible rfl
     go_frame
     refine htk 3 (v := ?v3) ?y3 hH ?r3
     case y3 => intro w hw; obtain ⟨g0, g1, g2⟩ := hw; go_simp; with_reducible rfl
     go_frame
     refine htk 5 (v := ?v5) ?y5 hH ?r5
     case y5 => intro w hw; obtain ⟨g0, g1, g2⟩ := hw; go_simp; with_reducible rfl
     go_frame
     refine wpAnyH_ready (rs := [4, 6]) (by kernel_rfl) (by simp) ?_
     refine held_cons rfl (fun K hK => ?_) ?_
     ·rw [if_pos (by rfl)]
      go_simp
      refine hK.out _ _ hH (fun _ => ?_)
      clear hK K
      try go_frame
      refine wpAnyH_ready (rs := [6]) (by kernel_rfl) (by simp) ?_
      refine held_cons rfl (fun K hK => ?_) AllReadyH.nil
      rw [if_pos (by rfl)]
      go_simp
      refine hK.out _ _ ?_ (fun hH => ?_)
      ·simp [*, World.cell?_alloc_some]
      clear hK K
      try go_frame
      refine wpAnyH_ready (rs := [7]) (by kernel_rfl) (by simp) ?_
      refine held_cons rfl (fun K hK => ?_) AllReadyH.nil
      refine step_append_lies _ rfl (.tmp 40) (.tmp 42) 56 rfl (B + 1) 144 ii _ 3 32 Tryz.underlying56 hi hz0 hz1 hz2 rfl (by decide) (.slice va rts.length vc) rts.length (rtRow rts) rfl ?h1 ⟨w7.heap.size, 0, none⟩ 1 1 [.string r.name.text, .int .i64 bv, .int .i64 rv] rfl rfl ?h2 ?h3 (by decide) ?h4 ?h5 ?h6 _ rfl ?h7
      case h1 => exact (HK7.o.ro.alloc _).drew
      case h2 => exact World.news_of_block (heap_alloc_new w7 _)
      case h3 => simp [Value.oneCell']
      case h4 => unfold maxLen; omega
      case h5 => omega
      case h6 => simp; omega
      case h7 =>
       intro g2 cap2 w8 hown hgrow _ _
       have hal : Below w7.heap.size w7 (w7.alloc (.cells #[.string r.name.text, .int .i64 bv, .int .i64 rv] 144)).drew := ((Below.refl _ _).alloc (Nat.le_refl _) _).drew
       have hbk := bk_append (rt := ⟨r.name.text, bv, rv⟩) HK7.o hal hgrow hown
       have d0 := hbk.1
       have df := hbk.2.1
       have HBK := hid (hbk.2.2 (by have := H6.o; omega))
       have hfar : some w1.heap.size ≠ (Value.slice va rts.length vc).ownBlock := fun e => by have := (HK.o.ro.lt _ e.symm).2; omega
       have hS8 : ∀ j, w8.cell? ⟨w1.heap.size, j, none⟩ = w7.cell? ⟨w1.heap.size, j, none⟩ := fun j => (hgrow.cell_far ⟨w1.heap.size, j, none⟩ (Nat.lt_of_lt_of_le HR7l hal.size) hfar).trans (hal.cell (p := ⟨w1.heap.size, j, none⟩) HR7l)
       clear hbk hgrow hown hal hfar
       refine hK.out _ _ ⟨(hS8 0).trans m0, (hS8 1).trans m1, (hS8 2).trans m2⟩ (fun hH => ?_)
       clear hK K hS8
       go_frame
       refine htk 8 (v := ?v8A) ?y8A hH ?r8A
       case y8A => intro w hw; obtain ⟨g0, g1, g2⟩ := hw; go_simp; with_reducible rfl
       go_frame
       refine htk 9 (v := ?v9A) ?y9A hH ?r9A
       case y9A => intro w hw; obtain ⟨g0, g1, g2⟩ := hw; go_simp; with_reducible rfl
       go_frame
       refine wpAnyH_ready (rs := [10]) (by kernel_rfl) (by simp) ?_
       refine held_cons rfl (fun K hK => ?_) AllReadyH.nil
       rw [if_pos (by rfl)]
       go_simp
       refine hK.out _ _ ?_ (fun _ => ?_)
       ·have hx : ∀ o, (⟨B, 0, none⟩ : Addr) ≠ ⟨w1.heap.size, o, none⟩ := fun o e => by injection e with e1; omega
        exact ⟨(World.cell?_setCell_other _ _ _ _ (hx 0)).trans hH.1, (World.cell?_setCell_other _ _ _ _ (hx 1)).trans hH.2.1, (World.cell?_setCell_other _ _ _ _ (hx 2)).trans hH.2.2⟩
       clear hK K
       try go_frame
       refine wpAnyH_done (by kernel_rfl) ?_ _
       go_wp2
       go_end0
       exact (ARPost.ok HQ.o).2 ⟨rfl, ⟨_, HBK.o.1⟩, (HF7.o.below (by omega) (by simp)).trans HBK.o.2⟩
     ·refine held_cons rfl (fun K hK => ?_) AllReadyH.nil
      rw [if_pos (by rfl)]
      go_simp
      refine hK.out _ _ ?_ (fun hH => ?_)
      ·simp [*, World.cell?_alloc_some]
      clear hK K
      try go_frame
      refine wpAnyH_ready (rs := [4]) (by kernel_rfl) (by simp) ?_
      refine held_cons rfl (fun K hK => ?_) AllReadyH.nil
      rw [if_pos (by rfl)]
      have c0' : (w7.alloc (.cells #[.string r.name.text, .int .i64 bv, .int .i64 rv] 144)).cell? ⟨B, 0, none⟩ = some (.slice va rts.length vc) := by rw [World.cell?_alloc_some _ _ _ (by simp [c0])]; exact c0
      go_simp
      refine hK.out _ _ hH (fun _ => ?_)
      clear hK K c0'
      try go_frame
      refine wpAnyH_ready (rs := [7]) (by kernel_rfl) (by simp) ?_
      refine held_cons rfl (fun K hK => ?_) AllReadyH.nil
      refine step_append_lies _ rfl (.tmp 40) (.tmp 42) 56 rfl (B + 1) 144 ii _ 3 32 Tryz.underlying56 hi hz0 hz1 hz2 rfl (by decide) (.slice va rts.length vc) rts.length (rtRow rts) rfl ?h1 ⟨w7.heap.size, 0, none⟩ 1 1 [.string r.name.text, .int .i64 bv, .int .i64 rv] rfl rfl ?h2 ?h3 (by decide) ?h4 ?h5 ?h6 _ rfl ?h7
      case h1 => exact (HK7.o.ro.alloc _).drew
      case h2 => exact World.news_of_block (heap_alloc_new w7 _)
      case h3 => simp [Value.oneCell']
      case h4 => unfold maxLen; omega
      case h5 => omega
      case h6 => simp; omega
      case h7 =>
       intro g2 cap2 w8 hown hgrow _ _
       have hal : Below w7.heap.size w7 (w7.alloc (.cells #[.string r.name.text, .int .i64 bv, .int .i64 rv] 144)).drew := ((Below.refl _ _).alloc (Nat.le_refl _) _).drew
       have hbk := bk_append (rt := ⟨r.name.text, bv, rv⟩) HK7.o hal hgrow hown
       have d0 := hbk.1
       have df := hbk.2.1
       have HBK := hid (hbk.2.2 (by have := H6.o; omega))
       have hfar : some w1.heap.size ≠ (Value.slice va rts.length vc).ownBlock := fun e => by have := (HK.o.ro.lt _ e.symm).2; omega
       have hS8 : ∀ j, w8.cell? ⟨w1.heap.size, j, none⟩ = w7.cell? ⟨w1.heap.size, j, none⟩ := fun j => (hgrow.cell_far ⟨w1.heap.size, j, none⟩ (Nat.lt_of_lt_of_le HR7l hal.size) hfar).trans (hal.cell (p := ⟨w1.heap.size, j, none⟩) HR7l)
       clear hbk hgrow hown hal hfar
       refine hK.out _ _ ⟨(hS8 0).trans m0, (hS8 1).trans m1, (hS8 2).trans m2⟩ (fun hH => ?_)
       clear hK K hS8
       go_frame
       refine htk 8 (v := ?v8B) ?y8B hH ?r8B
       case y8B => intro w hw; obtain ⟨g0, g1, g2⟩ := hw; go_simp; with_reducible rfl
       go_frame
       refine htk 9 (v := ?v9B) ?y9B hH ?r9B
       case y9B => intro w hw; obtain ⟨g0, g1, g2⟩ := hw; go_simp; with_reducible rfl
       go_frame
       refine wpAnyH_ready (rs := [10]) (by kernel_rfl) (by simp) ?_
       refine held_cons rfl (fun K hK => ?_) AllReadyH.nil
       rw [if_pos (by rfl)]
       go_simp
       refine hK.out _ _ ?_ (fun _ => ?_)
       ·have hx : ∀ o, (⟨B, 0, none⟩ : Addr) ≠ ⟨w1.heap.size, o, none⟩ := fun o e => by injection e with e1; omega
        exact ⟨(World.cell?_setCell_other _ _ _ _ (hx 0)).trans hH.1, (World.cell?_setCell_other _ _ _ _ (hx 1)).trans hH.2.1, (World.cell?_setCell_other _ _ _ _ (hx 2)).trans hH.2.2⟩
       clear hK K
       try go_frame
       refine wpAnyH_done (by kernel_rfl) ?_ _
       go_wp2
       go_end0
       exact (ARPost.ok HQ.o).2 ⟨rfl, ⟨_, HBK.o.1⟩, (HF7.o.below (by omega) (by simp)).trans HBK.o.2⟩
end Go.Proofs.YtccikgogjfbpeabGreatDoor

namespace Go.Proofs.YtccikgogjfbpeabGreatDoor
open Go.RowKit
theorem RuV.length {base : Nat} {w : World} {r : RuleM} {c : List Value} (h : RuV base w r c) : c.length = 14 := by
 obtain ⟨_, _, _, rfl, _⟩ := h
 rfl
theorem ruvs_get {base : Nat} {w : World} : ∀ {rs : List RuleM} {xs : List Value} {j : Nat} {r : RuleM}, RuVs base w rs xs -> rs[j]? = some r -> ∃ c, RuV base w r c /\ ∀ k, k < 14 -> xs[j * 14 + k]? = c[k]?
 | [], _, j, _, _, hj => by simp at hj
 | x :: rs, xs, 0, r, ⟨c, rest, e, h1, h2⟩, hj => by
  simp at hj
  subst hj
  refine ⟨c, h1, fun k hk => ?_⟩
  have hl := h1.length
  rw [e, Nat.zero_mul, Nat.zero_add, List.getElem?_append_left (by omega)]
 | x :: rs, xs, j + 1, r, ⟨c, rest, e, h1, h2⟩, hj => by
  obtain ⟨d, hd, hk⟩ := ruvs_get (j := j) h2 (by simpa using hj)
  refine ⟨d, hd, fun k hlt => ?_⟩
  have hl := h1.length
  rw [e, List.getElem?_append_right (by omega), hl, show (j + 1) * 14 + k - 14 = j * 14 + k from by omega]
  exact hk k hlt
def hasName (nm : ByteArray) : List RuleM -> Bool
 | [] => false
 | r :: rs => if (r.name.toList == nm.toList) = true then true else hasName nm rs
set_option maxRecDepth 30000 in
set_option maxHeartbeats 1000000 in
theorem hasRule_any (w : World) (B : Nat) (vr vl : Value) (rts : List RouteM) (rls : List RuleM) (xs : List Value) (nm : ByteArray) (h : Bk w B vr vl rts rls xs) :
  Calls Tryz.prog 268 #[.pointer (some ⟨B, 0, none⟩), .string nm] w fun e w' => e = .returned (.bool (hasName nm rls)) /\ F0 w w' := by
 have c1 := h.c1
 have hl8 := h.l8
 by_cases hn : 0 < rls.length
 ·obtain ⟨g, cap, rfl, hb, hl⟩ := h.lo.form hn
  have hadd : ∀ k, (⟨g, 0, none⟩ : Addr).add k = ⟨g, k, none⟩ := fun k => by unfold Addr.add; split <;> simp_all
  have HR : Hid (∀ j r, rls[j]? = some r -> ∃ m1 m2 m3 k1 k2 k3 p1 p2 p3, w.rangeAt g (j * 14) [.string r.name, .int .i64 r.rank, .int .i64 r.digits, .int .i64 r.lo, .int .i64 r.hi, .slice m1 m2 m3, .bool r.am.isSome, .int .i64 (r.am.getD (0, 0)).1, .int .i64 (r.am.getD (0, 0)).2, .slice k1 k2 k3, .bool r.decline, .bool r.cheapest, .slice p1 p2 p3, .int .i64 r.ahead]) := fun j r hj => by
   obtain ⟨c, ⟨vm, vc, vp, rfl, h1, h2, h3⟩, hk⟩ := ruvs_get h.ru hj
   obtain ⟨m1, m2, m3, rfl⟩ := ownsRow_slice h1
   obtain ⟨k1, k2, k3, rfl⟩ := ownsRow_slice h2
   obtain ⟨p1, p2, p3, rfl⟩ := ownsRow_slice h3
   refine ⟨m1, m2, m3, k1, k2, k3, p1, p2, p3, fun k v hv => ?_⟩
   have hlt : k < 14 := (List.getElem?_eq_some_iff.1 hv).1
   have := h.lo.cells (g := g) rfl (j * 14 + k) v (by rw [hk k hlt]; exact hv)
   rwa [hadd] at this
  clear h hn hadd
  have hi14 : Hid ((Tryz.prog.info? 108).map (·.size) = some 14) := by show _ = _; kernel_rfl
  go_enter Tryz.func268, Tryz.ntmps268
  go_wp2_with fail
  go_loopg [6, 12] rls.length (fun m _ c wr => ∃ j, j <= rls.length /\ m = rls.length - j /\ c = .int .i64 j /\ Hid (F0 w wr) /\ Hid (hasName nm rls = hasName nm (rls.drop j)))
  case atStart => exact ⟨0, Nat.zero_le _, rfl, rfl, Fr.refl _ _, rfl⟩
  case round =>
   obtain ⟨j, hj, rfl, rfl, HF, HN⟩ := hrel
   by_cases hlt : j < rls.length
   ·obtain ⟨r, hr⟩ : ∃ r, rls[j]? = some r := ⟨_, List.getElem?_eq_getElem hlt⟩
    obtain ⟨m1, m2, m3, k1, k2, k3, p1, p2, p3, hrg⟩ := HR.o j r hr
    have HG : Hid (wr.rangeAt g (j * 14) [.string r.name, .int .i64 r.rank, .int .i64 r.digits, .int .i64 r.lo, .int .i64 r.hi, .slice m1 m2 m3, .bool r.am.isSome, .int .i64 (r.am.getD (0, 0)).1, .int .i64 (r.am.getD (0, 0)).2, .slice k1 k2 k3, .bool r.decline, .bool r.cheapest, .slice p1 p2 p3, .int .i64 r.ahead]) := fun k v hv => by rw [HF.o.cell (p := ⟨g, j * 14 + k, none⟩) hl (by simp)]; exact hrg k v hv
    have hki : (j : Int) < (rls.length : Int) := by omega
    have hdrop : Hid (rls.drop j = r :: rls.drop (j + 1)) := by
     obtain ⟨hlt', he⟩ := List.getElem?_eq_some_iff.1 hr
     show _ = _
     rw [List.drop_eq_getElem_cons hlt', he]
    clear hr c1 hrg
    cases hq : (r.name.toList == nm.toList) with
    | true =>
     have HQ : Hid (hasName nm rls = true) := by show _ = _; rw [HN.o, hdrop.o]; simp only [hasName]; rw [if_pos hq]
     go_wp2_with (first | (refine wpList_load_mid rfl 108 _ rfl g (j * 14) rfl _ _ HG.o Tryz.underlying108 rfl hi14.o ?_))
     go_ret
     exact ⟨by rw [HQ.o]; rfl, HF.o.alloc _⟩
    | false =>
     have HQ : Hid (hasName nm rls = hasName nm (rls.drop (j + 1))) := by show _ = _; rw [HN.o, hdrop.o]; simp only [hasName]; rw [if_neg (by simp [hq])]
     go_wp2_with (first | (refine wpList_load_mid rfl 108 _ rfl g (j * 14) rfl _ _ HG.o Tryz.underlying108 rfl hi14.o ?_))
     go_roundg (rls.length - (j + 1))
     case measure => omega
     case rel => exact ⟨j + 1, by omega, rfl, by go_num, HF.o.alloc _, HQ⟩
   ·have hki : ¬ (j : Int) < (rls.length : Int) := by omega
    have HQ : Hid (hasName nm rls = false) := by show _ = _; rw [HN.o, List.drop_of_length_le (by omega)]; rfl
    clear c1
    go_wp2
    go_ret
    exact ⟨by rw [HQ.o]; rfl, HF.o⟩
 ·have hz : rls = [] := List.eq_nil_of_length_eq_zero (by omega)
  subst hz
  have hlo := h.lo
  rcases hlo.2 with ⟨rfl, _⟩ | ⟨g, cap, cur, rfl, _⟩
  all_goals
   clear h hlo
   go_enter Tryz.func268, Tryz.ntmps268
   go_wp2_with fail
   go_loopg [6, 12] 1 (fun m _ c wr => m = 1 /\ c = .int .i64 0 /\ wr = w)
   case atStart => exact ⟨rfl, rfl, rfl⟩
   case round =>
    obtain ⟨rfl, rfl, rfl⟩ := hrel
    clear c1
    go_wp2
    go_ret
    exact ⟨rfl, Fr.refl _ _⟩
end Go.Proofs.YtccikgogjfbpeabGreatDoor
