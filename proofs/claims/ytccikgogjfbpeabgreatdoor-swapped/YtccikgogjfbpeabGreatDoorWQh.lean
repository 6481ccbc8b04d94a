/- The sense of tokens: spanUpTo, numbers. The book: the place of a route; the places of names. The book: the places of names. -/
import Derived.Test.YtccikgogjfbpeabGreatDoorWHa
import Derived.Test.YtccikgogjfbpeabGreatDoorWQg
namespace Go.Proofs.YtccikgogjfbpeabGreatDoor
open Go.RowKit
set_option maxHeartbeats 1000000 in
theorem spanUpTo_any (a b : Tk) (w : World) (i1 : Int) (ha : Dg a.text) (hb : Dg b.text) (e1 : i1 = (1000000000 : Nat)) :
  Calls Tryz.prog 271 #[pairV (a, b), .int .i64 i1] w fun e w' => SpanE (valOf a) (valOf b) b.line e /\ F0 w w' := by
 have va := valOf_bound a ha
 have vb := valOf_bound b hb
 have HA : Hid (∀ W, Calls Tryz.prog 265 #[.agg #[.int .i64 a.sort, .string a.text, .int .i64 a.line], .int .i64 i1] W fun e w' => e = .returned (.int .i64 (valOf a)) /\ F0 W w') := fun W => upTo_ok a W 1000000000 i1 ha (by omega) e1
 have HB : Hid (∀ W, Calls Tryz.prog 265 #[.agg #[.int .i64 b.sort, .string b.text, .int .i64 b.line], .int .i64 i1] W fun e w' => e = .returned (.int .i64 (valOf b)) /\ F0 W w') := fun W => upTo_ok b W 1000000000 i1 hb (by omega) e1
 have HC : Hid (∀ W, Calls Tryz.prog 269 #[.agg #[.int .i64 a.sort, .string a.text, .int .i64 a.line, .int .i64 b.sort, .string b.text, .int .i64 b.line]] W fun e w' => SpanE (valOf a) (valOf b) b.line e /\ F0 W w') := fun W => span_any a b W ha hb
 clear ha hb e1 va vb
 generalize valOf a = x at *
 generalize valOf b = y at *
 unfold pairV
 go_enter Tryz.func271, Tryz.ntmps271
 go_wp2_with fail
 have HX0 : Hid (((w.alloc (.cells #[.int .i64 a.sort, .string a.text, .int .i64 a.line, .int .i64 b.sort, .string b.text, .int .i64 b.line] 236)).alloc (.cells #[.int .i64 0, .int .i64 0] 106)).heap[w.heap.size]? = _) := ((Fr.refl (fun _ => False) _).alloc _).whole (heap_alloc_new w _) (by simp)
 have HR0 : Hid (((w.alloc (.cells #[.int .i64 a.sort, .string a.text, .int .i64 a.line, .int .i64 b.sort, .string b.text, .int .i64 b.line] 236)).alloc (.cells #[.int .i64 0, .int .i64 0] 106)).heap[w.heap.size + 1]? = _) := heap_alloc_two w _ _
 have HW0 : Hid (F0 w ((w.alloc (.cells #[.int .i64 a.sort, .string a.text, .int .i64 a.line, .int .i64 b.sort, .string b.text, .int .i64 b.line] 236)).alloc (.cells #[.int .i64 0, .int .i64 0] 106))) := ((Fr.refl _ _).alloc _).alloc _
 refine (HA.o _).mono ?_
 rintro e w1 ⟨rfl, hf⟩
 have HX1 := hf.whole HX0.o (by simp)
 have HR1 := hf.whole HR0.o (by simp)
 have HF1 := hid (HW0.o.trans hf)
 clear HX0 HR0 HW0 hf
 have b0 := block_cell HX1 0 _ rfl
 have b1 := block_cell HX1 1 _ rfl
 have b2 := block_cell HX1 2 _ rfl
 have b3 := block_cell HX1 3 _ rfl
 have b4 := block_cell HX1 4 _ rfl
 have b5 := block_cell HX1 5 _ rfl
 have HX1' := hid HX1
 have HR1' := hid HR1
 clear HX1 HR1
 go_wp2_with fail
 refine (HB.o _).mono ?_
 rintro e w2 ⟨rfl, hf⟩
 have HX2 := hf.whole HX1'.o (by simp)
 have HR2 := hid (hf.whole HR1'.o (by simp))
 have HF2 := hid (HF1.o.trans hf)
 clear hf b0 b1 b2 b3 b4 b5 HX1' HR1'
 have b0 := block_cell HX2 0 _ rfl
 have b1 := block_cell HX2 1 _ rfl
 have b2 := block_cell HX2 2 _ rfl
 have b3 := block_cell HX2 3 _ rfl
 have b4 := block_cell HX2 4 _ rfl
 have b5 := block_cell HX2 5 _ rfl
 clear HX2
 go_wp2_with fail
 refine (HC.o _).mono ?_
 rintro e w3 ⟨hs, hf⟩
 by_cases hxy : x <= y
 ·obtain rfl := (SpanE.ok hxy).1 hs
  have HR3 := hf.whole HR2.o (by simp)
  have HF3 := hid (HF2.o.trans hf)
  have r0 := block_cell HR3 0 _ rfl
  have r1 := block_cell HR3 1 _ rfl
  have rf := block_frozen HR3
  clear hs hf HR3 b0 b1 b2 b3 b4 b5
  simp only [spanV]
  go_wp2
  have hW : Fr (fun k => w.heap.size <= k) w3 ((w3.setCell ⟨w.heap.size + 1, 0, none⟩ (.int .i64 x)).setCell ⟨w.heap.size + 1, 1, none⟩ (.int .i64 y)) := ((Fr.refl (fun k => w.heap.size <= k) w3).setCell (p := ⟨w.heap.size + 1, 0, none⟩) (Or.inl (Nat.le_succ _)) _).setCell (p := ⟨w.heap.size + 1, 1, none⟩) (Or.inl (Nat.le_succ _)) _
  exact bodyPost_ret (v := spanV x y) (by simp [results, Tryz.results271, go_sem, spanV, *]) rfl ⟨(SpanE.ok hxy).2 rfl, HF3.o.monoNew hW (fun k hk => Or.inr hk)⟩
 ·have he := (SpanE.bad hxy).1 hs
  unfold faultE at he
  subst he
  exact ⟨rfl, (SpanE.bad hxy).2 rfl, HF2.o.trans hf⟩
def numsFrom (most : Nat) : Nat -> List Tk -> Except (Nat × Nat) (List Nat)
 | _, [] => .ok []
 | i, t :: r => if i = 4 then .error (6, t.line) else if most < valOf t then .error (5, t.line) else
  match numsFrom most (i + 1) r with
  | .error f => .error f
  | .ok ns => .ok (valOf t :: ns)
def intRow (ns : List Nat) : List Value := ns.map fun n : Nat => Value.int .i64 (n : Int)
theorem Tryz.infoInt : (Tryz.prog.info? 3).map (fun i => (i.zero, i.size, i.bytes)) = some (some (.int .i64 0), 1, 8) := by kernel_rfl
def NPost (r : Except (Nat × Nat) (List Nat)) (w : World) (e : Ending) (w' : World) : Prop :=
 match r with
 | .ok ns => (∃ v, e = .returned v /\ w'.ownsRow w.heap.size 3 1 v ns.length (intRow ns)) /\ F0 w w'
 | .error f => e = faultE f.1 f.2 /\ F0 w w'
theorem NPost.ok {r : Except (Nat × Nat) (List Nat)} {w w' : World} {e : Ending} {ns : List Nat} (h : r = .ok ns) : NPost r w e w' ↔ (∃ v, e = .returned v /\ w'.ownsRow w.heap.size 3 1 v ns.length (intRow ns)) /\ F0 w w' := by subst h; exact Iff.rfl
theorem NPost.err {r : Except (Nat × Nat) (List Nat)} {w w' : World} {e : Ending} {f : Nat × Nat} (h : r = .error f) : NPost r w e w' ↔ e = faultE f.1 f.2 /\ F0 w w' := by subst h; exact Iff.rfl
def numsMore (most : Nat) (acc : List Nat) (i : Nat) (l : List Tk) : Except (Nat × Nat) (List Nat) :=
 match numsFrom most i l with
 | .error f => .error f
 | .ok ns => .ok (acc ++ ns)
theorem numsMore_nil (most : Nat) (acc : List Nat) (i : Nat) : numsMore most acc i [] = .ok acc := by simp [numsMore, numsFrom]
theorem numsMore_many {most : Nat} {acc : List Nat} {t : Tk} {r : List Tk} : numsMore most acc 4 (t :: r) = .error (6, t.line) := by simp [numsMore, numsFrom]
theorem numsMore_bad {most : Nat} {acc : List Nat} {i : Nat} {t : Tk} {r : List Tk} (h : i ≠ 4) (hv : most < valOf t) : numsMore most acc i (t :: r) = .error (5, t.line) := by simp [numsMore, numsFrom, h, hv]
theorem numsMore_ok {most : Nat} {acc : List Nat} {i : Nat} {t : Tk} {r : List Tk} (h : i ≠ 4) (hv : ¬ most < valOf t) : numsMore most acc i (t :: r) = numsMore most (acc ++ [valOf t]) (i + 1) r := by
 simp only [numsMore, numsFrom, if_neg h, if_neg hv]
 cases numsFrom most (i + 1) r <;> simp
theorem drop_of {ts : List Tk} {j : Nat} {t : Tk} (ht : ts[j]? = some t) : ts.drop j = t :: ts.drop (j + 1) := by
 obtain ⟨hlt, he⟩ := List.getElem?_eq_some_iff.1 ht
 rw [List.drop_eq_getElem_cons hlt, he]
theorem intRow_snoc (ns : List Nat) (n : Nat) : intRow (ns ++ [n]) = intRow ns ++ [.int .i64 n] := by simp [intRow]
theorem tkRow_get : ∀ (ts : List Tk) (j : Nat) (t : Tk), ts[j]? = some t -> (tkRow ts)[j * 3]? = some (.int .i64 t.sort) /\ (tkRow ts)[j * 3 + 1]? = some (.string t.text) /\ (tkRow ts)[j * 3 + 2]? = some (.int .i64 t.line)
 | [], j, t, h => by simp at h
 | x :: r, 0, t, h => by simp at h; subst h; exact ⟨rfl, rfl, rfl⟩
 | x :: r, j + 1, t, h => by
  have := tkRow_get r j t (by simpa using h)
  have e : tkRow (x :: r) = tkCells x ++ tkRow r := by simp [tkRow]
  have l : (tkCells x).length = 3 := rfl
  rw [e]
  refine ⟨?_, ?_, ?_⟩
  ·rw [List.getElem?_append_right (by omega), l, show (j + 1) * 3 - 3 = j * 3 from by omega]; exact this.1
  ·rw [List.getElem?_append_right (by omega), l, show (j + 1) * 3 + 1 - 3 = j * 3 + 1 from by omega]; exact this.2.1
  ·rw [List.getElem?_append_right (by omega), l, show (j + 1) * 3 + 2 - 3 = j * 3 + 2 from by omega]; exact this.2.2
theorem ownsRow_tok {w : World} {base : Nat} {v : Value} {ts : List Tk} (h : w.ownsRow base 207 3 v ts.length (tkRow ts)) (hn : 0 < ts.length) :
  ∃ g cap, v = .slice (some ⟨g, 0, none⟩) ts.length cap /\ base <= g /\ g < w.heap.size /\ ∀ j t, ts[j]? = some t -> w.cell? ⟨g, j * 3, none⟩ = some (.int .i64 t.sort) /\ w.cell? ⟨g, j * 3 + 1, none⟩ = some (.string t.text) /\ w.cell? ⟨g, j * 3 + 2, none⟩ = some (.int .i64 t.line) := by
 obtain ⟨g, cap, rfl, hb, hl⟩ := h.form hn
 refine ⟨g, cap, rfl, hb, hl, fun j t hj => ?_⟩
 obtain ⟨a, b, c⟩ := tkRow_get ts j t hj
 have hadd : ∀ k, (⟨g, 0, none⟩ : Addr).add k = ⟨g, k, none⟩ := fun k => by unfold Addr.add; split <;> simp_all
 have hc := h.cells (g := g) rfl
 exact ⟨by have := hc _ _ a; rwa [hadd] at this, by have := hc _ _ b; rwa [hadd] at this, by have := hc _ _ c; rwa [hadd] at this⟩
set_option maxHeartbeats 1000000 in
theorem numbers_any (w : World) (base : Nat) (v : Value) (ts : List Tk) (most : Nat) (i1 : Int) (h : w.ownsRow base 207 3 v ts.length (tkRow ts)) (hd : ∀ t, t ∈ ts -> Dg t.text) (hfew : ts.length <= 4000) (e1 : i1 = most) :
  Calls Tryz.prog 270 #[v, .int .i64 i1] w (NPost (numsFrom most 0 ts) w) := by
 subst e1
 have HM : Hid (numsFrom most 0 ts = numsMore most [] 0 ts) := by show _ = _; unfold numsMore; cases numsFrom most 0 ts <;> simp
 obtain ⟨ii, hi, hz0, hz1, hz2⟩ := info_parts Tryz.infoInt
 by_cases hn : 0 < ts.length
 ·obtain ⟨g, cap, rfl, hb, hl, hrow⟩ := ownsRow_tok h hn
  have HR := hid hrow
  have HD := hid hd
  clear h hrow hd hn
  go_enter Tryz.func270, Tryz.ntmps270
  go_wp2_with fail
  go_loopg [5, 6, 7, 10] ts.length (fun m o _ _ c wr => ∃ j acc, j <= ts.length /\ m = ts.length - j /\ c = .int .i64 j /\ Hid (wr.ownsRow w.heap.size 3 1 o acc.length (intRow acc)) /\ Hid (acc.length = j) /\ Hid (F0 w wr) /\ Hid (numsFrom most 0 ts = numsMore most acc j (ts.drop j)))
  case atStart => exact ⟨0, [], Nat.zero_le _, rfl, rfl, World.ownsRow_nil _ _ _ _, rfl, Fr.refl _ _, HM.o⟩
  case round =>
   obtain ⟨j, acc, hj, rfl, rfl, HO, HA, HF, HN⟩ := hrel
   by_cases hlt : j < ts.length
   ·obtain ⟨t, ht⟩ : ∃ t, ts[j]? = some t := ⟨_, List.getElem?_eq_getElem hlt⟩
    have HT := hid ht
    obtain ⟨r0, r1, r2⟩ := HR.o j t ht
    rw [<- HF.o.cell (p := ⟨g, j * 3, none⟩) hl (by simp)] at r0
    rw [<- HF.o.cell (p := ⟨g, j * 3 + 1, none⟩) hl (by simp)] at r1
    rw [<- HF.o.cell (p := ⟨g, j * 3 + 2, none⟩) hl (by simp)] at r2
    have hki : (j : Int) < (ts.length : Int) := by omega
    have hdrop : Hid (ts.drop j = t :: ts.drop (j + 1)) := drop_of ht
    clear ht
    by_cases h4 : j = 4
    ·have hne : ((j : Int) == 4) = true := by simp; omega
     have H4 := hid h4
     clear h4
     go_wp2_with fail
     refine (giveUp_any t 6 _ _ (by rfl)).mono ?_
     rintro e w3 ⟨he, hf⟩
     unfold faultE at he
     subst he
     exact ⟨rfl, (NPost.err (by rw [HN.o, hdrop.o, H4.o]; exact numsMore_many)).2 ⟨rfl, (HF.o.alloc _).trans hf⟩⟩
    ·have hne : ((j : Int) == 4) = false := by simp; omega
     have H4 := hid h4
     clear h4
     by_cases hv : most < valOf t
     ·have HV := hid hv
      clear hv
      go_wp2_with fail
      refine (upTo_bad t _ most _ (HD.o t (List.mem_of_getElem? HT.o)) HV.o (by rfl)).mono ?_
      rintro e w3 ⟨he, hf⟩
      unfold faultE at he
      subst he
      exact ⟨rfl, (NPost.err (by rw [HN.o, hdrop.o]; exact numsMore_bad H4.o HV.o)).2 ⟨rfl, (HF.o.alloc _).trans hf⟩⟩
     ·have HV := hid hv
      clear hv
      go_wp2_with fail
      refine (upTo_ok t _ most _ (HD.o t (List.mem_of_getElem? HT.o)) (Nat.le_of_not_lt HV.o) (by rfl)).mono ?_
      rintro e w3 ⟨rfl, hf⟩
      have HF3 : Hid (F0 w w3) := (HF.o.alloc _).trans hf
      have HO3 : Hid (w3.ownsRow w.heap.size 3 1 u5 acc.length (intRow acc)) := ownsRow_fr (HO.o.alloc _) hf (by simp)
      have HN3 : Hid (numsFrom most 0 ts = numsMore most (acc ++ [valOf t]) (j + 1) (ts.drop (j + 1))) := HN.o.trans (by rw [hdrop.o]; exact numsMore_ok H4.o HV.o)
      have hacc : acc.length <= ts.length := by have := HA.o; omega
      have hs3 := HF3.o.size
      clear hf r0 r1 r2
      generalize valOf t = n at *
      go_wp2_with (at_builtin; refine wpList_append_lies _ rfl (.tmp 19) (.tmp 23) 22 rfl w.heap.size 3 ii _ 1 8 Tryz.underlying22 hi hz0 hz1 hz2 rfl (by decide) u5 acc.length (intRow acc) rfl ?h1 ⟨w3.heap.size, 0, none⟩ 1 1 [.int .i64 n] rfl rfl ?h2 ?h3 (by decide) ?h4 ?h5 ?h6 _ rfl ?h7)
      case h1 => exact HO3.o.alloc _
      case h2 => exact World.news_of_block (heap_alloc_new w3 _)
      case h3 => simp [Value.oneCell']
      case h4 => unfold maxLen; omega
      case h5 => omega
      case h6 => simp; omega
      case h7 =>
       intro g2 cap2 w4 hown hgrow _ _
       have hrow : ∀ k, u5.ownBlock = some k -> w.heap.size <= k := fun k hk => (HO3.o.lt k hk).1
       have HO4 := hid hown
       have HF4 : Hid (F0 w w4) := (HF3.o.alloc _).grown hgrow (fun k hk => Or.inr (hrow k hk))
       clear hgrow hown hrow
       go_wp2
       go_roundg (ts.length - (j + 1))
       case measure => omega
       case rel =>
        refine ⟨j + 1, acc ++ [n], by omega, rfl, by go_num, ?_, ?_, HF4, HN3⟩
        ·show World.ownsRow _ _ _ _ _ _ _
         rw [intRow_snoc, List.length_append]; exact HO4.o
        ·show _ = _
         have := HA.o
         simp; omega
   ·have hki : ¬ (j : Int) < (ts.length : Int) := by omega
    have hfin : Hid (NPost (numsFrom most 0 ts) w (.returned u5) wr) := by
     show NPost _ _ _ _
     refine (NPost.ok (ns := acc) ?_).2 ⟨⟨u5, rfl, HO.o⟩, HF.o⟩
     rw [HN.o, List.drop_of_length_le (by omega)]
     exact numsMore_nil _ _ _
    go_wp2
    go_ret
    exact hfin.o
 ·have hz : ts = [] := List.eq_nil_of_length_eq_zero (by omega)
  subst hz
  rcases h.2 with ⟨rfl, _⟩ | ⟨g, cap, cur, rfl, _⟩
  all_goals
   clear h hd
   go_enter Tryz.func270, Tryz.ntmps270
   go_wp2_with fail
   go_loopg [5, 6, 7, 10] 1 (fun m o _ _ c wr => m = 1 /\ o = .slice none 0 0 /\ c = .int .i64 0 /\ wr = w)
   case atStart => exact ⟨rfl, rfl, rfl, rfl⟩
   case round =>
    obtain ⟨rfl, rfl, rfl, rfl⟩ := hrel
    go_wp2
    go_ret
    exact (NPost.ok (ns := []) rfl).2 ⟨⟨_, rfl, World.ownsRow_nil _ _ _ _⟩, Fr.refl _ _⟩
end Go.Proofs.YtccikgogjfbpeabGreatDoor

namespace Go.Proofs.YtccikgogjfbpeabGreatDoor
open Go.RowKit
structure RouteM where
 name : ByteArray
 base : Nat
 rate : Nat
def rtCells (r : RouteM) : List Value := [.string r.name, .int .i64 r.base, .int .i64 r.rate]
def rtRow (rs : List RouteM) : List Value := rs.flatMap rtCells
theorem rtRow_snoc (rs : List RouteM) (r : RouteM) : rtRow (rs ++ [r]) = rtRow rs ++ rtCells r := by simp [rtRow]
theorem rtRow_get : ∀ (rs : List RouteM) (j : Nat) (r : RouteM), rs[j]? = some r -> (rtRow rs)[j * 3]? = some (.string r.name) /\ (rtRow rs)[j * 3 + 1]? = some (.int .i64 r.base) /\ (rtRow rs)[j * 3 + 2]? = some (.int .i64 r.rate)
 | [], j, t, h => by simp at h
 | x :: r, 0, t, h => by simp at h; subst h; exact ⟨rfl, rfl, rfl⟩
 | x :: r, j + 1, t, h => by
  have := rtRow_get r j t (by simpa using h)
  have e : rtRow (x :: r) = rtCells x ++ rtRow r := by simp [rtRow]
  have l : (rtCells x).length = 3 := rfl
  rw [e]
  refine ⟨?_, ?_, ?_⟩
  ·rw [List.getElem?_append_right (by omega), l, show (j + 1) * 3 - 3 = j * 3 from by omega]; exact this.1
  ·rw [List.getElem?_append_right (by omega), l, show (j + 1) * 3 + 1 - 3 = j * 3 + 1 from by omega]; exact this.2.1
  ·rw [List.getElem?_append_right (by omega), l, show (j + 1) * 3 + 2 - 3 = j * 3 + 2 from by omega]; exact this.2.2
theorem ownsRow_rt {w : World} {base : Nat} {v : Value} {rs : List RouteM} (h : w.ownsRow base 144 3 v rs.length (rtRow rs)) (hn : 0 < rs.length) :
  ∃ g cap, v = .slice (some ⟨g, 0, none⟩) rs.length cap /\ base <= g /\ g < w.heap.size /\ ∀ j r, rs[j]? = some r -> w.cell? ⟨g, j * 3, none⟩ = some (.string r.name) /\ w.cell? ⟨g, j * 3 + 1, none⟩ = some (.int .i64 r.base) /\ w.cell? ⟨g, j * 3 + 2, none⟩ = some (.int .i64 r.rate) := by
 obtain ⟨g, cap, rfl, hb, hl⟩ := h.form hn
 refine ⟨g, cap, rfl, hb, hl, fun j t hj => ?_⟩
 obtain ⟨a, b, c⟩ := rtRow_get rs j t hj
 have hadd : ∀ k, (⟨g, 0, none⟩ : Addr).add k = ⟨g, k, none⟩ := fun k => by unfold Addr.add; split <;> simp_all
 have hc := h.cells (g := g) rfl
 exact ⟨by have := hc _ _ a; rwa [hadd] at this, by have := hc _ _ b; rwa [hadd] at this, by have := hc _ _ c; rwa [hadd] at this⟩
def placeFrom (nm : ByteArray) : Nat -> List RouteM -> Int
 | _, [] => -1
 | i, r :: rs => if (r.name.toList == nm.toList) = true then (i : Int) else placeFrom nm (i + 1) rs
set_option maxHeartbeats 1000000 in
theorem broute_any (w : World) (B base : Nat) (v : Value) (rs : List RouteM) (nm : ByteArray) (hB : w.cell? ⟨B, 0, none⟩ = some v) (h : w.ownsRow base 144 3 v rs.length (rtRow rs)) (hfew : rs.length <= 6) :
  Calls Tryz.prog 264 #[.pointer (some ⟨B, 0, none⟩), .string nm] w fun e w' => e = .returned (.int .i64 (placeFrom nm 0 rs)) /\ F0 w w' := by
 by_cases hn : 0 < rs.length
 ·obtain ⟨g, cap, rfl, hb, hl, hrow⟩ := ownsRow_rt h hn
  have HR := hid hrow
  clear h hrow hn
  go_enter Tryz.func264, Tryz.ntmps264
  go_wp2_with fail
  go_loopg [5, 6, 12] rs.length (fun m _ _ c wr => ∃ j, j <= rs.length /\ m = rs.length - j /\ c = .int .i64 j /\ Hid (F0 w wr) /\ Hid (placeFrom nm 0 rs = placeFrom nm j (rs.drop j)))
  case atStart => exact ⟨0, Nat.zero_le _, rfl, rfl, Fr.refl _ _, rfl⟩
  case round =>
   obtain ⟨j, hj, rfl, rfl, HF, HN⟩ := hrel
   by_cases hlt : j < rs.length
   ·obtain ⟨r, hr⟩ : ∃ r, rs[j]? = some r := ⟨_, List.getElem?_eq_getElem hlt⟩
    obtain ⟨r0, r1, r2⟩ := HR.o j r hr
    rw [<- HF.o.cell (p := ⟨g, j * 3, none⟩) hl (by simp)] at r0
    rw [<- HF.o.cell (p := ⟨g, j * 3 + 1, none⟩) hl (by simp)] at r1
    rw [<- HF.o.cell (p := ⟨g, j * 3 + 2, none⟩) hl (by simp)] at r2
    have hki : (j : Int) < (rs.length : Int) := by omega
    have hdrop : Hid (rs.drop j = r :: rs.drop (j + 1)) := by
     obtain ⟨hlt', he⟩ := List.getElem?_eq_some_iff.1 hr
     show _ = _
     rw [List.drop_eq_getElem_cons hlt', he]
    clear hr hB
    cases hq : (r.name.toList == nm.toList) with
    | true =>
     have HQ : Hid (placeFrom nm 0 rs = (j : Int)) := by show _ = _; rw [HN.o, hdrop.o]; simp only [placeFrom]; rw [if_pos hq]
     go_wp2
     go_ret
     exact ⟨ret_int HQ.o.symm, HF.o.alloc _⟩
    | false =>
     have HQ : Hid (placeFrom nm 0 rs = placeFrom nm (j + 1) (rs.drop (j + 1))) := by show _ = _; rw [HN.o, hdrop.o]; simp only [placeFrom]; rw [if_neg (by simp [hq])]
     go_wp2
     go_roundg (rs.length - (j + 1))
     case measure => omega
     case rel => exact ⟨j + 1, by omega, rfl, by go_num, HF.o.alloc _, HQ⟩
   ·have hki : ¬ (j : Int) < (rs.length : Int) := by omega
    have HQ : Hid (placeFrom nm 0 rs = -1) := by show _ = _; rw [HN.o, List.drop_of_length_le (by omega)]; rfl
    clear hB
    go_wp2
    go_ret
    exact ⟨ret_int HQ.o.symm, HF.o⟩
 ·have hz : rs = [] := List.eq_nil_of_length_eq_zero (by omega)
  subst hz
  rcases h.2 with ⟨rfl, _⟩ | ⟨g, cap, cur, rfl, _⟩
  all_goals
   clear h
   go_enter Tryz.func264, Tryz.ntmps264
   go_wp2_with fail
   go_loopg [5, 6, 12] 1 (fun m _ _ c wr => m = 1 /\ c = .int .i64 0 /\ wr = w)
   case atStart => exact ⟨rfl, rfl, rfl⟩
   case round =>
    obtain ⟨rfl, rfl, rfl⟩ := hrel
    clear hB
    go_wp2
    go_ret
    exact ⟨rfl, Fr.refl _ _⟩
end Go.Proofs.YtccikgogjfbpeabGreatDoor

namespace Go.Proofs.YtccikgogjfbpeabGreatDoor
open Go.RowKit
theorem placeFrom_range (nm : ByteArray) : ∀ (rs : List RouteM) (i : Nat), placeFrom nm i rs = -1 \/ ((i : Int) <= placeFrom nm i rs /\ placeFrom nm i rs < (i : Int) + rs.length)
 | [], _ => .inl rfl
 | r :: rs, i => by
  simp only [placeFrom]
  split
  ·right; simp; omega
  ·rcases placeFrom_range nm rs (i + 1) with h | h
   ·exact .inl h
   ·right
    simp at h ⊢
    omega
def plsFrom (rs : List RouteM) : Nat -> List Tk -> Except (Nat × Nat) (List Nat)
 | _, [] => .ok []
 | i, t :: r => if i = 4 then .error (6, t.line) else if placeFrom t.text 0 rs < 0 then .error (4, t.line) else
  match plsFrom rs (i + 1) r with
  | .error f => .error f
  | .ok ns => .ok ((placeFrom t.text 0 rs).toNat :: ns)
def plsMore (rs : List RouteM) (acc : List Nat) (i : Nat) (l : List Tk) : Except (Nat × Nat) (List Nat) :=
 match plsFrom rs i l with
 | .error f => .error f
 | .ok ns => .ok (acc ++ ns)
theorem plsMore_nil (rs : List RouteM) (acc : List Nat) (i : Nat) : plsMore rs acc i [] = .ok acc := by simp [plsMore, plsFrom]
theorem plsMore_many {rs : List RouteM} {acc : List Nat} {t : Tk} {r : List Tk} : plsMore rs acc 4 (t :: r) = .error (6, t.line) := by simp [plsMore, plsFrom]
theorem plsMore_bad {rs : List RouteM} {acc : List Nat} {i : Nat} {t : Tk} {r : List Tk} (h : i ≠ 4) (hv : placeFrom t.text 0 rs < 0) : plsMore rs acc i (t :: r) = .error (4, t.line) := by simp [plsMore, plsFrom, h, hv]
theorem plsMore_ok {rs : List RouteM} {acc : List Nat} {i : Nat} {t : Tk} {r : List Tk} (h : i ≠ 4) (hv : ¬ placeFrom t.text 0 rs < 0) : plsMore rs acc i (t :: r) = plsMore rs (acc ++ [(placeFrom t.text 0 rs).toNat]) (i + 1) r := by
 simp only [plsMore, plsFrom, if_neg h, if_neg hv]
 cases plsFrom rs (i + 1) r <;> simp
set_option maxRecDepth 30000 in
set_option maxHeartbeats 1000000 in
theorem places_any (w : World) (B base base2 : Nat) (v vr : Value) (ts : List Tk) (rs : List RouteM) (hB : w.cell? ⟨B, 0, none⟩ = some vr) (hrs : w.ownsRow base2 144 3 vr rs.length (rtRow rs)) (hr6 : rs.length <= 6)
  (h : w.ownsRow base 207 3 v ts.length (tkRow ts)) (hfew : ts.length <= 4000) :
  Calls Tryz.prog 272 #[.pointer (some ⟨B, 0, none⟩), v] w (NPost (plsFrom rs 0 ts) w) := by
 have HM : Hid (plsFrom rs 0 ts = plsMore rs [] 0 ts) := by show _ = _; unfold plsMore; cases plsFrom rs 0 ts <;> simp
 have hBl : B < w.heap.size := World.block_lt_of_cell? w _ hB
 have HP : Hid (∀ W nm, F0 w W -> Calls Tryz.prog 264 #[.pointer (some ⟨B, 0, none⟩), .string nm] W fun e w' => e = .returned (.int .i64 (placeFrom nm 0 rs)) /\ F0 W w') :=
  fun W nm hf => broute_any W B base2 vr rs nm (by rw [hf.cell (p := ⟨B, 0, none⟩) hBl (by simp)]; exact hB) (ownsRow_fr hrs hf (by simp)) hr6
 have H6 := hid hr6
 clear hB hrs hBl hr6
 obtain ⟨ii, hi, hz0, hz1, hz2⟩ := info_parts Tryz.infoInt
 by_cases hn : 0 < ts.length
 ·obtain ⟨g, cap, rfl, hb, hl, hrow⟩ := ownsRow_tok h hn
  have HR := hid hrow
  clear h hrow hn
  go_enter Tryz.func272, Tryz.ntmps272
  go_wp2_with fail
  go_loopg [5, 6, 7, 8, 11] ts.length (fun m o _ _ _ c wr => ∃ j acc, j <= ts.length /\ m = ts.length - j /\ c = .int .i64 j /\ Hid (wr.ownsRow w.heap.size 3 1 o acc.length (intRow acc)) /\ Hid (acc.length = j) /\ Hid (F0 w wr) /\ Hid (plsFrom rs 0 ts = plsMore rs acc j (ts.drop j)))
  case atStart => exact ⟨0, [], Nat.zero_le _, rfl, rfl, World.ownsRow_nil _ _ _ _, rfl, Fr.refl _ _, HM.o⟩
  case round =>
   obtain ⟨j, acc, hj, rfl, rfl, HO, HA, HF, HN⟩ := hrel
   by_cases hlt : j < ts.length
   ·obtain ⟨t, ht⟩ : ∃ t, ts[j]? = some t := ⟨_, List.getElem?_eq_getElem hlt⟩
    obtain ⟨r0, r1, r2⟩ := HR.o j t ht
    rw [<- HF.o.cell (p := ⟨g, j * 3, none⟩) hl (by simp)] at r0
    rw [<- HF.o.cell (p := ⟨g, j * 3 + 1, none⟩) hl (by simp)] at r1
    rw [<- HF.o.cell (p := ⟨g, j * 3 + 2, none⟩) hl (by simp)] at r2
    have hki : (j : Int) < (ts.length : Int) := by omega
    have hdrop : Hid (ts.drop j = t :: ts.drop (j + 1)) := drop_of ht
    clear ht
    by_cases h4 : j = 4
    ·have hne : ((j : Int) == 4) = true := by simp; omega
     have H4 := hid h4
     clear h4
     go_wp2_with fail
     refine (giveUp_any t 6 _ _ (by rfl)).mono ?_
     rintro e w3 ⟨he, hf⟩
     unfold faultE at he
     subst he
     exact ⟨rfl, (NPost.err (by rw [HN.o, hdrop.o, H4.o]; exact plsMore_many)).2 ⟨rfl, (HF.o.alloc _).trans hf⟩⟩
    ·have hne : ((j : Int) == 4) = false := by simp; omega
     have H4 := hid h4
     clear h4
     go_wp2_with fail
     refine (HP.o _ t.text (by exact HF.o.alloc _)).mono ?_
     rintro e w3 ⟨rfl, hf⟩
     have HF3 : Hid (F0 w w3) := (HF.o.alloc _).trans hf
     have HO3 : Hid (w3.ownsRow w.heap.size 3 1 u5 acc.length (intRow acc)) := ownsRow_fr (HO.o.alloc _) hf (by simp)
     have hT := hf.whole (heap_alloc_new wr (.cells #[.int .i64 t.sort, .string t.text, .int .i64 t.line] 207)) (by simp)
     clear r0 r1 r2 hf
     have t0 := block_cell hT 0 _ rfl
     have t1 := block_cell hT 1 _ rfl
     have t2 := block_cell hT 2 _ rfl
     clear hT
     have hpr := placeFrom_range t.text rs 0
     by_cases hv : placeFrom t.text 0 rs < 0
     ·have HQ : Hid (plsFrom rs 0 ts = .error (4, t.line)) := HN.o.trans (by rw [hdrop.o]; exact plsMore_bad H4.o hv)
      generalize placeFrom t.text 0 rs = q at *
      clear hpr
      go_wp2_with fail
      refine (giveUp_any t 4 _ _ (by rfl)).mono ?_
      rintro e w4 ⟨he, hf⟩
      unfold faultE at he
      subst he
      exact ⟨rfl, (NPost.err HQ.o).2 ⟨rfl, HF3.o.trans hf⟩⟩
     ·have HN3 : Hid (plsFrom rs 0 ts = plsMore rs (acc ++ [(placeFrom t.text 0 rs).toNat]) (j + 1) (ts.drop (j + 1))) := HN.o.trans (by rw [hdrop.o]; exact plsMore_ok H4.o hv)
      obtain ⟨n, hn⟩ : ∃ n : Nat, placeFrom t.text 0 rs = (n : Int) := ⟨(placeFrom t.text 0 rs).toNat, by omega⟩
      have hacc : acc.length <= ts.length := by have := HA.o; omega
      have hs3 := HF3.o.size
      clear hpr t0 t1 t2 hv
      rw [hn, Int.toNat_natCast] at HN3
      rw [hn]
      clear hn
      have hn0 : ¬ (n : Int) < 0 := by omega
      clear hne hki
      go_wp2_with (at_builtin; refine wpList_append_lies _ rfl (.tmp 28) (.tmp 30) 22 rfl w.heap.size 3 ii _ 1 8 Tryz.underlying22 hi hz0 hz1 hz2 rfl (by decide) u5 acc.length (intRow acc) rfl ?h1 ⟨w3.heap.size, 0, none⟩ 1 1 [.int .i64 n] rfl rfl ?h2 ?h3 (by decide) ?h4 ?h5 ?h6 _ rfl ?h7)
      case h1 => exact HO3.o.alloc _
      case h2 => exact World.news_of_block (heap_alloc_new w3 _)
      case h3 => simp [Value.oneCell']
      case h4 => unfold maxLen; omega
      case h5 => omega
      case h6 => simp; omega
      case h7 =>
       intro g2 cap2 w4 hown hgrow _ _
       have hrow : ∀ k, u5.ownBlock = some k -> w.heap.size <= k := fun k hk => (HO3.o.lt k hk).1
       have HO4 := hid hown
       have HF4 := hid ((HF3.o.alloc _).grown hgrow (fun k hk => Or.inr (hrow k hk)))
       clear hgrow hown hrow
       go_wp2
       go_roundg (ts.length - (j + 1))
       case measure => omega
       case rel =>
        refine ⟨j + 1, acc ++ [n], by omega, rfl, by go_num, ?_, ?_, HF4, HN3⟩
        ·show World.ownsRow _ _ _ _ _ _ _
         rw [intRow_snoc, List.length_append]; exact HO4.o
        ·show _ = _
         have := HA.o
         simp; omega
   ·have hki : ¬ (j : Int) < (ts.length : Int) := by omega
    have hfin : Hid (NPost (plsFrom rs 0 ts) w (.returned u5) wr) := by
     show NPost _ _ _ _
     refine (NPost.ok (ns := acc) ?_).2 ⟨⟨u5, rfl, HO.o⟩, HF.o⟩
     rw [HN.o, List.drop_of_length_le (by omega)]
     exact plsMore_nil _ _ _
    go_wp2
    go_ret
    exact hfin.o
 ·have hz : ts = [] := List.eq_nil_of_length_eq_zero (by omega)
  subst hz
  rcases h.2 with ⟨rfl, _⟩ | ⟨g, cap, cur, rfl, _⟩
  all_goals
   clear h
   go_enter Tryz.func272, Tryz.ntmps272
   go_wp2_with fail
   go_loopg [5, 6, 7, 8, 11] 1 (fun m o _ _ _ c wr => m = 1 /\ o = .slice none 0 0 /\ c = .int .i64 0 /\ wr = w)
   case atStart => exact ⟨rfl, rfl, rfl, rfl⟩
   case round =>
    obtain ⟨rfl, rfl, rfl, rfl⟩ := hrel
    go_wp2
    go_ret
    exact (NPost.ok (ns := []) rfl).2 ⟨⟨_, rfl, World.ownsRow_nil _ _ _ _⟩, Fr.refl _ _⟩
end Go.Proofs.YtccikgogjfbpeabGreatDoor
