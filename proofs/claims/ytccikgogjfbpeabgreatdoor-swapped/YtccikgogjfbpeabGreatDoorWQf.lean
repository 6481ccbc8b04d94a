/- The parser: rule. -/
import Derived.Test.YtccikgogjfbpeabGreatDoorWHa
import Derived.Test.YtccikgogjfbpeabGreatDoorWQe
import Derived.Deep.DeepCutAuto
namespace Go.Proofs.YtccikgogjfbpeabGreatDoor
open Go.RowKit
def zero24 : Array Value := #[.int .i64 0, .string ⟨#[]⟩, .int .i64 0, .int .i64 0, .string ⟨#[]⟩, .int .i64 0, .int .i64 0, .string ⟨#[]⟩, .int .i64 0, .int .i64 0, .string ⟨#[]⟩, .int .i64 0, .slice none 0 0, .slice none 0 0, .bool false, .int .i64 0, .string ⟨#[]⟩, .int .i64 0, .int .i64 0, .string ⟨#[]⟩, .int .i64 0, .bool false, .bool false, .slice none 0 0]
def amC (am : Option (Tk × Tk)) (j : Nat) : Value :=
 match am with
 | some (a, b) => match j with | 0 => .int .i64 a.sort | 1 => .string a.text | 2 => .int .i64 a.line | 3 => .int .i64 b.sort | 4 => .string b.text | _ => .int .i64 b.line
 | none => match j with | 0 => .int .i64 0 | 1 => .string ⟨#[]⟩ | 2 => .int .i64 0 | 3 => .int .i64 0 | 4 => .string ⟨#[]⟩ | _ => .int .i64 0
def ruleV (r : RuleE) (vm vc vr : Value) : Value := .agg #[.int .i64 r.name.sort, .string r.name.text, .int .i64 r.name.line, .int .i64 r.rank.sort, .string r.rank.text, .int .i64 r.rank.line, .int .i64 r.bin.1.sort, .string r.bin.1.text, .int .i64 r.bin.1.line, .int .i64 r.bin.2.sort, .string r.bin.2.text, .int .i64 r.bin.2.line, vm, vc, .bool r.amount.isSome, amC r.amount 0, amC r.amount 1, amC r.amount 2, amC r.amount 3, amC r.amount 4, amC r.amount 5, .bool r.act.decline, .bool r.act.cheapest, vr]
def put6 (w : World) (g j : Nat) (t u : Tk) : World := put3 (put3 w g j t) g (j + 3) u
theorem put6_fr (w : World) (g j : Nat) (t u : Tk) : Fr (fun k => k = g) w (put6 w g j t u) := (put3_fr _ _ _ _).trans (put3_fr _ _ _ _)
theorem setCells_fr (b : Nat) : ∀ (vs : List Value) (o : Nat) (w : World), Fr (fun k => k = b) w (w.setCells b o vs)
 | [], _, w => Fr.refl _ w
 | v :: r, o, w => ((Fr.refl (fun k => k = b) w).setCell (p := ⟨b, o, none⟩) (Or.inl rfl) v).trans (setCells_fr b r (o + 1) _)
def setFrom : Array Value -> Nat -> List Value -> Array Value
 | cs, _, [] => cs
 | cs, o, v :: r => setFrom (cs.setIfInBounds o v) (o + 1) r
theorem setCells_from {b : Nat} {t : TypeId} : ∀ (vs : List Value) (o : Nat) (w : World) (cs : Array Value), w.heap[b]? = some (.cells cs t) -> (w.setCells b o vs).heap[b]? = some (.cells (setFrom cs o vs) t)
 | [], _, _, _, h => h
 | v :: r, o, _, _, h => setCells_from r (o + 1) _ _ (heap_set h o v)
theorem setFrom_toList : ∀ (vs : List Value) (o : Nat) (cs : Array Value), o + vs.length = cs.size -> (setFrom cs o vs).toList = cs.toList.take o ++ vs
 | [], o, cs, h => by
  simp at h
  rw [setFrom, List.append_nil, List.take_of_length_le (by simp; omega)]
 | v :: r, o, cs, h => by
  simp at h
  rw [setFrom, setFrom_toList r (o + 1) _ (by simp; omega)]
  have hlt : o < cs.toList.length := by simp; omega
  have ht : List.take o (cs.toList.set o v) = List.take o cs.toList := by
   apply List.ext_getElem?
   intro k
   rw [List.getElem?_take, List.getElem?_take]
   by_cases hk : k < o
   ·rw [if_pos hk, if_pos hk, List.getElem?_set_ne (by omega)]
   ·rw [if_neg hk, if_neg hk]
  rw [Array.toList_setIfInBounds, List.take_add_one, List.getElem?_set_self hlt, ht]
  simp
theorem setCells_heap {w : World} {b : Nat} {t : TypeId} {cs vs : Array Value} (h : w.heap[b]? = some (.cells cs t)) (hs : vs.size = cs.size) : (w.setCells b 0 vs.toList).heap[b]? = some (.cells vs t) := by
 rw [setCells_from vs.toList 0 w cs h]
 congr 2
 apply Array.ext'
 rw [setFrom_toList _ _ _ (by simp [hs])]
 simp
theorem there_block {w : World} {b n : Nat} {t : TypeId} {cs : Array Value} (h : w.heap[b]? = some (.cells cs t)) (hs : cs.size = n) : w.there b 0 n := fun j hj => by
 rw [Nat.zero_add]
 refine ⟨?_, block_frozen h j⟩
 rw [cell_of_row w b j cs t (0, 0) h, Array.getElem?_eq_getElem (by omega)]
 rfl
structure RuSt (w wc : World) (p g cap : Nat) (ts : List Tk) (i : Nat) (cs : Array Value) (vm : Value) (lm : List Tk) (vc : Value) (lc : List Tk) : Prop where
 pa : Pa wc p g cap ts i
 fr : Fr (fun k => k = p) w wc
 hr : wc.heap[w.heap.size]? = some (.cells zero24 238)
 he : wc.heap[w.heap.size + 1]? = some (.cells cs 238)
 rm : wc.ownsRow (w.heap.size + 2) 207 3 vm lm.length (tkRow lm)
 rc : wc.ownsRow (w.heap.size + 2) 207 3 vc lc.length (tkRow lc)
 pl : p < w.heap.size
 gl : g < w.heap.size
section
variable {w wc wd : World} {p g cap : Nat} {ts : List Tk} {i i' : Nat} {cs : Array Value} {vm : Value} {lm : List Tk} {vc : Value} {lc : List Tk}
theorem RuSt.size (h : RuSt w wc p g cap ts i cs vm lm vc lc) : w.heap.size + 2 <= wc.heap.size := (Array.getElem?_eq_some_iff.1 h.he).1
theorem RuSt.step (h : RuSt w wc p g cap ts i cs vm lm vc lc) (hp : Pa wd p g cap ts i') (hf : Fr (fun k => k = p) wc wd) : RuSt w wd p g cap ts i' cs vm lm vc lc :=
 have hpl := h.pl
 ⟨hp, h.fr.trans hf, hf.whole h.hr (by omega), hf.whole h.he (by omega), ownsRow_fr h.rm hf (fun k hk => by omega), ownsRow_fr h.rc hf (fun k hk => by omega), h.pl, h.gl⟩
theorem RuSt.write {cs' : Array Value} (h : RuSt w wc p g cap ts i cs vm lm vc lc) (hf : Fr (fun k => k = w.heap.size + 1) wc wd) (he : wd.heap[w.heap.size + 1]? = some (.cells cs' 238)) : RuSt w wd p g cap ts i cs' vm lm vc lc :=
 have hpl := h.pl
 have hgl := h.gl
 ⟨h.pa.fr hf (fun k hk => by omega), h.fr.monoNew hf (fun k hk => by omega), hf.whole h.hr (by omega), he, ownsRow_fr h.rm hf (fun k hk => by omega), ownsRow_fr h.rc hf (fun k hk => by omega), h.pl, h.gl⟩
theorem RuSt.mcc {v : Value} {l : List Tk} (h : RuSt w wc p g cap ts i cs vm lm vc lc) (ho : wc.ownsRow (w.heap.size + 2) 207 3 v l.length (tkRow l)) : RuSt w wc p g cap ts i cs v l vc lc := ⟨h.pa, h.fr, h.hr, h.he, ho, h.rc, h.pl, h.gl⟩
theorem RuSt.cur {v : Value} {l : List Tk} (h : RuSt w wc p g cap ts i cs vm lm vc lc) (ho : wc.ownsRow (w.heap.size + 2) 207 3 v l.length (tkRow l)) : RuSt w wc p g cap ts i cs vm lm v l := ⟨h.pa, h.fr, h.hr, h.he, h.rm, ho, h.pl, h.gl⟩
end
theorem ruSt_new {w : World} {p g cap : Nat} {ts : List Tk} {i : Nat} (h : Pa w p g cap ts i) :
  RuSt w ((w.alloc (.cells zero24 238)).alloc (.cells zero24 238)) p g cap ts i zero24 (.slice none 0 0) [] (.slice none 0 0) [] :=
 ⟨h.fr (S := fun _ => False) (((Fr.refl _ _).alloc _).alloc _) (by simp), ((Fr.refl _ _).alloc _).alloc _, ((Fr.refl (fun _ => False) _).alloc _).whole (heap_alloc_new w _) (by simp), heap_alloc_two w _ _,
  World.ownsRow_nil _ _ _ _, World.ownsRow_nil _ _ _ _, World.block_lt_of_cell? w _ h.c0, h.gl⟩
set_option maxHeartbeats 2000000 in
theorem rule_any (w : World) (p g cap : Nat) (ts : List Tk) (i : Nat) (h : Pa w p g cap ts i) :
  Calls Tryz.prog 147 #[.pointer (some ⟨p, 0, none⟩)] w (PPost (ruleM ts i) (fun r v w' => ∃ vm vc vr, v = ruleV r vm vc vr /\ w'.ownsRow w.heap.size 207 3 vm r.mcc.length (tkRow r.mcc) /\ w'.ownsRow w.heap.size 207 3 vc r.cur.length (tkRow r.cur) /\ w'.ownsRow w.heap.size 207 3 vr r.act.routes.length (tkRow r.act.routes)) w p g cap ts) := by
 have HS0 : Hid (RuSt w ((w.alloc (.cells zero24 238)).alloc (.cells zero24 238)) p g cap ts i zero24 (.slice none 0 0) [] (.slice none 0 0) []) := ruSt_new h
 have hpl : p < w.heap.size := World.block_lt_of_cell? w _ h.c0
 clear h
 go_enter Tryz.func147, Tryz.ntmps147
 go_wp2_with fail
 refine (take_any _ p g cap ts i 0 _ HS0.o.pa (by decide) (by rfl)).mono ?_
 intro e w1 hT
 cases hM : takeM ts i 0 with
 | error l =>
  obtain ⟨he, hf⟩ := (PPost.err hM).1 hT
  unfold faultE at he
  subst he
  exact ⟨rfl, (PPost.err (by unfold ruleM; rw [bindM_err hM])).2 ⟨rfl, HS0.o.fr.trans hf⟩⟩
 | ok r =>
  obtain ⟨a, i1⟩ := r
  obtain ⟨⟨v, rfl, rfl⟩, hp, hf⟩ := (PPost.ok hM).1 hT
  have hA := hid hM
  have HS1 : Hid (RuSt w w1 p g cap ts i1 zero24 (.slice none 0 0) [] (.slice none 0 0) []) := HS0.o.step hp hf
  have e0 := block_cell HS1.o.he 0 _ rfl
  have e1 := block_cell HS1.o.he 1 _ rfl
  have e2 := block_cell HS1.o.he 2 _ rfl
  have ef := block_frozen HS1.o.he
  clear hM hT hp hf HS0
  simp only [tkV]
  go_wp2_with fail
  clear e0 e1 e2 ef
  change Calls _ _ _ (put3 w1 (w.heap.size + 1) 0 a) _
  have HS2 : Hid (RuSt w (put3 w1 (w.heap.size + 1) 0 a) p g cap ts i1 #[.int .i64 a.sort, .string a.text, .int .i64 a.line, .int .i64 0, .string ⟨#[]⟩, .int .i64 0, .int .i64 0, .string ⟨#[]⟩, .int .i64 0, .int .i64 0, .string ⟨#[]⟩, .int .i64 0, .slice none 0 0, .slice none 0 0, .bool false, .int .i64 0, .string ⟨#[]⟩, .int .i64 0, .int .i64 0, .string ⟨#[]⟩, .int .i64 0, .bool false, .bool false, .slice none 0 0] (.slice none 0 0) [] (.slice none 0 0) []) := HS1.o.write (put3_fr _ _ _ _) (put3_heap HS1.o.he 0 a)
  clear HS1
  generalize put3 w1 (w.heap.size + 1) 0 a = w2 at *
  refine (take_any _ p g cap ts i1 1 _ HS2.o.pa (by decide) (by rfl)).mono ?_
  intro e w3 hT
  cases hM : takeM ts i1 1 with
  | error l =>
   obtain ⟨he, hf⟩ := (PPost.err hM).1 hT
   unfold faultE at he
   subst he
   exact ⟨rfl, (PPost.err (by unfold ruleM; rw [bindM_ok hA.o, bindM_err hM])).2 ⟨rfl, HS2.o.fr.trans hf⟩⟩
  | ok r =>
   obtain ⟨b, i2⟩ := r
   obtain ⟨⟨v, rfl, rfl⟩, hp, hf⟩ := (PPost.ok hM).1 hT
   have hB := hid hM
   have HS3 : Hid (RuSt w w3 p g cap ts i2 #[.int .i64 a.sort, .string a.text, .int .i64 a.line, .int .i64 0, .string ⟨#[]⟩, .int .i64 0, .int .i64 0, .string ⟨#[]⟩, .int .i64 0, .int .i64 0, .string ⟨#[]⟩, .int .i64 0, .slice none 0 0, .slice none 0 0, .bool false, .int .i64 0, .string ⟨#[]⟩, .int .i64 0, .int .i64 0, .string ⟨#[]⟩, .int .i64 0, .bool false, .bool false, .slice none 0 0] (.slice none 0 0) [] (.slice none 0 0) []) := HS2.o.step hp hf
   have e3 := block_cell HS3.o.he 3 _ rfl
   have e4 := block_cell HS3.o.he 4 _ rfl
   have e5 := block_cell HS3.o.he 5 _ rfl
   have ef := block_frozen HS3.o.he
   clear hM hT hp hf HS2
   simp only [tkV]
   go_wp2_with fail
   clear e3 e4 e5 ef
   change Calls _ _ _ (put3 w3 (w.heap.size + 1) 3 b) _
   have HS4 : Hid (RuSt w (put3 w3 (w.heap.size + 1) 3 b) p g cap ts i2 #[.int .i64 a.sort, .string a.text, .int .i64 a.line, .int .i64 b.sort, .string b.text, .int .i64 b.line, .int .i64 0, .string ⟨#[]⟩, .int .i64 0, .int .i64 0, .string ⟨#[]⟩, .int .i64 0, .slice none 0 0, .slice none 0 0, .bool false, .int .i64 0, .string ⟨#[]⟩, .int .i64 0, .int .i64 0, .string ⟨#[]⟩, .int .i64 0, .bool false, .bool false, .slice none 0 0] (.slice none 0 0) [] (.slice none 0 0) []) := HS3.o.write (put3_fr _ _ _ _) (put3_heap HS3.o.he 3 b)
   clear HS3
   generalize put3 w3 (w.heap.size + 1) 3 b = w4 at *
   refine (expect_any _ p g cap ts i2 mColon HS4.o.pa).mono ?_
   intro e w5 hT
   cases hM : expectM ts i2 mColon with
   | error l =>
    obtain ⟨he, hf⟩ := (PPost.err hM).1 hT
    unfold faultE at he
    subst he
    exact ⟨rfl, (PPost.err (by unfold ruleM; rw [bindM_ok hA.o, bindM_ok hB.o, bindM_err hM])).2 ⟨rfl, HS4.o.fr.trans hf⟩⟩
   | ok r =>
    obtain ⟨u1, i3⟩ := r
    obtain ⟨⟨v, rfl, rfl⟩, hp, hf⟩ := (PPost.ok hM).1 hT
    have hC := hid hM
    have HS5 : Hid (RuSt w w5 p g cap ts i3 #[.int .i64 a.sort, .string a.text, .int .i64 a.line, .int .i64 b.sort, .string b.text, .int .i64 b.line, .int .i64 0, .string ⟨#[]⟩, .int .i64 0, .int .i64 0, .string ⟨#[]⟩, .int .i64 0, .slice none 0 0, .slice none 0 0, .bool false, .int .i64 0, .string ⟨#[]⟩, .int .i64 0, .int .i64 0, .string ⟨#[]⟩, .int .i64 0, .bool false, .bool false, .slice none 0 0] (.slice none 0 0) [] (.slice none 0 0) []) := HS4.o.step hp hf
    clear hM hT hp hf HS4
    go_wp2_with fail
    refine (expect_any _ p g cap ts i3 kwBin HS5.o.pa).mono ?_
    intro e w6 hT
    cases hM : expectM ts i3 kwBin with
    | error l =>
     obtain ⟨he, hf⟩ := (PPost.err hM).1 hT
     unfold faultE at he
     subst he
     exact ⟨rfl, (PPost.err (by unfold ruleM; rw [bindM_ok hA.o, bindM_ok hB.o, bindM_ok hC.o, bindM_err hM])).2 ⟨rfl, HS5.o.fr.trans hf⟩⟩
    | ok r =>
     obtain ⟨u2, i4⟩ := r
     obtain ⟨⟨v, rfl, rfl⟩, hp, hf⟩ := (PPost.ok hM).1 hT
     have hD := hid hM
     have HS6 : Hid (RuSt w w6 p g cap ts i4 #[.int .i64 a.sort, .string a.text, .int .i64 a.line, .int .i64 b.sort, .string b.text, .int .i64 b.line, .int .i64 0, .string ⟨#[]⟩, .int .i64 0, .int .i64 0, .string ⟨#[]⟩, .int .i64 0, .slice none 0 0, .slice none 0 0, .bool false, .int .i64 0, .string ⟨#[]⟩, .int .i64 0, .int .i64 0, .string ⟨#[]⟩, .int .i64 0, .bool false, .bool false, .slice none 0 0] (.slice none 0 0) [] (.slice none 0 0) []) := HS5.o.step hp hf
     clear hM hT hp hf HS5
     go_wp2_with fail
     refine (pair_any _ p g cap ts i4 HS6.o.pa).mono ?_
     intro e w7 hT
     cases hM : pairM ts i4 with
     | error l =>
      obtain ⟨he, hf⟩ := (PPost.err hM).1 hT
      unfold faultE at he
      subst he
      exact ⟨rfl, (PPost.err (by unfold ruleM; rw [bindM_ok hA.o, bindM_ok hB.o, bindM_ok hC.o, bindM_ok hD.o, bindM_err hM])).2 ⟨rfl, HS6.o.fr.trans hf⟩⟩
     | ok r =>
      obtain ⟨⟨c, d⟩, i5⟩ := r
      obtain ⟨⟨v, rfl, rfl⟩, hp, hf⟩ := (PPost.ok hM).1 hT
      have hE := hid hM
      have HS7 : Hid (RuSt w w7 p g cap ts i5 #[.int .i64 a.sort, .string a.text, .int .i64 a.line, .int .i64 b.sort, .string b.text, .int .i64 b.line, .int .i64 0, .string ⟨#[]⟩, .int .i64 0, .int .i64 0, .string ⟨#[]⟩, .int .i64 0, .slice none 0 0, .slice none 0 0, .bool false, .int .i64 0, .string ⟨#[]⟩, .int .i64 0, .int .i64 0, .string ⟨#[]⟩, .int .i64 0, .bool false, .bool false, .slice none 0 0] (.slice none 0 0) [] (.slice none 0 0) []) := HS6.o.step hp hf
      have e6 := block_cell HS7.o.he 6 _ rfl
      have e7 := block_cell HS7.o.he 7 _ rfl
      have e8 := block_cell HS7.o.he 8 _ rfl
      have e9 := block_cell HS7.o.he 9 _ rfl
      have e10 := block_cell HS7.o.he 10 _ rfl
      have e11 := block_cell HS7.o.he 11 _ rfl
      have ef := block_frozen HS7.o.he
      clear hM hT hp hf HS6
      simp only [pairV]
      go_wp2_with fail
      clear e6 e7 e8 e9 e10 e11 ef
      change Calls _ _ _ (put6 w7 (w.heap.size + 1) 6 c d) _
      have HS8 : Hid (RuSt w (put6 w7 (w.heap.size + 1) 6 c d) p g cap ts i5 #[.int .i64 a.sort, .string a.text, .int .i64 a.line, .int .i64 b.sort, .string b.text, .int .i64 b.line, .int .i64 c.sort, .string c.text, .int .i64 c.line, .int .i64 d.sort, .string d.text, .int .i64 d.line, .slice none 0 0, .slice none 0 0, .bool false, .int .i64 0, .string ⟨#[]⟩, .int .i64 0, .int .i64 0, .string ⟨#[]⟩, .int .i64 0, .bool false, .bool false, .slice none 0 0] (.slice none 0 0) [] (.slice none 0 0) []) := HS7.o.write (put6_fr _ _ _ _ _) (put3_heap (put3_heap HS7.o.he 6 c) 9 d)
      clear HS7
      generalize put6 w7 (w.heap.size + 1) 6 c d = w8 at *
      refine (skip_any _ p g cap ts i5 kwMcc HS8.o.pa).mono ?_
      rintro e w9 ⟨rfl, hp, hf⟩
      have HS9 : Hid (RuSt w w9 p g cap ts _ #[.int .i64 a.sort, .string a.text, .int .i64 a.line, .int .i64 b.sort, .string b.text, .int .i64 b.line, .int .i64 c.sort, .string c.text, .int .i64 c.line, .int .i64 d.sort, .string d.text, .int .i64 d.line, .slice none 0 0, .slice none 0 0, .bool false, .int .i64 0, .string ⟨#[]⟩, .int .i64 0, .int .i64 0, .string ⟨#[]⟩, .int .i64 0, .bool false, .bool false, .slice none 0 0] (.slice none 0 0) [] (.slice none 0 0) []) := HS8.o.step hp hf
      have hO : Hid (optList ts i5 kwMcc = if isFix (tkAt ts i5) kwMcc = true then listM ts (if isFix (tkAt ts i5) kwMcc = true then i5 + 1 else i5) 1 else .ok ([], (if isFix (tkAt ts i5) kwMcc = true then i5 + 1 else i5))) := by
       show _ = _
       unfold optList
       cases isFix (tkAt ts i5) kwMcc <;> rfl
      clear hp hf HS8
      generalize isFix (tkAt ts i5) kwMcc = q at *
      generalize (if q = true then i5 + 1 else i5) = i6 at *
      go_upto_if 18 with fail
      go_cut [] (fun wc => ∃ vm lm j, Hid (optList ts i5 kwMcc = .ok (lm, j)) /\ Hid (RuSt w wc p g cap ts j #[.int .i64 a.sort, .string a.text, .int .i64 a.line, .int .i64 b.sort, .string b.text, .int .i64 b.line, .int .i64 c.sort, .string c.text, .int .i64 c.line, .int .i64 d.sort, .string d.text, .int .i64 d.line, vm, .slice none 0 0, .bool false, .int .i64 0, .string ⟨#[]⟩, .int .i64 0, .int .i64 0, .string ⟨#[]⟩, .int .i64 0, .bool false, .bool false, .slice none 0 0] vm lm (.slice none 0 0) []))
      case first =>
       cases q with
       | false =>
        go_wp2_with fail
        go_meet
        case rel => exact ⟨.slice none 0 0, [], i6, hO.o, HS9.o⟩
       | true =>
        go_wp2_with fail
        refine (list_any _ p g cap ts i6 1 _ HS9.o.pa (by decide) (by rfl)).mono ?_
        intro e w10 hT
        cases hM : listM ts i6 1 with
        | error l =>
         obtain ⟨he, hf⟩ := (PPost.err hM).1 hT
         unfold faultE at he
         subst he
         exact ⟨rfl, (PPost.err (by unfold ruleM; rw [bindM_ok hA.o, bindM_ok hB.o, bindM_ok hC.o, bindM_ok hD.o, bindM_ok hE.o, bindM_err (hO.o.trans hM)])).2 ⟨rfl, HS9.o.fr.trans hf⟩⟩
        | ok r =>
         obtain ⟨l, i7⟩ := r
         obtain ⟨⟨v, rfl, hown⟩, hp, hf⟩ := (PPost.ok hM).1 hT
         obtain ⟨va, vn, vk, rfl⟩ := ownsRow_slice hown
         have HS10 : Hid (RuSt w w10 p g cap ts i7 _ _ l _ []) := (HS9.o.step hp hf).mcc (ownsRow_base hown HS9.o.size)
         have hL : Hid (optList ts i5 kwMcc = .ok (l, i7)) := hO.o.trans hM
         have e12 := block_cell HS10.o.he 12 _ rfl
         have ef := block_frozen HS10.o.he
         clear hM hT hp hf hown HS9
         go_wp2_with fail
         go_meet
         case rel => exact ⟨.slice va vn vk, l, i7, hL.o, HS10.o.write ((Fr.refl (fun k => k = w.heap.size + 1) _).setCell (p := ⟨w.heap.size + 1, 12, none⟩) (Or.inl rfl) _) (heap_set HS10.o.he 12 _)⟩
      case rest =>
       obtain ⟨vm, lm, j6, hF, HS11⟩ := hcut
       rename World => wA
       clear HS9 hO
       go_wp2_with fail
       refine (skip_any _ p g cap ts j6 kwAmount HS11.o.pa).mono ?_
       rintro e w12 ⟨rfl, hp, hf⟩
       have HS12 : Hid (RuSt w w12 p g cap ts _ _ vm lm _ []) := HS11.o.step hp hf
       have hO : Hid (optPair ts j6 kwAmount = if isFix (tkAt ts j6) kwAmount = true then bindM (pairM ts (if isFix (tkAt ts j6) kwAmount = true then j6 + 1 else j6)) (fun ab i => .ok (some ab, i)) else .ok (none, (if isFix (tkAt ts j6) kwAmount = true then j6 + 1 else j6))) := by
        show _ = _
        unfold optPair
        cases isFix (tkAt ts j6) kwAmount <;> rfl
       clear hp hf HS11
       generalize isFix (tkAt ts j6) kwAmount = q2 at *
       generalize (if q2 = true then j6 + 1 else j6) = i8 at *
       go_upto_if 23 with fail
       go_cut [] (fun wc => ∃ am j, Hid (optPair ts j6 kwAmount = .ok (am, j)) /\ Hid (RuSt w wc p g cap ts j #[.int .i64 a.sort, .string a.text, .int .i64 a.line, .int .i64 b.sort, .string b.text, .int .i64 b.line, .int .i64 c.sort, .string c.text, .int .i64 c.line, .int .i64 d.sort, .string d.text, .int .i64 d.line, vm, .slice none 0 0, .bool am.isSome, amC am 0, amC am 1, amC am 2, amC am 3, amC am 4, amC am 5, .bool false, .bool false, .slice none 0 0] vm lm (.slice none 0 0) []))
       case first =>
        cases q2 with
        | false =>
         go_wp2_with fail
         go_meet
         case rel => exact ⟨none, i8, hO.o, HS12.o⟩
        | true =>
         have e14 := block_cell HS12.o.he 14 _ rfl
         have ef := block_frozen HS12.o.he
         go_wp2_with fail
         clear e14 ef
         have HS13 : Hid (RuSt w (w12.setCell ⟨w.heap.size + 1, 14, none⟩ (.bool true)) p g cap ts i8 #[.int .i64 a.sort, .string a.text, .int .i64 a.line, .int .i64 b.sort, .string b.text, .int .i64 b.line, .int .i64 c.sort, .string c.text, .int .i64 c.line, .int .i64 d.sort, .string d.text, .int .i64 d.line, vm, .slice none 0 0, .bool true, .int .i64 0, .string ⟨#[]⟩, .int .i64 0, .int .i64 0, .string ⟨#[]⟩, .int .i64 0, .bool false, .bool false, .slice none 0 0] vm lm (.slice none 0 0) []) := HS12.o.write ((Fr.refl (fun k => k = w.heap.size + 1) _).setCell (p := ⟨w.heap.size + 1, 14, none⟩) (Or.inl rfl) _) (heap_set HS12.o.he 14 _)
         clear HS12
         generalize w12.setCell ⟨w.heap.size + 1, 14, none⟩ (.bool true) = w13 at *
         refine (pair_any _ p g cap ts i8 HS13.o.pa).mono ?_
         intro e w14 hT
         cases hM : pairM ts i8 with
         | error l =>
          obtain ⟨he, hf⟩ := (PPost.err hM).1 hT
          unfold faultE at he
          subst he
          exact ⟨rfl, (PPost.err (by unfold ruleM; rw [bindM_ok hA.o, bindM_ok hB.o, bindM_ok hC.o, bindM_ok hD.o, bindM_ok hE.o, bindM_ok hF.o, bindM_err (hO.o.trans (bindM_err hM))])).2 ⟨rfl, HS13.o.fr.trans hf⟩⟩
         | ok r =>
          obtain ⟨⟨m, n⟩, i9⟩ := r
          obtain ⟨⟨v, rfl, rfl⟩, hp, hf⟩ := (PPost.ok hM).1 hT
          have HS14 : Hid (RuSt w w14 p g cap ts i9 _ vm lm _ []) := HS13.o.step hp hf
          have hL : Hid (optPair ts j6 kwAmount = .ok (some (m, n), i9)) := hO.o.trans (bindM_ok hM)
          have e15 := block_cell HS14.o.he 15 _ rfl
          have e16 := block_cell HS14.o.he 16 _ rfl
          have e17 := block_cell HS14.o.he 17 _ rfl
          have e18 := block_cell HS14.o.he 18 _ rfl
          have e19 := block_cell HS14.o.he 19 _ rfl
          have e20 := block_cell HS14.o.he 20 _ rfl
          have ef := block_frozen HS14.o.he
          clear hM hT hp hf HS13
          simp only [pairV]
          go_wp2_with fail
          go_meet
          case rel => exact ⟨some (m, n), i9, hL.o, HS14.o.write (put6_fr w14 (w.heap.size + 1) 15 m n) (put3_heap (put3_heap HS14.o.he 15 m) 18 n)⟩
       case rest =>
        obtain ⟨am, j8, hG, HS15⟩ := hcut
        rename World => wB
        clear HS12 hO
        go_wp2_with fail
        refine (skip_any _ p g cap ts j8 kwCur HS15.o.pa).mono ?_
        rintro e w16 ⟨rfl, hp, hf⟩
        have HS16 : Hid (RuSt w w16 p g cap ts _ _ vm lm _ []) := HS15.o.step hp hf
        have hO : Hid (optList ts j8 kwCur = if isFix (tkAt ts j8) kwCur = true then listM ts (if isFix (tkAt ts j8) kwCur = true then j8 + 1 else j8) 1 else .ok ([], (if isFix (tkAt ts j8) kwCur = true then j8 + 1 else j8))) := by
         show _ = _
         unfold optList
         cases isFix (tkAt ts j8) kwCur <;> rfl
        clear hp hf HS15
        generalize isFix (tkAt ts j8) kwCur = q3 at *
        generalize (if q3 = true then j8 + 1 else j8) = i10 at *
        go_upto_if 29 with fail
        go_cut [] (fun wc => ∃ vc lc j, Hid (optList ts j8 kwCur = .ok (lc, j)) /\ Hid (RuSt w wc p g cap ts j #[.int .i64 a.sort, .string a.text, .int .i64 a.line, .int .i64 b.sort, .string b.text, .int .i64 b.line, .int .i64 c.sort, .string c.text, .int .i64 c.line, .int .i64 d.sort, .string d.text, .int .i64 d.line, vm, vc, .bool am.isSome, amC am 0, amC am 1, amC am 2, amC am 3, amC am 4, amC am 5, .bool false, .bool false, .slice none 0 0] vm lm vc lc))
        case first =>
         cases q3 with
         | false =>
          go_wp2_with fail
          go_meet
          case rel => exact ⟨.slice none 0 0, [], i10, hO.o, HS16.o⟩
         | true =>
          go_wp2_with fail
          refine (list_any _ p g cap ts i10 1 _ HS16.o.pa (by decide) (by rfl)).mono ?_
          intro e w17 hT
          cases hM : listM ts i10 1 with
          | error l =>
           obtain ⟨he, hf⟩ := (PPost.err hM).1 hT
           unfold faultE at he
           subst he
           exact ⟨rfl, (PPost.err (by unfold ruleM; rw [bindM_ok hA.o, bindM_ok hB.o, bindM_ok hC.o, bindM_ok hD.o, bindM_ok hE.o, bindM_ok hF.o, bindM_ok hG.o, bindM_err (hO.o.trans hM)])).2 ⟨rfl, HS16.o.fr.trans hf⟩⟩
          | ok r =>
           obtain ⟨l, i11⟩ := r
           obtain ⟨⟨v, rfl, hown⟩, hp, hf⟩ := (PPost.ok hM).1 hT
           obtain ⟨va, vn, vk, rfl⟩ := ownsRow_slice hown
           have HS17 : Hid (RuSt w w17 p g cap ts i11 _ vm lm _ l) := (HS16.o.step hp hf).cur (ownsRow_base hown HS16.o.size)
           have hL : Hid (optList ts j8 kwCur = .ok (l, i11)) := hO.o.trans hM
           have e13 := block_cell HS17.o.he 13 _ rfl
           have ef := block_frozen HS17.o.he
           clear hM hT hp hf hown HS16
           go_wp2_with fail
           go_meet
           case rel => exact ⟨.slice va vn vk, l, i11, hL.o, HS17.o.write ((Fr.refl (fun k => k = w.heap.size + 1) _).setCell (p := ⟨w.heap.size + 1, 13, none⟩) (Or.inl rfl) _) (heap_set HS17.o.he 13 _)⟩
        case rest =>
         obtain ⟨vc, lc, j10, hH, HS18⟩ := hcut
         rename World => wD
         clear HS16 hO
         go_wp2_with fail
         refine (expect_any _ p g cap ts j10 mArrow HS18.o.pa).mono ?_
         intro e w19 hT
         cases hM : expectM ts j10 mArrow with
         | error l =>
          obtain ⟨he, hf⟩ := (PPost.err hM).1 hT
          unfold faultE at he
          subst he
          exact ⟨rfl, (PPost.err (by unfold ruleM; rw [bindM_ok hA.o, bindM_ok hB.o, bindM_ok hC.o, bindM_ok hD.o, bindM_ok hE.o, bindM_ok hF.o, bindM_ok hG.o, bindM_ok hH.o, bindM_err hM])).2 ⟨rfl, HS18.o.fr.trans hf⟩⟩
         | ok r =>
          obtain ⟨u3, i12⟩ := r
          obtain ⟨⟨v, rfl, rfl⟩, hp, hf⟩ := (PPost.ok hM).1 hT
          have hI := hid hM
          have HS19 : Hid (RuSt w w19 p g cap ts i12 _ vm lm vc lc) := HS18.o.step hp hf
          clear hM hT hp hf HS18
          have hpl' := HS19.o.pl
          have hgl' := HS19.o.gl
          go_wp2_with fail
          refine (action_any _ p g cap ts i12 (w.heap.size + 1) _ HS19.o.pa HS19.o.he (by omega) (by omega) rfl rfl rfl).mono ?_
          intro e w20 hT
          cases hM : actionM ts i12 with
          | error l =>
           obtain ⟨he, hf⟩ := (APost.err hM).1 hT
           unfold faultE at he
           subst he
           exact ⟨rfl, (PPost.err (by unfold ruleM; rw [bindM_ok hA.o, bindM_ok hB.o, bindM_ok hC.o, bindM_ok hD.o, bindM_ok hE.o, bindM_ok hF.o, bindM_ok hG.o, bindM_ok hH.o, bindM_ok hI.o, bindM_err hM])).2 ⟨rfl, HS19.o.fr.monoNew hf (fun k hk => by omega)⟩⟩
          | ok r =>
           obtain ⟨act, i13⟩ := r
           obtain ⟨rfl, ⟨vr, hE', hown⟩, hp, hf⟩ := (APost.ok hM).1 hT
           have hJ := hid hM
           have HPz := hid hp
           have HFz : Hid (Fr (fun k => k = p) w w20) := HS19.o.fr.monoNew hf (fun k hk => by omega)
           have HM : Hid (w20.ownsRow (w.heap.size + 2) 207 3 vm lm.length (tkRow lm)) := ownsRow_fr HS19.o.rm hf (fun k hk => by omega)
           have HC : Hid (w20.ownsRow (w.heap.size + 2) 207 3 vc lc.length (tkRow lc)) := ownsRow_fr HS19.o.rc hf (fun k hk => by omega)
           have HT : Hid (w20.ownsRow (w.heap.size + 2) 207 3 vr act.routes.length (tkRow act.routes)) := ownsRow_base hown HS19.o.size
           have hR' := hf.whole HS19.o.hr (by omega)
           clear hM hT hp hf hown
           obtain ⟨ma, mn, mk, rfl⟩ := ownsRow_slice HM.o
           obtain ⟨ca, cn, ck, rfl⟩ := ownsRow_slice HC.o
           obtain ⟨ra, rn, rk, rfl⟩ := ownsRow_slice HT.o
           have hT2 : w20.there w.heap.size 0 24 := there_block hR' rfl
           have hE2 : w20.heap[w.heap.size + 1]? = some (.cells #[.int .i64 a.sort, .string a.text, .int .i64 a.line, .int .i64 b.sort, .string b.text, .int .i64 b.line, .int .i64 c.sort, .string c.text, .int .i64 c.line, .int .i64 d.sort, .string d.text, .int .i64 d.line, .slice ma mn mk, .slice ca cn ck, .bool am.isSome, amC am 0, amC am 1, amC am 2, amC am 3, amC am 4, amC am 5, .bool act.decline, .bool act.cheapest, .slice ra rn rk] 238) := hE'
           have hone : (#[.int .i64 a.sort, .string a.text, .int .i64 a.line, .int .i64 b.sort, .string b.text, .int .i64 b.line, .int .i64 c.sort, .string c.text, .int .i64 c.line, .int .i64 d.sort, .string d.text, .int .i64 d.line, .slice ma mn mk, .slice ca cn ck, .bool am.isSome, amC am 0, amC am 1, amC am 2, amC am 3, amC am 4, amC am 5, .bool act.decline, .bool act.cheapest, .slice ra rn rk] : Array Value).all (·.oneCell') = true := by
            cases am <;> simp [Value.oneCell', amC]
           have HW : Hid (Fr _ w20 (w20.setCells w.heap.size 0 (#[.int .i64 a.sort, .string a.text, .int .i64 a.line, .int .i64 b.sort, .string b.text, .int .i64 b.line, .int .i64 c.sort, .string c.text, .int .i64 c.line, .int .i64 d.sort, .string d.text, .int .i64 d.line, .slice ma mn mk, .slice ca cn ck, .bool am.isSome, amC am 0, amC am 1, amC am 2, amC am 3, amC am 4, amC am 5, .bool act.decline, .bool act.cheapest, .slice ra rn rk] : Array Value).toList)) := setCells_fr _ _ _ _
           have HV : Hid ((w20.setCells w.heap.size 0 (#[.int .i64 a.sort, .string a.text, .int .i64 a.line, .int .i64 b.sort, .string b.text, .int .i64 b.line, .int .i64 c.sort, .string c.text, .int .i64 c.line, .int .i64 d.sort, .string d.text, .int .i64 d.line, .slice ma mn mk, .slice ca cn ck, .bool am.isSome, amC am 0, amC am 1, amC am 2, amC am 3, amC am 4, amC am 5, .bool act.decline, .bool act.cheapest, .slice ra rn rk] : Array Value).toList).heap[w.heap.size]? = some (.cells #[.int .i64 a.sort, .string a.text, .int .i64 a.line, .int .i64 b.sort, .string b.text, .int .i64 b.line, .int .i64 c.sort, .string c.text, .int .i64 c.line, .int .i64 d.sort, .string d.text, .int .i64 d.line, .slice ma mn mk, .slice ca cn ck, .bool am.isSome, amC am 0, amC am 1, amC am 2, amC am 3, amC am 4, amC am 5, .bool act.decline, .bool act.cheapest, .slice ra rn rk] 238)) := setCells_heap hR' rfl
           clear hE' hR' HS19
           generalize hcs : (#[.int .i64 a.sort, .string a.text, .int .i64 a.line, .int .i64 b.sort, .string b.text, .int .i64 b.line, .int .i64 c.sort, .string c.text, .int .i64 c.line, .int .i64 d.sort, .string d.text, .int .i64 d.line, .slice ma mn mk, .slice ca cn ck, .bool am.isSome, amC am 0, amC am 1, amC am 2, amC am 3, amC am 4, amC am 5, .bool act.decline, .bool act.cheapest, .slice ra rn rk] : Array Value) = cs at *
           have HK := hid hcs
           have hsize : (Tryz.prog.info? 238).map (·.size) = some cs.size := by rw [<- hcs]; kernel_rfl
           have HT2 := hid hT2
           have HE2 := hid hE2
           have HN := hid hone
           have HZ := hid hsize
           have H24 : Hid (cs.size = 24) := by show _ = _; rw [<- hcs]; rfl
           clear hcs hT2 hE2 hone hsize
           go_wp2_with (first | (refine wpList_load_row rfl 238 _ rfl (w.heap.size + 1) rfl 238 cs (0, 0) _ HE2.o Tryz.underlying238 rfl HZ.o ?_) | (refine wpList_store_mid rfl 238 _ _ rfl w.heap.size 0 cs rfl rfl (by rw [H24.o]; exact HT2.o) HZ.o HN.o ?_))
           have hrows : Fr (fun k => k = w.heap.size) w20 (w20.setCells w.heap.size 0 cs.toList) := HW.o
           exact bodyPost_ret (v := .agg cs) (results_cell_row rfl _ _ w.heap.size 238 cs (0, 0) _ rfl HV.o Tryz.underlying238 rfl HZ.o) rfl ((PPost.ok (by unfold ruleM; rw [bindM_ok hA.o, bindM_ok hB.o, bindM_ok hC.o, bindM_ok hD.o, bindM_ok hE.o, bindM_ok hF.o, bindM_ok hG.o, bindM_ok hH.o, bindM_ok hI.o, bindM_ok hJ.o])).2 ⟨⟨_, rfl, .slice ma mn mk, .slice ca cn ck, .slice ra rn rk, congrArg Value.agg HK.o.symm,
            ownsRow_base (ownsRow_fr HM.o hrows (fun k hk => by omega)) (by omega), ownsRow_base (ownsRow_fr HC.o hrows (fun k hk => by omega)) (by omega), ownsRow_base (ownsRow_fr HT.o hrows (fun k hk => by omega)) (by omega)⟩,
            HPz.o.fr hrows (fun k hk => by omega), HFz.o.monoNew hrows (fun k hk => by omega)⟩)
end Go.Proofs.YtccikgogjfbpeabGreatDoor
