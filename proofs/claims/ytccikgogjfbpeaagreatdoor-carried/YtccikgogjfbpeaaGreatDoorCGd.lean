/- The tree: steps of programs; guards, actions. -/
import Derived.Test.YtccikgogjfbpeaaGreatDoorCHa
import Derived.Test.YtccikgogjfbpeaaGreatDoorCGc
namespace Go.Proofs.YtccikgogjfbpeaaGreatDoor
open Go.RowKit
structure StepM where
 sort : Nat
 nums : List Nat
 rule : Nat
 skip : Nat
def guardsM (r : RuleM) : List StepM :=
 (if r.mcc = [] then [] else [⟨0, r.mcc, 0, 0⟩]) ++ ((match r.am with | none => [] | some ab => [⟨1, [ab.1, ab.2], 0, 0⟩]) ++ (if r.cur = [] then [] else [⟨2, r.cur, 0, 0⟩]))
def actM (i : Nat) (r : RuleM) : StepM := if r.decline then ⟨3, [], i, 0⟩ else if r.cheapest then ⟨5, r.routes, i, 0⟩ else ⟨4, r.routes, i, 0⟩
def skipsM (m : Nat) : Nat → List StepM → List StepM
 | _, [] => []
 | a, s :: r => { s with skip := m - a + 1 } :: skipsM m (a + 1) r
def askedM (r : RuleM) : List StepM := skipsM (guardsM r).length 0 (guardsM r)
def writeM (R : List RuleM) (met : Nat) : List Nat → List StepM
 | [] => [⟨6, [], 0, 0⟩]
 | i :: L => if met.testBit i then (match R[i]? with
   | none => writeM R met L
   | some r => if guardsM r = [] then [actM i r] else askedM r ++ (actM i r :: writeM R met L)) else writeM R met L
def StV (zb : Nat) (w : World) (s : StepM) (cs : List Value) : Prop := ∃ vn, cs = [.int .u8 s.sort, vn, .int .i64 s.rule, .int .i64 s.skip] ∧ w.ownsRow zb 3 1 vn s.nums.length (intRow s.nums)
def StVs (zb : Nat) (w : World) : List StepM → List Value → Prop
 | [], xs => xs = []
 | s :: r, xs => ∃ c rest, xs = c ++ rest ∧ StV zb w s c ∧ StVs zb w r rest
theorem StVs.keep {zb : Nat} {w w' : World} (hk : ∀ v n xs, w.ownsRow zb 3 1 v n xs → w'.ownsRow zb 3 1 v n xs) : ∀ {l : List StepM} {xs : List Value}, StVs zb w l xs → StVs zb w' l xs
 | [], _, h => h
 | _ :: _, _, ⟨c, rest, e, ⟨vn, e1, h1⟩, h2⟩ => ⟨c, rest, e, ⟨vn, e1, hk _ _ _ h1⟩, StVs.keep hk h2⟩
theorem StVs.append {zb : Nat} {w : World} : ∀ {l l' : List StepM} {xs ys : List Value}, StVs zb w l xs → StVs zb w l' ys → StVs zb w (l ++ l') (xs ++ ys)
 | [], _, _, _, h, h' => by
  have e : _ = [] := h
  subst e
  exact h'
 | _ :: _, _, _, _, ⟨c, rest, e, h1, h2⟩, h' => ⟨c, rest ++ _, by rw [e, List.append_assoc], h1, StVs.append h2 h'⟩
theorem StVs.one {zb : Nat} {w : World} {s : StepM} {c : List Value} (h : StV zb w s c) : StVs zb w [s] c := ⟨c, [], by simp, h, rfl⟩
def StRow (zb : Nat) (w : World) (base : Nat) (v : Value) (l : List StepM) : Prop := ∃ xs, w.ownsRow base 208 4 v l.length xs ∧ StVs zb w l xs
theorem Tryz.infoStep : (Tryz.prog.info? 208).map (fun i => (i.zero, i.size, i.bytes)) = some (some (.agg #[.int .u8 0, .slice none 0 0, .int .i64 0, .int .i64 0]), 4, 48) := by kernel_rfl
theorem stRow_fr {zb : Nat} {w w' : World} {base : Nat} {v : Value} {l : List StepM} (h : StRow zb w base v l) (hf : Fr (fun _ => False) w w') : StRow zb w' base v l := by
 obtain ⟨xs, h1, h2⟩ := h
 exact ⟨xs, ownsRow_fr h1 hf (by simp), h2.keep (fun v n ys hv => ownsRow_fr hv hf (by simp))⟩
theorem StRow.grown {zb : Nat} {w w5 : World} {base g cap : Nat} {v : Value} {l l' : List StepM} {ys : List Value} {xs : List Value} (h1 : w.ownsRow base 208 4 v l.length xs) (h2 : StVs zb w l xs) (hl : StVs zb w l' ys) (hg : w.grownBy w5 v.ownBlock) (ho : w5.ownsRow base 208 4 (.slice (some ⟨g, 0, none⟩) (l.length + l'.length) cap) (l.length + l'.length) (xs ++ ys)) :
  StRow zb w5 base (.slice (some ⟨g, 0, none⟩) (l.length + l'.length) cap) (l ++ l') := by
 have hk : ∀ v' n zs, w.ownsRow zb 3 1 v' n zs → w5.ownsRow zb 3 1 v' n zs := fun v' n zs hv => hv.kept hg (own_ne hv h1 (by decide))
 exact ⟨xs ++ ys, by rw [List.length_append]; exact ho, (h2.keep hk).append (hl.keep hk)⟩
def rlO (nm : ByteArray) (rk dg lo hi : Nat) (ma : Option Addr) (mn mc : Nat) (has : Bool) (a7 a8 : Nat) (ca : Option Addr) (cn cc : Nat) (dc ch : Bool) (pa : Option Addr) (pn pc : Nat) (ah : Nat) : Obj :=
 .cells #[.string nm, .int .i64 rk, .int .i64 dg, .int .i64 lo, .int .i64 hi, .slice ma mn mc, .bool has, .int .i64 a7, .int .i64 a8, .slice ca cn cc, .bool dc, .bool ch, .slice pa pn pc, .int .i64 ah] 120
def g1M (mcc : List Nat) : List StepM := if mcc = [] then [] else [⟨0, mcc, 0, 0⟩]
def g2M (has : Bool) (a7 a8 : Nat) : List StepM := if has then [⟨1, [a7, a8], 0, 0⟩] else []
def g3M (cur : List Nat) : List StepM := if cur = [] then [] else [⟨2, cur, 0, 0⟩]
theorem guardsM_eq (r : RuleM) : guardsM r = g1M r.mcc ++ (g2M r.am.isSome (r.am.getD (0, 0)).1 (r.am.getD (0, 0)).2 ++ g3M r.cur) := by
 unfold guardsM g1M g2M g3M
 cases r.am <;> rfl
theorem ownsRow_new2 {zb : Nat} {w : World} {g a b : Nat} (hz : zb ≤ g) (h : w.heap[g]? = some (.cells #[.int .i64 a, .int .i64 b] 3)) : w.ownsRow zb 3 1 (.slice (some ⟨g, 0, none⟩) 2 2) 2 (intRow [a, b]) :=
 ⟨rfl, .inr ⟨g, 2, _, rfl, hz, h, Nat.le_refl _, by unfold maxLen; omega, rfl, rfl⟩⟩
structure GdSt (zb : Nat) (w : World) (b : Nat) (o : Obj) (v : Value) (l : List StepM) (wx : World) : Prop where
 row : StRow zb wx (b + 1) v l
 fr : Fr (fun _ => False) w wx
 bx : wx.heap[b]? = some o
 nz : l = [] → v = .slice none 0 0
theorem GdSt.grown {zb : Nat} {w wx w8 : World} {b g cap : Nat} {o : Obj} {v : Value} {l : List StepM} {xs c : List Value} {s : StepM} {W : World} (h : GdSt zb w b o v l wx) (hb : w.heap.size ≤ b) (hW : Fr (fun _ => False) wx W) (h1 : W.ownsRow (b + 1) 208 4 v l.length xs) (h2 : StVs zb W l xs) (hs : StV zb W s c) (hg : W.grownBy w8 v.ownBlock) (ho : w8.ownsRow (b + 1) 208 4 (.slice (some ⟨g, 0, none⟩) (l.length + 1) cap) (l.length + 1) (xs ++ c)) :
  GdSt zb w b o (.slice (some ⟨g, 0, none⟩) (l.length + 1) cap) (l ++ [s]) w8 := by
 have hlo : ∀ k, v.ownBlock = some k → b + 1 ≤ k := fun k hk => (h1.lt k hk).1
 refine ⟨StRow.grown (l' := [s]) h1 h2 (StVs.one hs) hg ho, (h.fr.trans hW).grown hg (fun k hk => Or.inr (by have := hlo k hk; omega)), ?_, fun e => by simp at e⟩
 exact ((Fr.refl (fun k => v.ownBlock = some k) W).grown hg (fun k hk => Or.inl hk)).whole (hW.whole h.bx (by simp)) (fun e => by have := hlo b e; omega)
set_option maxRecDepth 30000 in
set_option maxHeartbeats 4000000 in
theorem guards_any {zb : Nat} (nm : ByteArray) (rk dg lo hi : Nat) (ma : Option Addr) (mc : Nat) (has : Bool) (a7 a8 : Nat) (ca : Option Addr) (cc : Nat) (dc ch : Bool) (pa : Option Addr) (pn pc : Nat) (ah : Nat) (mcc cur : List Nat) (w : World) (hz : zb ≤ w.heap.size)
  (hm : w.ownsRow zb 3 1 (.slice ma mcc.length mc) mcc.length (intRow mcc)) (hc : w.ownsRow zb 3 1 (.slice ca cur.length cc) cur.length (intRow cur)) (hml : mcc.length ≤ 4000) (hcl : cur.length ≤ 4000) :
  Calls Tryz.prog 222 #[rlV nm rk dg lo hi ma mcc.length mc has a7 a8 ca cur.length cc dc ch pa pn pc ah] w fun e w' => (∃ v, e = .returned v ∧ StRow zb w' w.heap.size v (g1M mcc ++ (g2M has a7 a8 ++ g3M cur)) ∧ (g1M mcc ++ (g2M has a7 a8 ++ g3M cur) = [] → v = .slice none 0 0)) ∧ Fr (fun _ => False) w w' := by
 obtain ⟨ii, hi', hz0, hz1, hz2⟩ := info_parts Tryz.infoStep
 have HM := hid hm
 have HC := hid hc
 obtain ⟨mn, hmn⟩ : ∃ mn, mcc.length = mn := ⟨_, rfl⟩
 obtain ⟨cn, hcn⟩ : ∃ cn, cur.length = cn := ⟨_, rfl⟩
 rw [hmn] at HM hml ⊢
 rw [hcn] at HC hcl ⊢
 have HMN := hid hmn
 have HCN := hid hcn
 have HZ := hid hz
 clear hm hc hmn hcn hz
 unfold rlV
 go_enter Tryz.func222, Tryz.ntmps222
 have HG0 : Hid (GdSt zb w w.heap.size (rlO nm rk dg lo hi ma mn mc has a7 a8 ca cn cc dc ch pa pn pc ah) (.slice none 0 0) [] (w.alloc (rlO nm rk dg lo hi ma mn mc has a7 a8 ca cn cc dc ch pa pn pc ah))) := ⟨⟨[], World.ownsRow_nil _ _ _ _, rfl⟩, (Fr.refl _ _).alloc _, heap_alloc_new w _, fun _ => rfl⟩
 unfold rlO at HG0
 go_upto_if 7 with fail
 generalize w.alloc (.cells #[.string nm, .int .i64 rk, .int .i64 dg, .int .i64 lo, .int .i64 hi, .slice ma mn mc, .bool has, .int .i64 a7, .int .i64 a8, .slice ca cn cc, .bool dc, .bool ch, .slice pa pn pc, .int .i64 ah] 120) = W0 at *
 obtain ⟨b, hb⟩ : ∃ b, w.heap.size = b := ⟨_, rfl⟩
 have HB := hid hb
 rw [hb] at HG0
 rw [hb]
 clear hb
 go_cut [3] (fun v wx => Hid (GdSt zb w b (.cells #[.string nm, .int .i64 rk, .int .i64 dg, .int .i64 lo, .int .i64 hi, .slice ma mn mc, .bool has, .int .i64 a7, .int .i64 a8, .slice ca cn cc, .bool dc, .bool ch, .slice pa pn pc, .int .i64 ah] 120) v (g1M mcc) wx))
 case first =>
  have x5 := block_cell HG0.out.bx 5 _ rfl
  have hWb : b + 1 ≤ W0.heap.size := (Array.getElem?_eq_some_iff.1 HG0.out.bx).1
  by_cases h0 : 0 < mn
  ·have h0' : (0 : Int) < (mn : Int) := by omega
   go_wp2_with (at_builtin; refine wpList_append_lies _ rfl (.tmp 8) (.tmp 12) 129 rfl (b + 1) 208 ii _ 4 48 Tryz.underlying129 hi' hz0 hz1 hz2 rfl (by decide) (.slice none 0 0) 0 [] rfl ?h1 ⟨W0.heap.size, 0, none⟩ 1 1 [.int .u8 0, .slice ma mn mc, .int .i64 0, .int .i64 0] rfl rfl ?h2 ?h3 (by decide) ?h4 ?h5 ?h6 _ rfl ?h7)
   case h1 => exact World.ownsRow_nil _ _ _ _
   case h2 => exact World.news_of_block (heap_alloc_new W0 (.cells #[.int .u8 0, .slice ma mn mc, .int .i64 0, .int .i64 0] 208))
   case h3 => simp [Value.oneCell']
   case h4 => unfold maxLen; omega
   case h5 => omega
   case h6 => simp; omega
   case h7 =>
    intro g2 cap2 w8 hown hgrow hor _
    have HG8 : Hid (GdSt zb w b (.cells #[.string nm, .int .i64 rk, .int .i64 dg, .int .i64 lo, .int .i64 hi, .slice ma mn mc, .bool has, .int .i64 a7, .int .i64 a8, .slice ca cn cc, .bool dc, .bool ch, .slice pa pn pc, .int .i64 ah] 120) (.slice (some ⟨g2, 0, none⟩) (0 + 1) cap2) (g1M mcc) w8) := by
     have hf : Fr (fun _ => False) W0 (W0.alloc (.cells #[.int .u8 0, .slice ma mn mc, .int .i64 0, .int .i64 0] 208)) := (Fr.refl _ _).alloc _
     have e := HG0.out.grown (s := ⟨0, mcc, 0, 0⟩) (Nat.le_of_eq HB.out) hf (World.ownsRow_nil _ _ _ _) rfl ⟨_, rfl, by rw [HMN.out]; exact ownsRow_fr (ownsRow_fr HM.out HG0.out.fr (by simp)) hf (by simp)⟩ hgrow hown
     have e2 : g1M mcc = [] ++ [⟨0, mcc, 0, 0⟩] := by
      unfold g1M
      rw [if_neg (by intro e; have := HMN.out; rw [e] at this; simp at this; omega)]
      rfl
     rw [e2]
     exact e
    clear hown hgrow hor
    go_wp2_with fail
    go_meet
    exact HG8
  ·have h0' : ¬ (0 : Int) < (mn : Int) := by omega
   have HG1 : Hid (GdSt zb w b (.cells #[.string nm, .int .i64 rk, .int .i64 dg, .int .i64 lo, .int .i64 hi, .slice ma mn mc, .bool has, .int .i64 a7, .int .i64 a8, .slice ca cn cc, .bool dc, .bool ch, .slice pa pn pc, .int .i64 ah] 120) (.slice none 0 0) (g1M mcc) W0) := by
    have e : g1M mcc = [] := by
     unfold g1M
     rw [if_pos (List.length_eq_zero_iff.1 (by have := HMN.out; omega))]
    rw [e]
    exact HG0
   go_wp2_with fail
   go_meet
   exact HG1
 case rest =>
  have HG1 := hcut
  clear hcut
  obtain ⟨l1, hl1⟩ : ∃ l1, g1M mcc = l1 := ⟨_, rfl⟩
  have HL1 := hid hl1
  have hn1 : l1.length ≤ 1 := by rw [← hl1]; unfold g1M; split <;> simp
  rw [hl1] at HG1
  obtain ⟨xs1, ho1, hv1⟩ := HG1.out.row
  obtain ⟨va, vc, e3⟩ := ownsRow_len ho1
  subst e3
  have HO1 : Hid (wc.ownsRow (b + 1) 208 4 (.slice va l1.length vc) l1.length xs1 ∧ StVs zb wc l1 xs1) := ⟨ho1, hv1⟩
  have hWb : b + 1 ≤ wc.heap.size := (Array.getElem?_eq_some_iff.1 HG1.out.bx).1
  have x6 := block_cell HG1.out.bx 6 _ rfl
  clear hl1 ho1 hv1 HG0
  go_upto_if 15 with fail
  go_cut [3] (fun v wx => Hid (GdSt zb w b (.cells #[.string nm, .int .i64 rk, .int .i64 dg, .int .i64 lo, .int .i64 hi, .slice ma mn mc, .bool has, .int .i64 a7, .int .i64 a8, .slice ca cn cc, .bool dc, .bool ch, .slice pa pn pc, .int .i64 ah] 120) v (l1 ++ g2M has a7 a8) wx))
  case first =>
   cases has with
   | true =>
    have x7 := block_cell HG1.out.bx 7 _ rfl
    have x8 := block_cell HG1.out.bx 8 _ rfl
    go_wp2_with (at_builtin; refine wpList_append_lies _ rfl (.tmp 16) (.tmp 25) 129 rfl (b + 1) 208 ii _ 4 48 Tryz.underlying129 hi' hz0 hz1 hz2 rfl (by decide) (.slice va l1.length vc) l1.length xs1 rfl ?h1 ⟨wc.heap.size + 1, 0, none⟩ 1 1 [.int .u8 1, .slice (some ⟨wc.heap.size, 0, none⟩) 2 2, .int .i64 0, .int .i64 0] rfl rfl ?h2 ?h3 (by decide) ?h4 ?h5 ?h6 _ rfl ?h7)
    case h1 => exact (HO1.out.1.alloc _).alloc _
    case h2 => exact World.news_of_block (by have e := heap_alloc_new (wc.alloc (.cells #[.int .i64 a7, .int .i64 a8] 3)) (.cells #[.int .u8 1, .slice (some ⟨wc.heap.size, 0, none⟩) 2 2, .int .i64 0, .int .i64 0] 208); simpa using e)
    case h3 => simp [Value.oneCell']
    case h4 => unfold maxLen; omega
    case h5 => omega
    case h6 => simp; omega
    case h7 =>
     intro g2 cap2 w8 hown hgrow hor _
     have HG8 : Hid (GdSt zb w b (.cells #[.string nm, .int .i64 rk, .int .i64 dg, .int .i64 lo, .int .i64 hi, .slice ma mn mc, .bool true, .int .i64 a7, .int .i64 a8, .slice ca cn cc, .bool dc, .bool ch, .slice pa pn pc, .int .i64 ah] 120) (.slice (some ⟨g2, 0, none⟩) (l1.length + 1) cap2) (l1 ++ g2M true a7 a8) w8) := by
      have hf : Fr (fun _ => False) wc ((wc.alloc (.cells #[.int .i64 a7, .int .i64 a8] 3)).alloc (.cells #[.int .u8 1, .slice (some ⟨wc.heap.size, 0, none⟩) 2 2, .int .i64 0, .int .i64 0] 208)) := ((Fr.refl _ _).alloc _).alloc _
      exact HG1.out.grown (s := ⟨1, [a7, a8], 0, 0⟩) (Nat.le_of_eq HB.out) hf ((HO1.out.1.alloc _).alloc _) (HO1.out.2.keep (fun v n ys hv => (hv.alloc _).alloc _)) ⟨_, rfl, ownsRow_new2 (by have := HZ.out; have := HG1.out.fr.size; omega) (((Fr.refl (fun _ => False) _).alloc _).whole (heap_alloc_new wc _) (by simp))⟩ hgrow hown
     clear hown hgrow hor
     go_wp2_with fail
     go_meet
     exact HG8
   | false =>
    go_wp2_with fail
    go_meet
    rw [show l1 ++ g2M false a7 a8 = l1 from by simp [g2M]]
    exact HG1
  case rest =>
   have HG2 := hcut
   clear hcut
   obtain ⟨l2, hl2⟩ : ∃ l2, l1 ++ g2M has a7 a8 = l2 := ⟨_, rfl⟩
   have HL2 := hid hl2
   have hn2 : l2.length ≤ 2 := by rw [← hl2, List.length_append]; unfold g2M; split <;> simp <;> omega
   rw [hl2] at HG2
   obtain ⟨xs2, ho2, hv2⟩ := HG2.out.row
   obtain ⟨va2, vc2, e3⟩ := ownsRow_len ho2
   subst e3
   have HO2 : Hid (wc.ownsRow (b + 1) 208 4 (.slice va2 l2.length vc2) l2.length xs2 ∧ StVs zb wc l2 xs2) := ⟨ho2, hv2⟩
   have hWb2 : b + 1 ≤ wc.heap.size := (Array.getElem?_eq_some_iff.1 HG2.out.bx).1
   have x9 := block_cell HG2.out.bx 9 _ rfl
   clear hl2 ho2 hv2 HG1 HO1 x6 hWb
   go_upto_if 30 with fail
   go_cut [3] (fun v wx => Hid (GdSt zb w b (.cells #[.string nm, .int .i64 rk, .int .i64 dg, .int .i64 lo, .int .i64 hi, .slice ma mn mc, .bool has, .int .i64 a7, .int .i64 a8, .slice ca cn cc, .bool dc, .bool ch, .slice pa pn pc, .int .i64 ah] 120) v (l2 ++ g3M cur) wx))
   case first =>
    by_cases h0 : 0 < cn
    ·have h0' : (0 : Int) < (cn : Int) := by omega
     go_wp2_with (at_builtin; refine wpList_append_lies _ rfl (.tmp 31) (.tmp 35) 129 rfl (b + 1) 208 ii _ 4 48 Tryz.underlying129 hi' hz0 hz1 hz2 rfl (by decide) (.slice va2 l2.length vc2) l2.length xs2 rfl ?h1 ⟨wc.heap.size, 0, none⟩ 1 1 [.int .u8 2, .slice ca cn cc, .int .i64 0, .int .i64 0] rfl rfl ?h2 ?h3 (by decide) ?h4 ?h5 ?h6 _ rfl ?h7)
     case h1 => exact HO2.out.1.alloc _
     case h2 => exact World.news_of_block (heap_alloc_new wc (.cells #[.int .u8 2, .slice ca cn cc, .int .i64 0, .int .i64 0] 208))
     case h3 => simp [Value.oneCell']
     case h4 => unfold maxLen; omega
     case h5 => omega
     case h6 => simp; omega
     case h7 =>
      intro g2 cap2 w8 hown hgrow hor _
      have HG8 : Hid (GdSt zb w b (.cells #[.string nm, .int .i64 rk, .int .i64 dg, .int .i64 lo, .int .i64 hi, .slice ma mn mc, .bool has, .int .i64 a7, .int .i64 a8, .slice ca cn cc, .bool dc, .bool ch, .slice pa pn pc, .int .i64 ah] 120) (.slice (some ⟨g2, 0, none⟩) (l2.length + 1) cap2) (l2 ++ g3M cur) w8) := by
       have hf : Fr (fun _ => False) wc (wc.alloc (.cells #[.int .u8 2, .slice ca cn cc, .int .i64 0, .int .i64 0] 208)) := (Fr.refl _ _).alloc _
       have e := HG2.out.grown (s := ⟨2, cur, 0, 0⟩) (Nat.le_of_eq HB.out) hf (HO2.out.1.alloc _) (HO2.out.2.keep (fun v n ys hv => hv.alloc _)) ⟨_, rfl, by rw [HCN.out]; exact ownsRow_fr (ownsRow_fr HC.out HG2.out.fr (by simp)) hf (by simp)⟩ hgrow hown
       have e2 : g3M cur = [⟨2, cur, 0, 0⟩] := by
        unfold g3M
        rw [if_neg (by intro e; have := HCN.out; rw [e] at this; simp at this; omega)]
       rw [e2]
       exact e
      clear hown hgrow hor
      go_wp2_with fail
      go_meet
      exact HG8
    ·have h0' : ¬ (0 : Int) < (cn : Int) := by omega
     have HG3 : Hid (GdSt zb w b (.cells #[.string nm, .int .i64 rk, .int .i64 dg, .int .i64 lo, .int .i64 hi, .slice ma mn mc, .bool has, .int .i64 a7, .int .i64 a8, .slice ca cn cc, .bool dc, .bool ch, .slice pa pn pc, .int .i64 ah] 120) (.slice va2 l2.length vc2) (l2 ++ g3M cur) wc) := by
      have e : g3M cur = [] := by
       unfold g3M
       rw [if_pos (List.length_eq_zero_iff.1 (by have := HCN.out; omega))]
      rw [e, List.append_nil]
      exact HG2
     go_wp2_with fail
     go_meet
     exact HG3
   case rest =>
    have HG3 := hcut
    clear hcut
    obtain ⟨xs3, ho3, hv3⟩ := HG3.out.row
    obtain ⟨va3, vc3, e3⟩ := ownsRow_len ho3
    subst e3
    clear ho3 hv3
    go_wp2_with fail
    go_ret
    have hle : w.heap.size ≤ b + 1 := by have := HB.out; omega
    have e : g1M mcc ++ (g2M has a7 a8 ++ g3M cur) = l2 ++ g3M cur := by rw [← HL2.out, ← HL1.out, List.append_assoc]
    refine ⟨⟨.slice va3 (l2 ++ g3M cur).length vc3, rfl, ?_, fun ez => HG3.out.nz (by rw [← e]; exact ez)⟩, HG3.out.fr⟩
    rw [e]
    obtain ⟨xs, h1, h2⟩ := HG3.out.row
    exact ⟨xs, ownsRow_base (base := b + 1) h1 hle, h2⟩
theorem set4 {w : World} {b : Nat} {u0 u1 u2 u3 v0 v1 v2 v3 : Value} (h0 : w.cell? ⟨b, 0, none⟩ = some u0) (h1 : w.cell? ⟨b, 1, none⟩ = some u1) (h2 : w.cell? ⟨b, 2, none⟩ = some u2) (h3 : w.cell? ⟨b, 3, none⟩ = some u3) :
  let W := (((w.setCell ⟨b, 0, none⟩ v0).setCell ⟨b, 1, none⟩ v1).setCell ⟨b, 2, none⟩ v2).setCell ⟨b, 3, none⟩ v3
  W.cell? ⟨b, 0, none⟩ = some v0 ∧ W.cell? ⟨b, 1, none⟩ = some v1 ∧ W.cell? ⟨b, 2, none⟩ = some v2 ∧ W.cell? ⟨b, 3, none⟩ = some v3 := by
 refine ⟨?_, ?_, ?_, ?_⟩
 ·rw [World.cell?_setCell_other _ _ _ _ (by simp), World.cell?_setCell_other _ _ _ _ (by simp), World.cell?_setCell_other _ _ _ _ (by simp)]; exact World.cell?_setCell_same _ _ _ h0
 ·rw [World.cell?_setCell_other _ _ _ _ (by simp), World.cell?_setCell_other _ _ _ _ (by simp)]; exact World.cell?_setCell_same _ _ _ (by rw [World.cell?_setCell_other _ _ _ _ (by simp)]; exact h1)
 ·rw [World.cell?_setCell_other _ _ _ _ (by simp)]; exact World.cell?_setCell_same _ _ _ (by rw [World.cell?_setCell_other _ _ _ _ (by simp), World.cell?_setCell_other _ _ _ _ (by simp)]; exact h2)
 ·exact World.cell?_setCell_same _ _ _ (by rw [World.cell?_setCell_other _ _ _ _ (by simp), World.cell?_setCell_other _ _ _ _ (by simp), World.cell?_setCell_other _ _ _ _ (by simp)]; exact h3)
set_option maxRecDepth 30000 in
set_option maxHeartbeats 2000000 in
theorem gaction_any (w : World) (G : Nat) (nm : ByteArray) (rk dg lo hi : Nat) (ma : Option Addr) (mn mc : Nat) (has : Bool) (a7 a8 : Nat) (ca : Option Addr) (cn cc : Nat) (dc ch : Bool) (pa : Option Addr) (pn pc : Nat) (ah : Nat) (g n c i : Nat)
  (h0 : w.cell? ⟨G, 0, none⟩ = some (.slice (some ⟨g, 0, none⟩) n c)) (hi' : i < n)
  (hr : ∀ o v, [Value.string nm, .int .i64 rk, .int .i64 dg, .int .i64 lo, .int .i64 hi, .slice ma mn mc, .bool has, .int .i64 a7, .int .i64 a8, .slice ca cn cc, .bool dc, .bool ch, .slice pa pn pc, .int .i64 ah][o]? = some v → w.cell? ⟨g, i * 14 + o, none⟩ = some v) :
  Calls Tryz.prog 223 #[.pointer (some ⟨G, 0, none⟩), .int .i64 i] w fun e w' => e = .returned (if dc then .agg #[.int .u8 3, .slice none 0 0, .int .i64 i, .int .i64 0] else if ch then .agg #[.int .u8 5, .slice pa pn pc, .int .i64 i, .int .i64 0] else .agg #[.int .u8 4, .slice pa pn pc, .int .i64 i, .int .i64 0]) ∧ Fr (fun _ => False) w w' := by
 have hii : (i : Int) < (n : Int) := by omega
 have HR := hid hr
 clear hr hi'
 go_enter Tryz.func223, Tryz.ntmps223
 go_upto_region 1 with fail
 have HF1 : Hid (Fr (fun _ => False) w (w.alloc (.cells #[.int .u8 0, .slice none 0 0, .int .i64 0, .int .i64 0] 208))) := (Fr.refl _ _).alloc _
 have HX : Hid ((w.alloc (.cells #[.int .u8 0, .slice none 0 0, .int .i64 0, .int .i64 0] 208)).heap[w.heap.size]? = some (.cells #[.int .u8 0, .slice none 0 0, .int .i64 0, .int .i64 0] 208)) := heap_alloc_new w _
 generalize w.alloc (.cells #[.int .u8 0, .slice none 0 0, .int .i64 0, .int .i64 0] 208) = W1 at *
 have hg : ∀ o v, [Value.string nm, .int .i64 rk, .int .i64 dg, .int .i64 lo, .int .i64 hi, .slice ma mn mc, .bool has, .int .i64 a7, .int .i64 a8, .slice ca cn cc, .bool dc, .bool ch, .slice pa pn pc, .int .i64 ah][o]? = some v → W1.cell? ⟨g, i * 14 + o, none⟩ = some v := fun o v ho => by
  have e := HR.out o v ho
  exact (HF1.out.cell (p := ⟨g, i * 14 + o, none⟩) (World.block_lt_of_cell? w _ e) (by simp)).trans e
 have g0 := (HF1.out.cell (p := ⟨G, 0, none⟩) (World.block_lt_of_cell? w _ h0) (by simp)).trans h0
 have v0 := hg 0 _ rfl
 have v1 := hg 1 _ rfl
 have v2 := hg 2 _ rfl
 have v3 := hg 3 _ rfl
 have v4 := hg 4 _ rfl
 have v5 := hg 5 _ rfl
 have v6 := hg 6 _ rfl
 have v7 := hg 7 _ rfl
 have v8 := hg 8 _ rfl
 have v9 := hg 9 _ rfl
 have v10 := hg 10 _ rfl
 have v11 := hg 11 _ rfl
 have v12 := hg 12 _ rfl
 have v13 := hg 13 _ rfl
 rw [Nat.add_zero] at v0
 clear hg h0
 obtain ⟨b, hb⟩ : ∃ b, w.heap.size = b := ⟨_, rfl⟩
 have HB := hid hb
 rw [hb] at HX
 rw [hb]
 clear hb
 go_upto_region 2 with fail
 have HF2 : Hid (Fr (fun _ => False) w (W1.alloc (.cells #[.string nm, .int .i64 rk, .int .i64 dg, .int .i64 lo, .int .i64 hi, .slice ma mn mc, .bool has, .int .i64 a7, .int .i64 a8, .slice ca cn cc, .bool dc, .bool ch, .slice pa pn pc, .int .i64 ah] 120))) := HF1.out.alloc _
 have HY : Hid ((W1.alloc (.cells #[.string nm, .int .i64 rk, .int .i64 dg, .int .i64 lo, .int .i64 hi, .slice ma mn mc, .bool has, .int .i64 a7, .int .i64 a8, .slice ca cn cc, .bool dc, .bool ch, .slice pa pn pc, .int .i64 ah] 120)).heap[b]? = some (.cells #[.int .u8 0, .slice none 0 0, .int .i64 0, .int .i64 0] 208)) := ((Fr.refl (fun _ => False) _).alloc _).whole HX.out (by simp)
 have hX2 := heap_alloc_new W1 (.cells #[.string nm, .int .i64 rk, .int .i64 dg, .int .i64 lo, .int .i64 hi, .slice ma mn mc, .bool has, .int .i64 a7, .int .i64 a8, .slice ca cn cc, .bool dc, .bool ch, .slice pa pn pc, .int .i64 ah] 120)
 have x10 := block_cell hX2 10 _ rfl
 have x11 := block_cell hX2 11 _ rfl
 have x12 := block_cell hX2 12 _ rfl
 have hbw : w.heap.size ≤ b := Nat.le_of_eq HB.out
 clear hX2 v0 v1 v2 v3 v4 v5 v6 v7 v8 v9 v10 v11 v12 v13 g0
 generalize W1.alloc (.cells #[.string nm, .int .i64 rk, .int .i64 dg, .int .i64 lo, .int .i64 hi, .slice ma mn mc, .bool has, .int .i64 a7, .int .i64 a8, .slice ca cn cc, .bool dc, .bool ch, .slice pa pn pc, .int .i64 ah] 120) = W2 at *
 generalize W1.heap.size = X2 at *
 cases dc with
 | true =>
  have y0 := block_cell HY.out 0 _ rfl
  have y1 := block_cell HY.out 1 _ rfl
  have y2 := block_cell HY.out 2 _ rfl
  have y3 := block_cell HY.out 3 _ rfl
  have yf := block_frozen HY.out
  go_wp2_with fail
  obtain ⟨s0, s1, s2, s3⟩ := set4 (v0 := .int .u8 3) (v1 := .slice none 0 0) (v2 := .int .i64 i) (v3 := .int .i64 0) y0 y1 y2 y3
  refine bodyPost_ret (v := .agg #[.int .u8 3, .slice none 0 0, .int .i64 i, .int .i64 0]) (by simp [results, Tryz.results223, go_sem, s0, s1, s2, s3]) rfl ⟨rfl, ?_⟩
  exact (((HF2.out.setCell (p := ⟨b, 0, none⟩) (Or.inr hbw) _).setCell (p := ⟨b, 1, none⟩) (Or.inr hbw) _).setCell (p := ⟨b, 2, none⟩) (Or.inr hbw) _).setCell (p := ⟨b, 3, none⟩) (Or.inr hbw) _
 | false =>
  cases ch with
  | true =>
   have y0 := block_cell HY.out 0 _ rfl
   have y1 := block_cell HY.out 1 _ rfl
   have y2 := block_cell HY.out 2 _ rfl
   have y3 := block_cell HY.out 3 _ rfl
   have yf := block_frozen HY.out
   go_wp2_with fail
   obtain ⟨s0, s1, s2, s3⟩ := set4 (v0 := .int .u8 5) (v1 := .slice pa pn pc) (v2 := .int .i64 i) (v3 := .int .i64 0) y0 y1 y2 y3
   refine bodyPost_ret (v := .agg #[.int .u8 5, .slice pa pn pc, .int .i64 i, .int .i64 0]) (by simp [results, Tryz.results223, go_sem, s0, s1, s2, s3]) rfl ⟨rfl, ?_⟩
   exact (((HF2.out.setCell (p := ⟨b, 0, none⟩) (Or.inr hbw) _).setCell (p := ⟨b, 1, none⟩) (Or.inr hbw) _).setCell (p := ⟨b, 2, none⟩) (Or.inr hbw) _).setCell (p := ⟨b, 3, none⟩) (Or.inr hbw) _
  | false =>
   have y0 := block_cell HY.out 0 _ rfl
   have y1 := block_cell HY.out 1 _ rfl
   have y2 := block_cell HY.out 2 _ rfl
   have y3 := block_cell HY.out 3 _ rfl
   have yf := block_frozen HY.out
   go_wp2_with fail
   obtain ⟨s0, s1, s2, s3⟩ := set4 (v0 := .int .u8 4) (v1 := .slice pa pn pc) (v2 := .int .i64 i) (v3 := .int .i64 0) y0 y1 y2 y3
   refine bodyPost_ret (v := .agg #[.int .u8 4, .slice pa pn pc, .int .i64 i, .int .i64 0]) (by simp [results, Tryz.results223, go_sem, s0, s1, s2, s3]) rfl ⟨rfl, ?_⟩
   exact (((HF2.out.setCell (p := ⟨b, 0, none⟩) (Or.inr hbw) _).setCell (p := ⟨b, 1, none⟩) (Or.inr hbw) _).setCell (p := ⟨b, 2, none⟩) (Or.inr hbw) _).setCell (p := ⟨b, 3, none⟩) (Or.inr hbw) _
end Go.Proofs.YtccikgogjfbpeaaGreatDoor
