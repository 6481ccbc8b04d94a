/- The tree: steps of programs; guards, actions. The tree: a program is written. -/
import Derived.Test.YtccikgogjfbpeabGreatDoorWHa
import Derived.Test.YtccikgogjfbpeabGreatDoorWGc
import Derived.Laws.AppendOwnNone
namespace Go.Proofs.YtccikgogjfbpeabGreatDoor
open Go.RowKit
structure StepM where
 sort : Nat
 nums : List Nat
 rule : Nat
 skip : Nat
def guardsM (r : RuleM) : List StepM :=
 (if r.mcc = [] then [] else [⟨0, r.mcc, 0, 0⟩]) ++ ((match r.am with | none => [] | some ab => [⟨1, [ab.1, ab.2], 0, 0⟩]) ++ (if r.cur = [] then [] else [⟨2, r.cur, 0, 0⟩]))
def actM (i : Nat) (r : RuleM) : StepM := if r.decline then ⟨3, [], i, 0⟩ else if r.cheapest then ⟨5, r.routes, i, 0⟩ else ⟨4, r.routes, i, 0⟩
def skipsM (m : Nat) : Nat -> List StepM -> List StepM
 | _, [] => []
 | a, s :: r => { s with skip := m - a + 1 } :: skipsM m (a + 1) r
def askedM (r : RuleM) : List StepM := skipsM (guardsM r).length 0 (guardsM r)
def writeM (R : List RuleM) (met : Nat) : List Nat -> List StepM
 | [] => [⟨6, [], 0, 0⟩]
 | i :: L => if met.testBit i then (match R[i]? with
   | none => writeM R met L
   | some r => if guardsM r = [] then [actM i r] else askedM r ++ (actM i r :: writeM R met L)) else writeM R met L
def StV (zb : Nat) (w : World) (s : StepM) (cs : List Value) : Prop := ∃ vn, cs = [.int .u8 s.sort, vn, .int .i64 s.rule, .int .i64 s.skip] /\ w.ownsRow zb 3 1 vn s.nums.length (intRow s.nums)
def StVs (zb : Nat) (w : World) : List StepM -> List Value -> Prop
 | [], xs => xs = []
 | s :: r, xs => ∃ c rest, xs = c ++ rest /\ StV zb w s c /\ StVs zb w r rest
theorem StVs.keep {zb : Nat} {w w' : World} (hk : ∀ v n xs, w.ownsRow zb 3 1 v n xs -> w'.ownsRow zb 3 1 v n xs) : ∀ {l : List StepM} {xs : List Value}, StVs zb w l xs -> StVs zb w' l xs
 | [], _, h => h
 | _ :: _, _, ⟨c, rest, e, ⟨vn, e1, h1⟩, h2⟩ => ⟨c, rest, e, ⟨vn, e1, hk _ _ _ h1⟩, StVs.keep hk h2⟩
theorem StVs.append {zb : Nat} {w : World} : ∀ {l l' : List StepM} {xs ys : List Value}, StVs zb w l xs -> StVs zb w l' ys -> StVs zb w (l ++ l') (xs ++ ys)
 | [], _, _, _, h, h' => by
  have e : _ = [] := h
  subst e
  exact h'
 | _ :: _, _, _, _, ⟨c, rest, e, h1, h2⟩, h' => ⟨c, rest ++ _, by rw [e, List.append_assoc], h1, StVs.append h2 h'⟩
theorem StVs.one {zb : Nat} {w : World} {s : StepM} {c : List Value} (h : StV zb w s c) : StVs zb w [s] c := ⟨c, [], by simp, h, rfl⟩
def StRow (zb : Nat) (w : World) (base : Nat) (v : Value) (l : List StepM) : Prop := ∃ xs, w.ownsRow base 172 4 v l.length xs /\ StVs zb w l xs
theorem Tryz.infoStep : (Tryz.prog.info? 172).map (fun i => (i.zero, i.size, i.bytes)) = some (some (.agg #[.int .u8 0, .slice none 0 0, .int .i64 0, .int .i64 0]), 4, 48) := by kernel_rfl
theorem stRow_fr {zb : Nat} {w w' : World} {base : Nat} {v : Value} {l : List StepM} (h : StRow zb w base v l) (hf : F0 w w') : StRow zb w' base v l := by
 obtain ⟨xs, h1, h2⟩ := h
 exact ⟨xs, ownsRow_fr h1 hf (by simp), h2.keep (fun v n ys hv => ownsRow_fr hv hf (by simp))⟩
theorem StRow.grown {zb : Nat} {w w5 : World} {base g cap : Nat} {v : Value} {l l' : List StepM} {ys : List Value} {xs : List Value} (h1 : w.ownsRow base 172 4 v l.length xs) (h2 : StVs zb w l xs) (hl : StVs zb w l' ys) (hg : w.grownBy w5 v.ownBlock) (ho : w5.ownsRow base 172 4 (.slice (some ⟨g, 0, none⟩) (l.length + l'.length) cap) (l.length + l'.length) (xs ++ ys)) :
  StRow zb w5 base (.slice (some ⟨g, 0, none⟩) (l.length + l'.length) cap) (l ++ l') := by
 have hk : ∀ v' n zs, w.ownsRow zb 3 1 v' n zs -> w5.ownsRow zb 3 1 v' n zs := fun v' n zs hv => hv.kept hg (own_ne hv h1 (by decide))
 exact ⟨xs ++ ys, by rw [List.length_append]; exact ho, (h2.keep hk).append (hl.keep hk)⟩
def rlO (nm : ByteArray) (rk dg lo hi : Nat) (ma : Option Addr) (mn mc : Nat) (has : Bool) (a7 a8 : Nat) (ca : Option Addr) (cn cc : Nat) (dc ch : Bool) (pa : Option Addr) (pn pc : Nat) (ah : Nat) : Obj :=
 .cells #[.string nm, .int .i64 rk, .int .i64 dg, .int .i64 lo, .int .i64 hi, .slice ma mn mc, .bool has, .int .i64 a7, .int .i64 a8, .slice ca cn cc, .bool dc, .bool ch, .slice pa pn pc, .int .i64 ah] 108
def g1M (mcc : List Nat) : List StepM := if mcc = [] then [] else [⟨0, mcc, 0, 0⟩]
def g2M (has : Bool) (a7 a8 : Nat) : List StepM := if has then [⟨1, [a7, a8], 0, 0⟩] else []
def g3M (cur : List Nat) : List StepM := if cur = [] then [] else [⟨2, cur, 0, 0⟩]
theorem guardsM_eq (r : RuleM) : guardsM r = g1M r.mcc ++ (g2M r.am.isSome (r.am.getD (0, 0)).1 (r.am.getD (0, 0)).2 ++ g3M r.cur) := by
 unfold guardsM g1M g2M g3M
 cases r.am <;> rfl
theorem ownsRow_new2 {zb : Nat} {w : World} {g a b : Nat} (hz : zb <= g) (h : w.heap[g]? = some (.cells #[.int .i64 a, .int .i64 b] 3)) : w.ownsRow zb 3 1 (.slice (some ⟨g, 0, none⟩) 2 2) 2 (intRow [a, b]) :=
 ⟨rfl, .inr ⟨g, 2, _, rfl, hz, h, Nat.le_refl _, by unfold maxLen; omega, rfl, rfl⟩⟩
structure GdSt (zb : Nat) (w : World) (b : Nat) (o : Obj) (v : Value) (l : List StepM) (wx : World) : Prop where
 row : StRow zb wx (b + 1) v l
 fr : F0 w wx
 bx : wx.heap[b]? = some o
 nz : l = [] -> v = .slice none 0 0
theorem GdSt.grown {zb : Nat} {w wx w8 : World} {b g cap : Nat} {o : Obj} {v : Value} {l : List StepM} {xs c : List Value} {s : StepM} {W : World} (h : GdSt zb w b o v l wx) (hb : w.heap.size <= b) (hW : F0 wx W) (h1 : W.ownsRow (b + 1) 172 4 v l.length xs) (h2 : StVs zb W l xs) (hs : StV zb W s c) (hg : W.grownBy w8 v.ownBlock) (ho : w8.ownsRow (b + 1) 172 4 (.slice (some ⟨g, 0, none⟩) (l.length + 1) cap) (l.length + 1) (xs ++ c)) :
  GdSt zb w b o (.slice (some ⟨g, 0, none⟩) (l.length + 1) cap) (l ++ [s]) w8 := by
 have hlo : ∀ k, v.ownBlock = some k -> b + 1 <= k := fun k hk => (h1.lt k hk).1
 refine ⟨StRow.grown (l' := [s]) h1 h2 (StVs.one hs) hg ho, (h.fr.trans hW).grown hg (fun k hk => Or.inr (by have := hlo k hk; omega)), ?_, fun e => by simp at e⟩
 exact ((Fr.refl (fun k => v.ownBlock = some k) W).grown hg (fun k hk => Or.inl hk)).whole (hW.whole h.bx (by simp)) (fun e => by have := hlo b e; omega)
set_option maxRecDepth 30000 in
set_option maxHeartbeats 4000000 in
theorem guards_any {zb : Nat} (nm : ByteArray) (rk dg lo hi : Nat) (ma : Option Addr) (mc : Nat) (has : Bool) (a7 a8 : Nat) (ca : Option Addr) (cc : Nat) (dc ch : Bool) (pa : Option Addr) (pn pc : Nat) (ah : Nat) (mcc cur : List Nat) (w : World) (hz : zb <= w.heap.size)
  (hm : w.ownsRow zb 3 1 (.slice ma mcc.length mc) mcc.length (intRow mcc)) (hc : w.ownsRow zb 3 1 (.slice ca cur.length cc) cur.length (intRow cur)) (hml : mcc.length <= 4000) (hcl : cur.length <= 4000) :
  Calls Tryz.prog 176 #[rlV nm rk dg lo hi ma mcc.length mc has a7 a8 ca cur.length cc dc ch pa pn pc ah] w fun e w' => (∃ v, e = .returned v /\ StRow zb w' w.heap.size v (g1M mcc ++ (g2M has a7 a8 ++ g3M cur)) /\ (g1M mcc ++ (g2M has a7 a8 ++ g3M cur) = [] -> v = .slice none 0 0)) /\ F0 w w' := by
 obtain ⟨ii, hi', hz0, hz1, hz2⟩ := info_parts Tryz.infoStep
 have HM := hid hm
 have HC := hid hc
 obtain ⟨mn, hmn⟩ : ∃ mn, mcc.length = mn := ⟨_, rfl⟩
 obtain ⟨cn, hcn⟩ : ∃ cn, cur.length = cn := ⟨_, rfl⟩
 rw [hmn] at HM hml ⊢
 rw [hcn] at HC hcl ⊢
 have HMN := hid hmn
 have HCN := hid hcn
 have HZ := hid hz
 clear hm hc hmn hcn hz
 unfold rlV
 go_enter Tryz.func176, Tryz.ntmps176
 have HG0 : Hid (GdSt zb w w.heap.size (rlO nm rk dg lo hi ma mn mc has a7 a8 ca cn cc dc ch pa pn pc ah) (.slice none 0 0) [] (w.alloc (rlO nm rk dg lo hi ma mn mc has a7 a8 ca cn cc dc ch pa pn pc ah))) := ⟨⟨[], World.ownsRow_nil _ _ _ _, rfl⟩, (Fr.refl _ _).alloc _, heap_alloc_new w _, fun _ => rfl⟩
 unfold rlO at HG0
 go_upto_if 7 with fail
 generalize w.alloc (.cells #[.string nm, .int .i64 rk, .int .i64 dg, .int .i64 lo, .int .i64 hi, .slice ma mn mc, .bool has, .int .i64 a7, .int .i64 a8, .slice ca cn cc, .bool dc, .bool ch, .slice pa pn pc, .int .i64 ah] 108) = W0 at *
 obtain ⟨b, hb⟩ : ∃ b, w.heap.size = b := ⟨_, rfl⟩
 have HB := hid hb
 rw [hb] at HG0
 rw [hb]
 clear hb
 go_cut [3] (fun v wx => Hid (GdSt zb w b (.cells #[.string nm, .int .i64 rk, .int .i64 dg, .int .i64 lo, .int .i64 hi, .slice ma mn mc, .bool has, .int .i64 a7, .int .i64 a8, .slice ca cn cc, .bool dc, .bool ch, .slice pa pn pc, .int .i64 ah] 108) v (g1M mcc) wx))
 case first =>
  have x5 := block_cell HG0.o.bx 5 _ rfl
  have hWb : b + 1 <= W0.heap.size := (Array.getElem?_eq_some_iff.1 HG0.o.bx).1
  by_cases h0 : 0 < mn
  ·have h0' : (0 : Int) < (mn : Int) := by omega
   go_wp2_with (at_builtin; refine wpList_append_lies _ rfl (.tmp 8) (.tmp 12) 101 rfl (b + 1) 172 ii _ 4 48 Tryz.underlying101 hi' hz0 hz1 hz2 rfl (by decide) (.slice none 0 0) 0 [] rfl ?h1 ⟨W0.heap.size, 0, none⟩ 1 1 [.int .u8 0, .slice ma mn mc, .int .i64 0, .int .i64 0] rfl rfl ?h2 ?h3 (by decide) ?h4 ?h5 ?h6 _ rfl ?h7)
   case h1 => exact World.ownsRow_nil _ _ _ _
   case h2 => exact World.news_of_block (heap_alloc_new W0 (.cells #[.int .u8 0, .slice ma mn mc, .int .i64 0, .int .i64 0] 172))
   case h3 => simp [Value.oneCell']
   case h4 => unfold maxLen; omega
   case h5 => omega
   case h6 => simp; omega
   case h7 =>
    intro g2 cap2 w8 hown hgrow hor _
    have HG8 : Hid (GdSt zb w b (.cells #[.string nm, .int .i64 rk, .int .i64 dg, .int .i64 lo, .int .i64 hi, .slice ma mn mc, .bool has, .int .i64 a7, .int .i64 a8, .slice ca cn cc, .bool dc, .bool ch, .slice pa pn pc, .int .i64 ah] 108) (.slice (some ⟨g2, 0, none⟩) (0 + 1) cap2) (g1M mcc) w8) := by
     have hf : F0 W0 (W0.alloc (.cells #[.int .u8 0, .slice ma mn mc, .int .i64 0, .int .i64 0] 172)) := (Fr.refl _ _).alloc _
     have e := HG0.o.grown (s := ⟨0, mcc, 0, 0⟩) (Nat.le_of_eq HB.o) hf (World.ownsRow_nil _ _ _ _) rfl ⟨_, rfl, by rw [HMN.o]; exact ownsRow_fr (ownsRow_fr HM.o HG0.o.fr (by simp)) hf (by simp)⟩ hgrow hown
     have e2 : g1M mcc = [] ++ [⟨0, mcc, 0, 0⟩] := by
      unfold g1M
      rw [if_neg (by intro e; have := HMN.o; rw [e] at this; simp at this; omega)]
      rfl
     rw [e2]
     exact e
    clear hown hgrow hor
    go_wp2_with fail
    go_meet
    exact HG8
  ·have h0' : ¬ (0 : Int) < (mn : Int) := by omega
   have HG1 : Hid (GdSt zb w b (.cells #[.string nm, .int .i64 rk, .int .i64 dg, .int .i64 lo, .int .i64 hi, .slice ma mn mc, .bool has, .int .i64 a7, .int .i64 a8, .slice ca cn cc, .bool dc, .bool ch, .slice pa pn pc, .int .i64 ah] 108) (.slice none 0 0) (g1M mcc) W0) := by
    have e : g1M mcc = [] := by
     unfold g1M
     rw [if_pos (List.length_eq_zero_iff.1 (by have := HMN.o; omega))]
    rw [e]
    exact HG0
   go_wp2_with fail
   go_meet
   exact HG1
 case rest =>
  have HG1 := hcut
  clear hcut
  obtain ⟨l1, hl1⟩ : ∃ l1, g1M mcc = l1 := ⟨_, rfl⟩
  have HL1 := hid hl1
  have hn1 : l1.length <= 1 := by rw [<- hl1]; unfold g1M; split <;> simp
  rw [hl1] at HG1
  obtain ⟨xs1, ho1, hv1⟩ := HG1.o.row
  obtain ⟨va, vc, e3⟩ := ownsRow_len ho1
  subst e3
  have HO1 : Hid (wc.ownsRow (b + 1) 172 4 (.slice va l1.length vc) l1.length xs1 /\ StVs zb wc l1 xs1) := ⟨ho1, hv1⟩
  have hWb : b + 1 <= wc.heap.size := (Array.getElem?_eq_some_iff.1 HG1.o.bx).1
  have x6 := block_cell HG1.o.bx 6 _ rfl
  clear hl1 ho1 hv1 HG0
  go_upto_if 15 with fail
  go_cut [3] (fun v wx => Hid (GdSt zb w b (.cells #[.string nm, .int .i64 rk, .int .i64 dg, .int .i64 lo, .int .i64 hi, .slice ma mn mc, .bool has, .int .i64 a7, .int .i64 a8, .slice ca cn cc, .bool dc, .bool ch, .slice pa pn pc, .int .i64 ah] 108) v (l1 ++ g2M has a7 a8) wx))
  case first =>
   cases has with
   | true =>
    have x7 := block_cell HG1.o.bx 7 _ rfl
    have x8 := block_cell HG1.o.bx 8 _ rfl
    go_wp2_with (at_builtin; refine wpList_append_lies _ rfl (.tmp 16) (.tmp 25) 101 rfl (b + 1) 172 ii _ 4 48 Tryz.underlying101 hi' hz0 hz1 hz2 rfl (by decide) (.slice va l1.length vc) l1.length xs1 rfl ?h1 ⟨wc.heap.size + 1, 0, none⟩ 1 1 [.int .u8 1, .slice (some ⟨wc.heap.size, 0, none⟩) 2 2, .int .i64 0, .int .i64 0] rfl rfl ?h2 ?h3 (by decide) ?h4 ?h5 ?h6 _ rfl ?h7)
    case h1 => exact (HO1.o.1.alloc _).alloc _
    case h2 => exact World.news_of_block (by have e := heap_alloc_new (wc.alloc (.cells #[.int .i64 a7, .int .i64 a8] 3)) (.cells #[.int .u8 1, .slice (some ⟨wc.heap.size, 0, none⟩) 2 2, .int .i64 0, .int .i64 0] 172); simpa using e)
    case h3 => simp [Value.oneCell']
    case h4 => unfold maxLen; omega
    case h5 => omega
    case h6 => simp; omega
    case h7 =>
     intro g2 cap2 w8 hown hgrow hor _
     have HG8 : Hid (GdSt zb w b (.cells #[.string nm, .int .i64 rk, .int .i64 dg, .int .i64 lo, .int .i64 hi, .slice ma mn mc, .bool true, .int .i64 a7, .int .i64 a8, .slice ca cn cc, .bool dc, .bool ch, .slice pa pn pc, .int .i64 ah] 108) (.slice (some ⟨g2, 0, none⟩) (l1.length + 1) cap2) (l1 ++ g2M true a7 a8) w8) := by
      have hf : F0 wc ((wc.alloc (.cells #[.int .i64 a7, .int .i64 a8] 3)).alloc (.cells #[.int .u8 1, .slice (some ⟨wc.heap.size, 0, none⟩) 2 2, .int .i64 0, .int .i64 0] 172)) := ((Fr.refl _ _).alloc _).alloc _
      exact HG1.o.grown (s := ⟨1, [a7, a8], 0, 0⟩) (Nat.le_of_eq HB.o) hf ((HO1.o.1.alloc _).alloc _) (HO1.o.2.keep (fun v n ys hv => (hv.alloc _).alloc _)) ⟨_, rfl, ownsRow_new2 (by have := HZ.o; have := HG1.o.fr.size; omega) (((Fr.refl (fun _ => False) _).alloc _).whole (heap_alloc_new wc _) (by simp))⟩ hgrow hown
     clear hown hgrow hor
     go_wp2_with fail
     go_meet
     exact HG8
   | false =>
    go_wp2_with fail
    go_meet
    rw [show l1 ++ g2M false a7 a8 = l1 from by simp [g2M]]
    exact HG1
  case rest =>
   have HG2 := hcut
   clear hcut
   obtain ⟨l2, hl2⟩ : ∃ l2, l1 ++ g2M has a7 a8 = l2 := ⟨_, rfl⟩
   have HL2 := hid hl2
   have hn2 : l2.length <= 2 := by rw [<- hl2, List.length_append]; unfold g2M; split <;> simp <;> omega
   rw [hl2] at HG2
   obtain ⟨xs2, ho2, hv2⟩ := HG2.o.row
   obtain ⟨va2, vc2, e3⟩ := ownsRow_len ho2
   subst e3
   have HO2 : Hid (wc.ownsRow (b + 1) 172 4 (.slice va2 l2.length vc2) l2.length xs2 /\ StVs zb wc l2 xs2) := ⟨ho2, hv2⟩
   have hWb2 : b + 1 <= wc.heap.size := (Array.getElem?_eq_some_iff.1 HG2.o.bx).1
   have x9 := block_cell HG2.o.bx 9 _ rfl
   clear hl2 ho2 hv2 HG1 HO1 x6 hWb
   go_upto_if 30 with fail
   go_cut [3] (fun v wx => Hid (GdSt zb w b (.cells #[.string nm, .int .i64 rk, .int .i64 dg, .int .i64 lo, .int .i64 hi, .slice ma mn mc, .bool has, .int .i64 a7, .int .i64 a8, .slice ca cn cc, .bool dc, .bool ch, .slice pa pn pc, .int .i64 ah] 108) v (l2 ++ g3M cur) wx))
   case first =>
    by_cases h0 : 0 < cn
    ·have h0' : (0 : Int) < (cn : Int) := by omega
     go_wp2_with (at_builtin; refine wpList_append_lies _ rfl (.tmp 31) (.tmp 35) 101 rfl (b + 1) 172 ii _ 4 48 Tryz.underlying101 hi' hz0 hz1 hz2 rfl (by decide) (.slice va2 l2.length vc2) l2.length xs2 rfl ?h1 ⟨wc.heap.size, 0, none⟩ 1 1 [.int .u8 2, .slice ca cn cc, .int .i64 0, .int .i64 0] rfl rfl ?h2 ?h3 (by decide) ?h4 ?h5 ?h6 _ rfl ?h7)
     case h1 => exact HO2.o.1.alloc _
     case h2 => exact World.news_of_block (heap_alloc_new wc (.cells #[.int .u8 2, .slice ca cn cc, .int .i64 0, .int .i64 0] 172))
     case h3 => simp [Value.oneCell']
     case h4 => unfold maxLen; omega
     case h5 => omega
     case h6 => simp; omega
     case h7 =>
      intro g2 cap2 w8 hown hgrow hor _
      have HG8 : Hid (GdSt zb w b (.cells #[.string nm, .int .i64 rk, .int .i64 dg, .int .i64 lo, .int .i64 hi, .slice ma mn mc, .bool has, .int .i64 a7, .int .i64 a8, .slice ca cn cc, .bool dc, .bool ch, .slice pa pn pc, .int .i64 ah] 108) (.slice (some ⟨g2, 0, none⟩) (l2.length + 1) cap2) (l2 ++ g3M cur) w8) := by
       have hf : F0 wc (wc.alloc (.cells #[.int .u8 2, .slice ca cn cc, .int .i64 0, .int .i64 0] 172)) := (Fr.refl _ _).alloc _
       have e := HG2.o.grown (s := ⟨2, cur, 0, 0⟩) (Nat.le_of_eq HB.o) hf (HO2.o.1.alloc _) (HO2.o.2.keep (fun v n ys hv => hv.alloc _)) ⟨_, rfl, by rw [HCN.o]; exact ownsRow_fr (ownsRow_fr HC.o HG2.o.fr (by simp)) hf (by simp)⟩ hgrow hown
       have e2 : g3M cur = [⟨2, cur, 0, 0⟩] := by
        unfold g3M
        rw [if_neg (by intro e; have := HCN.o; rw [e] at this; simp at this; omega)]
       rw [e2]
       exact e
      clear hown hgrow hor
      go_wp2_with fail
      go_meet
      exact HG8
    ·have h0' : ¬ (0 : Int) < (cn : Int) := by omega
     have HG3 : Hid (GdSt zb w b (.cells #[.string nm, .int .i64 rk, .int .i64 dg, .int .i64 lo, .int .i64 hi, .slice ma mn mc, .bool has, .int .i64 a7, .int .i64 a8, .slice ca cn cc, .bool dc, .bool ch, .slice pa pn pc, .int .i64 ah] 108) (.slice va2 l2.length vc2) (l2 ++ g3M cur) wc) := by
      have e : g3M cur = [] := by
       unfold g3M
       rw [if_pos (List.length_eq_zero_iff.1 (by have := HCN.o; omega))]
      rw [e, List.append_nil]
      exact HG2
     go_wp2_with fail
     go_meet
     exact HG3
   case rest =>
    have HG3 := hcut
    clear hcut
    obtain ⟨xs3, ho3, hv3⟩ := HG3.o.row
    obtain ⟨va3, vc3, e3⟩ := ownsRow_len ho3
    subst e3
    clear ho3 hv3
    go_wp2_with fail
    go_ret
    have hle : w.heap.size <= b + 1 := by have := HB.o; omega
    have e : g1M mcc ++ (g2M has a7 a8 ++ g3M cur) = l2 ++ g3M cur := by rw [<- HL2.o, <- HL1.o, List.append_assoc]
    refine ⟨⟨.slice va3 (l2 ++ g3M cur).length vc3, rfl, ?_, fun ez => HG3.o.nz (by rw [<- e]; exact ez)⟩, HG3.o.fr⟩
    rw [e]
    obtain ⟨xs, h1, h2⟩ := HG3.o.row
    exact ⟨xs, ownsRow_base (base := b + 1) h1 hle, h2⟩
theorem set4 {w : World} {b : Nat} {u0 u1 u2 u3 v0 v1 v2 v3 : Value} (h0 : w.cell? ⟨b, 0, none⟩ = some u0) (h1 : w.cell? ⟨b, 1, none⟩ = some u1) (h2 : w.cell? ⟨b, 2, none⟩ = some u2) (h3 : w.cell? ⟨b, 3, none⟩ = some u3) :
  let W := (((w.setCell ⟨b, 0, none⟩ v0).setCell ⟨b, 1, none⟩ v1).setCell ⟨b, 2, none⟩ v2).setCell ⟨b, 3, none⟩ v3
  W.cell? ⟨b, 0, none⟩ = some v0 /\ W.cell? ⟨b, 1, none⟩ = some v1 /\ W.cell? ⟨b, 2, none⟩ = some v2 /\ W.cell? ⟨b, 3, none⟩ = some v3 := by
 refine ⟨?_, ?_, ?_, ?_⟩
 ·rw [World.cell?_setCell_other _ _ _ _ (by simp), World.cell?_setCell_other _ _ _ _ (by simp), World.cell?_setCell_other _ _ _ _ (by simp)]; exact World.cell?_setCell_same _ _ _ h0
 ·rw [World.cell?_setCell_other _ _ _ _ (by simp), World.cell?_setCell_other _ _ _ _ (by simp)]; exact World.cell?_setCell_same _ _ _ (by rw [World.cell?_setCell_other _ _ _ _ (by simp)]; exact h1)
 ·rw [World.cell?_setCell_other _ _ _ _ (by simp)]; exact World.cell?_setCell_same _ _ _ (by rw [World.cell?_setCell_other _ _ _ _ (by simp), World.cell?_setCell_other _ _ _ _ (by simp)]; exact h2)
 ·exact World.cell?_setCell_same _ _ _ (by rw [World.cell?_setCell_other _ _ _ _ (by simp), World.cell?_setCell_other _ _ _ _ (by simp), World.cell?_setCell_other _ _ _ _ (by simp)]; exact h3)
set_option maxRecDepth 30000 in
set_option maxHeartbeats 2000000 in
theorem gaction_any (w : World) (G : Nat) (nm : ByteArray) (rk dg lo hi : Nat) (ma : Option Addr) (mn mc : Nat) (has : Bool) (a7 a8 : Nat) (ca : Option Addr) (cn cc : Nat) (dc ch : Bool) (pa : Option Addr) (pn pc : Nat) (ah : Nat) (g n c i : Nat)
  (h0 : w.cell? ⟨G, 0, none⟩ = some (.slice (some ⟨g, 0, none⟩) n c)) (hi' : i < n)
  (hr : ∀ o v, [Value.string nm, .int .i64 rk, .int .i64 dg, .int .i64 lo, .int .i64 hi, .slice ma mn mc, .bool has, .int .i64 a7, .int .i64 a8, .slice ca cn cc, .bool dc, .bool ch, .slice pa pn pc, .int .i64 ah][o]? = some v -> w.cell? ⟨g, i * 14 + o, none⟩ = some v) :
  Calls Tryz.prog 177 #[.pointer (some ⟨G, 0, none⟩), .int .i64 i] w fun e w' => e = .returned (if dc then .agg #[.int .u8 3, .slice none 0 0, .int .i64 i, .int .i64 0] else if ch then .agg #[.int .u8 5, .slice pa pn pc, .int .i64 i, .int .i64 0] else .agg #[.int .u8 4, .slice pa pn pc, .int .i64 i, .int .i64 0]) /\ F0 w w' := by
 have hii : (i : Int) < (n : Int) := by omega
 have HR := hid hr
 clear hr hi'
 go_enter Tryz.func177, Tryz.ntmps177
 go_upto_region 1 with fail
 have HF1 : Hid (F0 w (w.alloc (.cells #[.int .u8 0, .slice none 0 0, .int .i64 0, .int .i64 0] 172))) := (Fr.refl _ _).alloc _
 have HX : Hid ((w.alloc (.cells #[.int .u8 0, .slice none 0 0, .int .i64 0, .int .i64 0] 172)).heap[w.heap.size]? = some (.cells #[.int .u8 0, .slice none 0 0, .int .i64 0, .int .i64 0] 172)) := heap_alloc_new w _
 generalize w.alloc (.cells #[.int .u8 0, .slice none 0 0, .int .i64 0, .int .i64 0] 172) = W1 at *
 have hg : ∀ o v, [Value.string nm, .int .i64 rk, .int .i64 dg, .int .i64 lo, .int .i64 hi, .slice ma mn mc, .bool has, .int .i64 a7, .int .i64 a8, .slice ca cn cc, .bool dc, .bool ch, .slice pa pn pc, .int .i64 ah][o]? = some v -> W1.cell? ⟨g, i * 14 + o, none⟩ = some v := fun o v ho => by
  have e := HR.o o v ho
  exact (HF1.o.cell (p := ⟨g, i * 14 + o, none⟩) (World.block_lt_of_cell? w _ e) (by simp)).trans e
 have g0 := (HF1.o.cell (p := ⟨G, 0, none⟩) (World.block_lt_of_cell? w _ h0) (by simp)).trans h0
 have v0 := hg 0 _ rfl
 have v1 := hg 1 _ rfl
 have v2 := hg 2 _ rfl
 have v3 := hg 3 _ rfl
 have v4 := hg 4 _ rfl
 have v5 := hg 5 _ rfl
 have v6 := hg 6 _ rfl
 have v7 := hg 7 _ rfl
 have v8 := hg 8 _ rfl
 have v9 := hg 9 _ rfl
 have v10 := hg 10 _ rfl
 have v11 := hg 11 _ rfl
 have v12 := hg 12 _ rfl
 have v13 := hg 13 _ rfl
 rw [Nat.add_zero] at v0
 clear hg h0
 obtain ⟨b, hb⟩ : ∃ b, w.heap.size = b := ⟨_, rfl⟩
 have HB := hid hb
 rw [hb] at HX
 rw [hb]
 clear hb
 go_upto_region 2 with fail
 have HF2 : Hid (F0 w (W1.alloc (.cells #[.string nm, .int .i64 rk, .int .i64 dg, .int .i64 lo, .int .i64 hi, .slice ma mn mc, .bool has, .int .i64 a7, .int .i64 a8, .slice ca cn cc, .bool dc, .bool ch, .slice pa pn pc, .int .i64 ah] 108))) := HF1.o.alloc _
 have HY : Hid ((W1.alloc (.cells #[.string nm, .int .i64 rk, .int .i64 dg, .int .i64 lo, .int .i64 hi, .slice ma mn mc, .bool has, .int .i64 a7, .int .i64 a8, .slice ca cn cc, .bool dc, .bool ch, .slice pa pn pc, .int .i64 ah] 108)).heap[b]? = some (.cells #[.int .u8 0, .slice none 0 0, .int .i64 0, .int .i64 0] 172)) := ((Fr.refl (fun _ => False) _).alloc _).whole HX.o (by simp)
 have hX2 := heap_alloc_new W1 (.cells #[.string nm, .int .i64 rk, .int .i64 dg, .int .i64 lo, .int .i64 hi, .slice ma mn mc, .bool has, .int .i64 a7, .int .i64 a8, .slice ca cn cc, .bool dc, .bool ch, .slice pa pn pc, .int .i64 ah] 108)
 have x10 := block_cell hX2 10 _ rfl
 have x11 := block_cell hX2 11 _ rfl
 have x12 := block_cell hX2 12 _ rfl
 have hbw : w.heap.size <= b := Nat.le_of_eq HB.o
 clear hX2 v0 v1 v2 v3 v4 v5 v6 v7 v8 v9 v10 v11 v12 v13 g0
 generalize W1.alloc (.cells #[.string nm, .int .i64 rk, .int .i64 dg, .int .i64 lo, .int .i64 hi, .slice ma mn mc, .bool has, .int .i64 a7, .int .i64 a8, .slice ca cn cc, .bool dc, .bool ch, .slice pa pn pc, .int .i64 ah] 108) = W2 at *
 generalize W1.heap.size = X2 at *
 cases dc with
 | true =>
  have y0 := block_cell HY.o 0 _ rfl
  have y1 := block_cell HY.o 1 _ rfl
  have y2 := block_cell HY.o 2 _ rfl
  have y3 := block_cell HY.o 3 _ rfl
  have yf := block_frozen HY.o
  go_wp2_with fail
  obtain ⟨s0, s1, s2, s3⟩ := set4 (v0 := .int .u8 3) (v1 := .slice none 0 0) (v2 := .int .i64 i) (v3 := .int .i64 0) y0 y1 y2 y3
  refine bodyPost_ret (v := .agg #[.int .u8 3, .slice none 0 0, .int .i64 i, .int .i64 0]) (by simp [results, Tryz.results177, go_sem, s0, s1, s2, s3]) rfl ⟨rfl, ?_⟩
  exact (((HF2.o.setCell (p := ⟨b, 0, none⟩) (Or.inr hbw) _).setCell (p := ⟨b, 1, none⟩) (Or.inr hbw) _).setCell (p := ⟨b, 2, none⟩) (Or.inr hbw) _).setCell (p := ⟨b, 3, none⟩) (Or.inr hbw) _
 | false =>
  cases ch with
  | true =>
   have y0 := block_cell HY.o 0 _ rfl
   have y1 := block_cell HY.o 1 _ rfl
   have y2 := block_cell HY.o 2 _ rfl
   have y3 := block_cell HY.o 3 _ rfl
   have yf := block_frozen HY.o
   go_wp2_with fail
   obtain ⟨s0, s1, s2, s3⟩ := set4 (v0 := .int .u8 5) (v1 := .slice pa pn pc) (v2 := .int .i64 i) (v3 := .int .i64 0) y0 y1 y2 y3
   refine bodyPost_ret (v := .agg #[.int .u8 5, .slice pa pn pc, .int .i64 i, .int .i64 0]) (by simp [results, Tryz.results177, go_sem, s0, s1, s2, s3]) rfl ⟨rfl, ?_⟩
   exact (((HF2.o.setCell (p := ⟨b, 0, none⟩) (Or.inr hbw) _).setCell (p := ⟨b, 1, none⟩) (Or.inr hbw) _).setCell (p := ⟨b, 2, none⟩) (Or.inr hbw) _).setCell (p := ⟨b, 3, none⟩) (Or.inr hbw) _
  | false =>
   have y0 := block_cell HY.o 0 _ rfl
   have y1 := block_cell HY.o 1 _ rfl
   have y2 := block_cell HY.o 2 _ rfl
   have y3 := block_cell HY.o 3 _ rfl
   have yf := block_frozen HY.o
   go_wp2_with fail
   obtain ⟨s0, s1, s2, s3⟩ := set4 (v0 := .int .u8 4) (v1 := .slice pa pn pc) (v2 := .int .i64 i) (v3 := .int .i64 0) y0 y1 y2 y3
   refine bodyPost_ret (v := .agg #[.int .u8 4, .slice pa pn pc, .int .i64 i, .int .i64 0]) (by simp [results, Tryz.results177, go_sem, s0, s1, s2, s3]) rfl ⟨rfl, ?_⟩
   exact (((HF2.o.setCell (p := ⟨b, 0, none⟩) (Or.inr hbw) _).setCell (p := ⟨b, 1, none⟩) (Or.inr hbw) _).setCell (p := ⟨b, 2, none⟩) (Or.inr hbw) _).setCell (p := ⟨b, 3, none⟩) (Or.inr hbw) _
end Go.Proofs.YtccikgogjfbpeabGreatDoor

namespace Go.Proofs.YtccikgogjfbpeabGreatDoor
open Go.RowKit
structure GrW (zb : Nat) (w : World) (G : Nat) (rls : List RuleM) (ord : Nat -> Nat) : Prop where
 zl : zb <= w.heap.size
 rl : ∃ va c, w.cell? ⟨G, 0, none⟩ = some (.slice va rls.length c) /\ ∀ i r, rls[i]? = some r -> ∃ g ma mc ca cc pa pc, va = some ⟨g, 0, none⟩ /\ g < w.heap.size /\
   (∀ o v, [Value.string r.name, .int .i64 r.rank, .int .i64 r.digits, .int .i64 r.lo, .int .i64 r.hi, .slice ma r.mcc.length mc, .bool r.am.isSome, .int .i64 (r.am.getD (0, 0)).1, .int .i64 (r.am.getD (0, 0)).2, .slice ca r.cur.length cc, .bool r.decline, .bool r.cheapest, .slice pa r.routes.length pc, .int .i64 r.ahead][o]? = some v -> w.cell? ⟨g, i * 14 + o, none⟩ = some v) /\
   w.ownsRow zb 3 1 (.slice ma r.mcc.length mc) r.mcc.length (intRow r.mcc) /\ w.ownsRow zb 3 1 (.slice ca r.cur.length cc) r.cur.length (intRow r.cur) /\ w.ownsRow zb 3 1 (.slice pa r.routes.length pc) r.routes.length (intRow r.routes)
 od : ∃ oa oc, w.cell? ⟨G, 1, none⟩ = some (.slice oa rls.length oc) /\ ∀ k, k < rls.length -> ∃ og, oa = some ⟨og, 0, none⟩ /\ og < w.heap.size /\ w.cell? ⟨og, k, none⟩ = some (.int .i64 (ord k))
theorem GrW.fr {zb : Nat} {w w' : World} {G : Nat} {rls : List RuleM} {ord : Nat -> Nat} (h : GrW zb w G rls ord) (hf : F0 w w') : GrW zb w' G rls ord := by
 obtain ⟨hz, ⟨va, c, h1, h2⟩, oa, oc, h3, h4⟩ := h
 refine ⟨Nat.le_trans hz hf.size, ⟨va, c, (hf.cell (p := ⟨G, 0, none⟩) (World.block_lt_of_cell? w _ h1) (by simp)).trans h1, fun i r hi => ?_⟩, oa, oc, (hf.cell (p := ⟨G, 1, none⟩) (World.block_lt_of_cell? w _ h3) (by simp)).trans h3, fun k hk => ?_⟩
 ·obtain ⟨g, ma, mc, ca, cc, pa, pc, e1, e2, e3, e4, e5, e6⟩ := h2 i r hi
  exact ⟨g, ma, mc, ca, cc, pa, pc, e1, Nat.lt_of_lt_of_le e2 hf.size, fun o v ho => (hf.cell (p := ⟨g, i * 14 + o, none⟩) e2 (by simp)).trans (e3 o v ho), ownsRow_fr e4 hf (by simp), ownsRow_fr e5 hf (by simp), ownsRow_fr e6 hf (by simp)⟩
 ·obtain ⟨og, e1, e2, e3⟩ := h4 k hk
  exact ⟨og, e1, Nat.lt_of_lt_of_le e2 hf.size, (hf.cell (p := ⟨og, k, none⟩) e2 (by simp)).trans e3⟩
theorem skipsM_length (m : Nat) : ∀ (a : Nat) (l : List StepM), (skipsM m a l).length = l.length
 | _, [] => rfl
 | a, _ :: r => by show (skipsM m (a + 1) r).length + 1 = r.length + 1; rw [skipsM_length m (a + 1) r]
theorem StVs.get {zb : Nat} {w : World} : ∀ {l : List StepM} {xs : List Value} {j : Nat} {s : StepM}, StVs zb w l xs -> l[j]? = some s -> ∃ c, StV zb w s c /\ ∀ o v, c[o]? = some v -> xs[j * 4 + o]? = some v
 | [], _, j, _, _, hj => by simp at hj
 | s :: r, xs, 0, s', ⟨c, rest, e, h1, h2⟩, hj => by
  simp at hj
  subst hj
  refine ⟨c, h1, fun o v ho => ?_⟩
  have := (List.getElem?_eq_some_iff.1 ho).1
  rw [e, Nat.zero_mul, Nat.zero_add, List.getElem?_append_left this]
  exact ho
 | s :: r, xs, j + 1, s', ⟨c, rest, e, h1, h2⟩, hj => by
  obtain ⟨c', a1, a3⟩ := StVs.get h2 (j := j) (s := s') (by simpa using hj)
  have l : c.length = 4 := by obtain ⟨vn, e1, _⟩ := h1; rw [e1]; rfl
  refine ⟨c', a1, fun o v ho => ?_⟩
  rw [e, List.getElem?_append_right (by omega), l, show (j + 1) * 4 + o - 4 = j * 4 + o from by omega]
  exact a3 o v ho
theorem StVs.ones {zb : Nat} {w : World} : ∀ {l : List StepM} {xs : List Value}, StVs zb w l xs -> ∀ u, u ∈ xs -> u.oneCell' = true
 | [], _, h, u, hu => by
  have e : _ = [] := h
  rw [e] at hu
  simp at hu
 | s :: r, xs, ⟨c, rest, e, ⟨vn, e1, h1⟩, h2⟩, u, hu => by
  rw [e, e1] at hu
  rcases List.mem_append.1 hu with h | h
  ·obtain ⟨a, b, e2⟩ := ownsRow_len h1
   rw [e2] at h
   simp only [List.mem_cons, List.not_mem_nil, or_false] at h
   rcases h with rfl | rfl | rfl | rfl <;> rfl
  ·exact StVs.ones h2 u h
theorem StVs.skip {zb : Nat} {w : World} : ∀ {l : List StepM} {xs : List Value} {j : Nat} {s : StepM} (k : Nat), StVs zb w l xs -> l[j]? = some s -> StVs zb w (l.set j { s with skip := k }) (xs.set (j * 4 + 3) (.int .i64 k))
 | [], _, j, _, _, _, hj => by simp at hj
 | s :: r, xs, 0, s', k, ⟨c, rest, e, ⟨vn, e1, h1⟩, h2⟩, hj => by
  simp at hj
  subst hj
  subst e e1
  exact ⟨[.int .u8 s.sort, vn, .int .i64 s.rule, .int .i64 k], rest, rfl, ⟨vn, rfl, h1⟩, h2⟩
 | s :: r, xs, j + 1, s', k, ⟨c, rest, e, ⟨vn, e1, h1⟩, h2⟩, hj => by
  subst e e1
  refine ⟨[.int .u8 s.sort, vn, .int .i64 s.rule, .int .i64 s.skip], rest.set (j * 4 + 3) (.int .i64 k), ?_, ⟨vn, rfl, h1⟩, StVs.skip k h2 (by simpa using hj)⟩
  rw [show (j + 1) * 4 + 3 = j * 4 + 3 + 4 from by omega]
  rfl
def fillM (gs : List StepM) (a : Nat) : List StepM := (skipsM gs.length 0 gs).take a ++ gs.drop a
theorem skipsM_get (m : Nat) : ∀ (l : List StepM) (b a : Nat) (s : StepM), l[a]? = some s -> (skipsM m b l)[a]? = some { s with skip := m - (b + a) + 1 }
 | [], _, _, _, h => by simp at h
 | x :: r, b, 0, s, h => by
  simp at h
  subst h
  rfl
 | x :: r, b, a + 1, s, h => by
  show (skipsM m (b + 1) r)[a]? = _
  rw [skipsM_get m r (b + 1) a s (by simpa using h), show b + 1 + a = b + (a + 1) from by omega]
theorem fill_step {gs : List StepM} {a : Nat} {s : StepM} (h : gs[a]? = some s) : (fillM gs a)[a]? = some s /\ fillM gs (a + 1) = (fillM gs a).set a { s with skip := gs.length - a + 1 } := by
 have ha := (List.getElem?_eq_some_iff.1 h).1
 have hl := skipsM_length gs.length 0 gs
 have hk := skipsM_get gs.length gs 0 a s h
 rw [Nat.zero_add] at hk
 have hd : gs.drop a = s :: gs.drop (a + 1) := by
  rw [List.drop_eq_getElem_cons ha]
  rw [(List.getElem?_eq_some_iff.1 h).2]
 have hlen : ((skipsM gs.length 0 gs).take a).length = a := by rw [List.length_take]; omega
 unfold fillM
 constructor
 ·rw [List.getElem?_append_right (by omega), hlen, Nat.sub_self, hd]
  rfl
 ·rw [List.take_add_one, hk, hd, List.set_append, if_neg (by omega), hlen, Nat.sub_self]
  simp
theorem fill_zero (gs : List StepM) : fillM gs 0 = gs := by simp [fillM]
theorem fill_all (gs : List StepM) : fillM gs gs.length = skipsM gs.length 0 gs := by
 unfold fillM
 rw [List.take_of_length_le (by rw [skipsM_length]; exact Nat.le_refl _), List.drop_of_length_le (Nat.le_refl _), List.append_nil]
theorem fill_length (gs : List StepM) (a : Nat) (h : a <= gs.length) : (fillM gs a).length = gs.length := by
 unfold fillM
 rw [List.length_append, List.length_take, List.length_drop, skipsM_length]
 omega
theorem guardsM_len (r : RuleM) : (guardsM r).length <= 3 := by
 rw [guardsM_eq, List.length_append, List.length_append]
 unfold g1M g2M g3M
 split <;> split <;> split <;> simp
def ordL (n : Nat) (ord : Nat -> Nat) : List Nat := (List.range n).map ord
theorem ordL_drop {n k : Nat} {ord : Nat -> Nat} (h : k < n) : (ordL n ord).drop k = ord k :: (ordL n ord).drop (k + 1) := by
 have hl : k < (ordL n ord).length := by unfold ordL; simpa using h
 rw [List.drop_eq_getElem_cons hl]
 have e : (ordL n ord)[k] = ord k := by simp [ordL]
 rw [e]
theorem writeM_cons (R : List RuleM) (met i : Nat) (L : List Nat) (r : RuleM) (h : R[i]? = some r) : writeM R met (i :: L) = if met.testBit i then (if guardsM r = [] then [actM i r] else askedM r ++ (actM i r :: writeM R met L)) else writeM R met L := by
 rw [writeM, h]
structure WrS (zb : Nat) (w : World) (R : List RuleM) (met n : Nat) (ord : Nat -> Nat) (k : Nat) (v : Value) (l : List StepM) (wr : World) : Prop where
 row : StRow zb wr w.heap.size v l
 fr : F0 w wr
 eq : writeM R met (ordL n ord) = l ++ writeM R met ((ordL n ord).drop k)
 le : l.length <= k * 4
structure FillS (zb : Nat) (w0 : World) (v : Value) (gs : List StepM) (a : Nat) (wx : World) : Prop where
 row : StRow zb wx w0.heap.size v (fillM gs a)
 fr : F0 w0 wx
theorem FillS.step {zb : Nat} {w0 wx : World} {g m c a : Nat} {gs : List StepM} (h : FillS zb w0 (.slice (some ⟨g, 0, none⟩) m c) gs a wx) (hm : gs.length = m) (ha : a < m) :
  FillS zb w0 (.slice (some ⟨g, 0, none⟩) m c) gs (a + 1) (wx.setCell ⟨g, a * 4 + 3, none⟩ (.int .i64 ((m - a + 1 : Nat) : Int))) /\ (∃ u, wx.cell? ⟨g, a * 4 + 3, none⟩ = some u) /\ wx.frozen? ⟨g, a * 4 + 3, none⟩ = false := by
 obtain ⟨xs, ho, hv⟩ := h.row
 rw [fill_length gs a (by omega), hm] at ho
 obtain ⟨s, hs⟩ : ∃ s, gs[a]? = some s := ⟨_, List.getElem?_eq_getElem (by omega)⟩
 obtain ⟨e1, e2⟩ := fill_step hs
 obtain ⟨h1, h2⟩ := ho.stored (a * 4 + 3) (.int .i64 ((m - a + 1 : Nat) : Int))
 obtain ⟨c', ⟨vn, rfl, _⟩, hc⟩ := hv.get e1
 have hx := hc 3 _ rfl
 have hg := (ho.lt g rfl).1
 refine ⟨⟨⟨xs.set (a * 4 + 3) (.int .i64 ((m - a + 1 : Nat) : Int)), ?_, ?_⟩, h.fr.setCell (p := ⟨g, a * 4 + 3, none⟩) (Or.inr hg) _⟩, ⟨_, (ho.cellAt (a * 4 + 3) (by omega)).trans hx⟩, ho.frozenAt _⟩
 ·rw [fill_length gs (a + 1) (by omega), hm]
  exact h1
 ·rw [e2, hm]
  refine (hv.skip (m - a + 1) e1).keep fun v n ys hr => hr.kept h2 (own_ne hr ho (by decide))
theorem act_any {zb : Nat} {W : World} {G : Nat} {R : List RuleM} {ord : Nat -> Nat} (h : GrW zb W G R ord) (i : Nat) (r : RuleM) (hr : R[i]? = some r) :
  Calls Tryz.prog 177 #[.pointer (some ⟨G, 0, none⟩), .int .i64 i] W fun e w' => (∃ s a b c, ∃ nums : List Nat, e = .returned (.agg #[.int .u8 (s : Nat), .slice a b c, .int .i64 i, .int .i64 0]) /\ actM i r = ⟨s, nums, i, 0⟩ /\ w'.ownsRow zb 3 1 (.slice a b c) nums.length (intRow nums)) /\ F0 W w' := by
 obtain ⟨va, c, h0, h1⟩ := h.rl
 obtain ⟨g, ma, mc, ca, cc, pa, pc, rfl, _, hcell, _, _, hp⟩ := h1 i r hr
 refine (gaction_any W G _ _ _ _ _ _ _ _ _ _ _ _ _ _ _ _ _ _ _ _ g R.length c i h0 (List.getElem?_eq_some_iff.1 hr).1 hcell).mono ?_
 rintro e w' ⟨rfl, hf⟩
 refine ⟨?_, hf⟩
 have hp' := ownsRow_fr hp hf (by simp)
 unfold actM
 cases r.decline with
 | true => exact ⟨3, none, 0, 0, [], rfl, rfl, World.ownsRow_nil _ _ _ _⟩
 | false =>
  cases r.cheapest with
  | true => exact ⟨5, pa, _, pc, r.routes, rfl, rfl, hp'⟩
  | false => exact ⟨4, pa, _, pc, r.routes, rfl, rfl, hp'⟩
set_option maxRecDepth 30000 in
set_option maxHeartbeats 8000000 in
theorem gwrite_any {zb : Nat} (w : World) (G : Nat) (R : List RuleM) (ord : Nat -> Nat) (met : Nat) (h : GrW zb w G R ord) (hn : R.length <= 8) (hm : met < 256) (ho : ∀ k, k < R.length -> ord k < R.length) (hR : ∀ r, r ∈ R -> r.mcc.length <= 4000 /\ r.cur.length <= 4000) :
  Calls Tryz.prog 138 #[.pointer (some ⟨G, 0, none⟩), .int .u64 met] w fun e w' => (∃ v, e = .returned v /\ StRow zb w' w.heap.size v (writeM R met (ordL R.length ord))) /\ F0 w w' := by
 obtain ⟨ii, hi', hz0, hz1, hz2⟩ := info_parts Tryz.infoStep
 have HG := hid h
 have HO := hid ho
 have HRr := hid hR
 obtain ⟨oa, oc, c1, hod⟩ := h.od
 have HOD := hid hod
 obtain ⟨n, hnn⟩ : ∃ n, R.length = n := ⟨_, rfl⟩
 have HN := hid hnn
 rw [hnn] at c1 hn
 clear h ho hR hod hnn
 go_enter Tryz.func138, Tryz.ntmps138
 go_wp2_with fail
 go_loopg [5, 15] n (fun m v kv wr => ∃ k l, k <= n /\ m = n - k /\ kv = .int .i64 (k : Nat) /\ Hid (WrS zb w R met n ord k v l wr))
 case atStart => exact ⟨0, [], Nat.zero_le _, rfl, rfl, ⟨⟨[], World.ownsRow_nil _ _ _ _, rfl⟩, Fr.refl _ _, rfl, by simp⟩⟩
 case round =>
  obtain ⟨k, l, hk, rfl, rfl, HS⟩ := hrel
  obtain ⟨xs, ho1, hv1⟩ := HS.o.row
  obtain ⟨va, vc, e3⟩ := ownsRow_len ho1
  subst e3
  have HO1 : Hid (wr.ownsRow w.heap.size 172 4 (.slice va l.length vc) l.length xs /\ StVs zb wr l xs) := ⟨ho1, hv1⟩
  have hll := HS.o.le
  have hsz := HS.o.fr.size
  clear ho1 hv1
  by_cases hlt : k < n
  ·have hki : (k : Int) < (n : Int) := by omega
   obtain ⟨og, hog, hogl, hoc⟩ := HOD.o k (by have := HN.o; omega)
   subst hog
   obtain ⟨i, hi⟩ : ∃ i, ord k = i := ⟨_, rfl⟩
   have HI := hid hi
   have hin : i < n := by have := HO.o k (by have := HN.o; omega); have := HN.o; omega
   rw [hi] at hoc
   have d0 : wr.cell? ⟨og, k, none⟩ = some (.int .i64 i) := (HS.o.fr.cell (p := ⟨og, k, none⟩) hogl (by simp)).trans hoc
   obtain ⟨r, hr⟩ : ∃ r, R[i]? = some r := ⟨_, List.getElem?_eq_getElem (by have := HN.o; omega)⟩
   have HRi := hid hr
   have HHA : Hid (∀ W, Calls Tryz.prog 102 #[.int .u64 met, .int .i64 i] W fun e w' => e = .returned (.bool (met.testBit i)) /\ w' = W) := fun W => has_any met i W hm (by omega)
   have HW0 : Hid (writeM R met ((ordL n ord).drop k) = if met.testBit i then (if guardsM r = [] then [actM i r] else askedM r ++ (actM i r :: writeM R met ((ordL n ord).drop (k + 1)))) else writeM R met ((ordL n ord).drop (k + 1))) := by
    show _ = _
    rw [ordL_drop hlt, hi, writeM_cons R met i _ r hr]
   clear hi hr hoc
   cases hb : met.testBit i with
   | false =>
    rw [hb] at HHA HW0
    go_wp2_with fail
    refine (HHA.o _).mono ?_
    rintro e w2 ⟨rfl, hw⟩
    replace hw := hw.symm
    subst hw
    go_wp2_with fail
    go_roundg (n - (k + 1))
    case measure => omega
    case rel =>
     refine ⟨k + 1, l, by omega, rfl, by go_num, ⟨HS.o.row, HS.o.fr, ?_, by omega⟩⟩
     have e := HS.o.eq
     rw [HW0.o] at e
     simpa using e
   | true =>
    rw [hb] at HHA HW0
    have HGr := HG.o.fr HS.o.fr
    obtain ⟨va2, c2, g0, hrl⟩ := HGr.rl
    obtain ⟨g, ma, mc, ca, cc, pa, pc, eg, hgl, hcell, hm1, hc1, hp1⟩ := hrl i r HRi.o
    subst eg
    rw [HN.o] at g0
    have v0 := hcell 0 _ rfl
    have v1 := hcell 1 _ rfl
    have v2 := hcell 2 _ rfl
    have v3 := hcell 3 _ rfl
    have v4 := hcell 4 _ rfl
    have v5 := hcell 5 _ rfl
    have v6 := hcell 6 _ rfl
    have v7 := hcell 7 _ rfl
    have v8 := hcell 8 _ rfl
    have v9 := hcell 9 _ rfl
    have v10 := hcell 10 _ rfl
    have v11 := hcell 11 _ rfl
    have v12 := hcell 12 _ rfl
    have v13 := hcell 13 _ rfl
    rw [Nat.add_zero] at v0
    have hri := HRr.o r (List.mem_of_getElem? HRi.o)
    have HGD : Hid (Calls Tryz.prog 176 #[rlV r.name r.rank r.digits r.lo r.hi ma r.mcc.length mc r.am.isSome (r.am.getD (0, 0)).1 (r.am.getD (0, 0)).2 ca r.cur.length cc r.decline r.cheapest pa r.routes.length pc r.ahead] wr fun e w' => (∃ v, e = .returned v /\ StRow zb w' wr.heap.size v (guardsM r) /\ (guardsM r = [] -> v = .slice none 0 0)) /\ F0 wr w') := by
     rw [guardsM_eq]
     exact guards_any r.name r.rank r.digits r.lo r.hi ma mc r.am.isSome _ _ ca cc r.decline r.cheapest pa r.routes.length pc r.ahead r.mcc r.cur wr HGr.zl hm1 hc1 hri.1 hri.2
    unfold rlV at HGD
    have HCE := hid hcell
    have HGL := hid hgl
    have HP1 := hid hp1
    have hii : (i : Int) < (n : Int) := by omega
    clear hcell hm1 hc1 hp1 hri hrl HGr hgl
    go_wp2_with fail
    refine (HHA.o _).mono ?_
    rintro e w2 ⟨rfl, hw⟩
    replace hw := hw.symm
    subst hw
    go_wp2_with fail
    refine HGD.o.mono ?_
    rintro e w3 ⟨⟨v8', rfl, hs8, hz8⟩, hf3⟩
    obtain ⟨gs, hgs⟩ : ∃ gs, guardsM r = gs := ⟨_, rfl⟩
    have HGS := hid hgs
    have hgl : gs.length <= 3 := by rw [<- hgs]; exact guardsM_len r
    rw [show askedM r = skipsM (guardsM r).length 0 (guardsM r) from rfl, hgs] at HW0
    rw [hgs] at hs8 hz8
    obtain ⟨xs8, ho8, hv8⟩ := hs8
    obtain ⟨va8, vc8, e8⟩ := ownsRow_len ho8
    subst e8
    obtain ⟨m, hgm⟩ : ∃ m, gs.length = m := ⟨_, rfl⟩
    have HGM := hid hgm
    obtain ⟨wo, hwo⟩ : ∃ x, x = wr := ⟨_, rfl⟩
    subst hwo
    have HF0 : Hid (FillS zb wo (.slice va8 m vc8) gs 0 w3) := ⟨⟨xs8, by rw [fill_zero, <- hgm]; exact ho8, by rw [fill_zero]; exact hv8⟩, hf3⟩
    have HZ8 : Hid (gs = [] -> Value.slice va8 m vc8 = .slice none 0 0) := by rw [<- hgm]; exact hz8
    rw [hgm] at hgl ⊢
    clear hgs hgm hz8 ho8 hv8 hf3 v0 v1 v2 v3 v4 v5 v6 v7 v8 v9 v10 v11 v12 v13 g0 HHA HGD HCE HGL HP1 d0 hogl c1 HOD
    go_wp2_with fail
    go_loopg [33] m (fun mm kv wx => ∃ a, a <= m /\ mm = m - a /\ kv = .int .i64 (a : Nat) /\ Hid (FillS zb wo (.slice va8 m vc8) gs a wx))
    case atStart => exact ⟨0, Nat.zero_le _, rfl, rfl, HF0⟩
    case round =>
     obtain ⟨a, ha, rfl, rfl, HF⟩ := hrel
     by_cases hlt2 : a < m
     ·have hki2 : (a : Int) < (m : Int) := by omega
      obtain ⟨g8, e8⟩ : ∃ g8, va8 = some ⟨g8, 0, none⟩ := by
       obtain ⟨xsa, hoa, _⟩ := HF.o.row
       rcases hoa.2 with ⟨e, _⟩ | ⟨g', cap', cur, e, _⟩
       ·injection e with _ e2 _
        omega
       ·injection e with e1 _ _
        exact ⟨g', e1⟩
      subst e8
      obtain ⟨hst, ⟨u, hu⟩, hfz⟩ := HF.o.step HGM.o hlt2
      rw [show ((m - a + 1 : Nat) : Int) = (m : Int) - a + 1 from by omega] at hst
      have HST := hid hst
      clear hst
      go_wp2_with fail
      go_roundg (m - (a + 1))
      case measure => omega
      case rel => exact ⟨a + 1, by omega, rfl, by go_num, HST⟩
     ·have hae : a = m := by omega
      subst hae
      have hki2 : ¬ (a : Int) < (a : Int) := by omega
      have hFr : F0 w wr := HS.o.fr.trans HF.o.fr
      have HFr := hid hFr
      have HA1 : Hid (StRow zb wr wo.heap.size (.slice va8 a vc8) (skipsM gs.length 0 gs)) := by
       have e := HF.o.row
       rw [<- HGM.o, fill_all] at e
       rw [<- HGM.o]
       exact e
      have HP1 : Hid (wr.ownsRow w.heap.size 172 4 (.slice va l.length vc) l.length xs /\ StVs zb wr l xs) := ⟨ownsRow_fr HO1.o.1 HF.o.fr (by simp), HO1.o.2.keep (fun v n ys hv => ownsRow_fr hv HF.o.fr (by simp))⟩
      have hszr : w.heap.size <= wr.heap.size := hFr.size
      clear hFr HF HF0 HO1
      by_cases ha0 : a = 0
      ·subst ha0
       have hgs0 : gs = [] := List.length_eq_zero_iff.1 HGM.o
       have e8 := HZ8.o hgs0
       injection e8 with e8 _ e9
       subst e8 e9
       go_wp2_with (at_builtin; refine wpList_append_own_none rfl (.tmp 46) (.tmp 47) 101 rfl w.heap.size 172 ii 4 Tryz.underlying101 hi' (.slice va l.length vc) l.length xs rfl ?h1 rfl ?h2)
       case h1 => exact HP1.o.1
       refine (act_any (HG.o.fr HFr.o) i r HRi.o).mono ?_
       rintro e w5 ⟨⟨s, a1, b1, c1, nums, rfl, hact, hnum⟩, hf5⟩
       have HACT := hid hact
       have HNUM := hid hnum
       have HF5 := hid hf5
       have hsz5 : w.heap.size <= w5.heap.size := Nat.le_trans hszr hf5.size
       clear hact hnum hf5
       go_wp2_with (at_builtin; refine wpList_append_lies _ rfl (.tmp 49) (.tmp 53) 101 rfl w.heap.size 172 ii _ 4 48 Tryz.underlying101 hi' hz0 hz1 hz2 rfl (by decide) (.slice va l.length vc) l.length xs rfl ?q1 ⟨w5.heap.size, 0, none⟩ 1 1 [.int .u8 s, .slice a1 b1 c1, .int .i64 i, .int .i64 0] rfl rfl ?q2 ?q3 (by decide) ?q4 ?q5 ?q6 _ rfl ?q7)
       case q1 => exact (ownsRow_fr HP1.o.1 HF5.o (by simp)).alloc _
       case q2 => exact World.news_of_block (heap_alloc_new w5 (.cells #[.int .u8 s, .slice a1 b1 c1, .int .i64 i, .int .i64 0] 172))
       case q3 => simp [Value.oneCell']
       case q4 => unfold maxLen; omega
       case q5 => omega
       case q6 => simp; omega
       case q7 =>
        intro g2 cap2 w6 hown hgrow hor _
        have HR6 : Hid (StRow zb w6 w.heap.size (.slice (some ⟨g2, 0, none⟩) (l.length + 1) cap2) (l ++ [actM i r]) /\ F0 w w6) := by
         have hf : F0 wr (w5.alloc (.cells #[.int .u8 s, .slice a1 b1 c1, .int .i64 i, .int .i64 0] 172)) := HF5.o.alloc _
         rw [HACT.o]
         refine ⟨StRow.grown (l' := [⟨s, nums, i, 0⟩]) (ownsRow_fr HP1.o.1 hf (by simp)) (HP1.o.2.keep (fun v n ys hv => ownsRow_fr hv hf (by simp))) (StVs.one ⟨_, rfl, HNUM.o.alloc _⟩) hgrow hown, (HFr.o.trans hf).grown hgrow (fun k hk => Or.inr (HP1.o.1.lt k hk).1)⟩
        clear hown hgrow hor
        go_wp2_with fail
        go_ret
        refine ⟨⟨_, rfl, ?_⟩, HR6.o.2⟩
        have e := HS.o.eq
        rw [HW0.o, if_pos trivial, if_pos hgs0] at e
        rw [HN.o, e]
        exact HR6.o.1
      ·have hgs0 : ¬ gs = [] := fun e => ha0 (by have := HGM.o; rw [e] at this; exact this.symm)
       have ha0i : ¬ (a : Int) = 0 := by omega
       obtain ⟨xs8', ho8, hv8⟩ := HA1.o
       have hl8 : (skipsM gs.length 0 gs).length = a := by rw [skipsM_length]; exact HGM.o
       rw [hl8] at ho8
       obtain ⟨g8, cap8, e8, hb8, hlt8⟩ := ho8.form (by omega)
       injection e8 with e8 _ e9
       subst e8 e9
       have HO8 : Hid (wr.ownsRow wo.heap.size 172 4 (.slice (some ⟨g8, 0, none⟩) a vc8) a xs8' /\ StVs zb wr (skipsM gs.length 0 gs) xs8') := ⟨ho8, hv8⟩
       have HL8 := hid hl8
       clear ho8 hv8 hl8
       go_wp2_with (at_builtin; refine wpList_append_lies _ rfl (.tmp 46) (.tmp 47) 101 rfl w.heap.size 172 ii _ 4 48 Tryz.underlying101 hi' hz0 hz1 hz2 rfl (by decide) (.slice va l.length vc) l.length xs rfl ?p1 ⟨g8, 0, none⟩ a vc8 xs8' rfl HO8.o.1.1 ?p2 ?p3 (by omega) ?p4 ?p5 ?p6 _ rfl ?p7)
       case p1 => exact HP1.o.1
       case p2 =>
        intro j u hu
        have e := HO8.o.1.cells (g := g8) rfl j u hu
        rwa [addr_add', Nat.zero_add] at e
       case p3 => exact HO8.o.2.ones
       case p4 => unfold maxLen; omega
       case p5 => omega
       case p7 =>
        intro g4 cap4 w4 hown hgrow hor _
        have HR4 : Hid (StRow zb w4 w.heap.size (.slice (some ⟨g4, 0, none⟩) (l.length + a) cap4) (l ++ skipsM gs.length 0 gs) /\ F0 w w4) := by
         refine ⟨?_, HFr.o.grown hgrow (fun k hk => Or.inr (HP1.o.1.lt k hk).1)⟩
         have e := StRow.grown (g := g4) (cap := cap4) (l' := skipsM gs.length 0 gs) HP1.o.1 HP1.o.2 HO8.o.2 hgrow (by rw [HL8.o]; exact hown)
         rw [HL8.o] at e
         exact e
        have hsz4 : w.heap.size <= w4.heap.size := HR4.o.2.size
        clear hown hgrow hor
        obtain ⟨xs4, ho4, hv4⟩ := HR4.o.1
        rw [List.length_append, HL8.o] at ho4
        have HO4 : Hid (w4.ownsRow w.heap.size 172 4 (.slice (some ⟨g4, 0, none⟩) (l.length + a) cap4) (l.length + a) xs4 /\ StVs zb w4 (l ++ skipsM gs.length 0 gs) xs4) := ⟨ho4, hv4⟩
        clear ho4 hv4
        go_wp2_with fail
        refine (act_any (HG.o.fr HR4.o.2) i r HRi.o).mono ?_
        rintro e w5 ⟨⟨s, a1, b1, c1, nums, rfl, hact, hnum⟩, hf5⟩
        have HACT := hid hact
        have HNUM := hid hnum
        have HF5 := hid hf5
        have hsz5 : w.heap.size <= w5.heap.size := Nat.le_trans hsz4 hf5.size
        clear hact hnum hf5
        go_wp2_with (at_builtin; refine wpList_append_lies _ rfl (.tmp 49) (.tmp 53) 101 rfl w.heap.size 172 ii _ 4 48 Tryz.underlying101 hi' hz0 hz1 hz2 rfl (by decide) (.slice (some ⟨g4, 0, none⟩) (l.length + a) cap4) (l.length + a) xs4 rfl ?y1 ⟨w5.heap.size, 0, none⟩ 1 1 [.int .u8 s, .slice a1 b1 c1, .int .i64 i, .int .i64 0] rfl rfl ?y2 ?y3 (by decide) ?y4 ?y5 ?y6 _ rfl ?y7)
        case y1 => exact (ownsRow_fr HO4.o.1 HF5.o (by simp)).alloc _
        case y2 => exact World.news_of_block (heap_alloc_new w5 (.cells #[.int .u8 s, .slice a1 b1 c1, .int .i64 i, .int .i64 0] 172))
        case y3 => simp [Value.oneCell']
        case y4 => unfold maxLen; omega
        case y5 => omega
        case y6 => simp; omega
        case y7 =>
         intro g2 cap2 w6 hown hgrow hor _
         have HR6 : Hid (StRow zb w6 w.heap.size (.slice (some ⟨g2, 0, none⟩) (l.length + a + 1) cap2) ((l ++ skipsM gs.length 0 gs) ++ [actM i r]) /\ F0 w w6) := by
          have hf : F0 w4 (w5.alloc (.cells #[.int .u8 s, .slice a1 b1 c1, .int .i64 i, .int .i64 0] 172)) := HF5.o.alloc _
          rw [HACT.o]
          have hlen : (l ++ skipsM gs.length 0 gs).length = l.length + a := by rw [List.length_append, HL8.o]
          refine ⟨?_, (HR4.o.2.trans hf).grown hgrow (fun k hk => Or.inr (HO4.o.1.lt k hk).1)⟩
          have e := StRow.grown (g := g2) (cap := cap2) (l := l ++ skipsM gs.length 0 gs) (l' := [⟨s, nums, i, 0⟩]) (by rw [hlen]; exact ownsRow_fr HO4.o.1 hf (by simp)) (HO4.o.2.keep (fun v n ys hv => ownsRow_fr hv hf (by simp))) (StVs.one ⟨_, rfl, HNUM.o.alloc _⟩) hgrow (by rw [hlen]; exact hown)
          rw [hlen] at e
          exact e
         clear hown hgrow hor
         go_wp2_with fail
         go_roundg (n - (k + 1))
         case measure => omega
         case rel =>
          refine ⟨k + 1, (l ++ skipsM gs.length 0 gs) ++ [actM i r], by omega, rfl, by go_num, ⟨?_, HR6.o.2, ?_, ?_⟩⟩
          ·exact HR6.o.1
          ·have e := HS.o.eq
           rw [HW0.o, if_pos trivial, if_neg hgs0] at e
           rw [e]
           simp
          ·rw [List.length_append, List.length_append, HL8.o]
           simp
           omega
  ·have hke : k = n := by omega
   subst hke
   have hki : ¬ (k : Int) < (k : Int) := by omega
   go_wp2_with (at_builtin; refine wpList_append_lies _ rfl (.tmp 60) (.tmp 62) 101 rfl w.heap.size 172 ii _ 4 48 Tryz.underlying101 hi' hz0 hz1 hz2 rfl (by decide) (.slice va l.length vc) l.length xs rfl ?z1 ⟨wr.heap.size, 0, none⟩ 1 1 [.int .u8 6, .slice none 0 0, .int .i64 0, .int .i64 0] rfl rfl ?z2 ?z3 (by decide) ?z4 ?z5 ?z6 _ rfl ?z7)
   case z1 => exact HO1.o.1.alloc _
   case z3 => simp [Value.oneCell']
   case z4 => unfold maxLen; omega
   case z5 => omega
   case z6 => omega
   case z7 =>
    intro g2 cap2 w6 hown hgrow hor _
    have HR6 : Hid (StRow zb w6 w.heap.size (.slice (some ⟨g2, 0, none⟩) (l.length + 1) cap2) (l ++ [⟨6, [], 0, 0⟩]) /\ F0 w w6) := by
     have hf : F0 wr (wr.alloc (.cells #[.int .u8 6, .slice none 0 0, .int .i64 0, .int .i64 0] 172)) := (Fr.refl _ _).alloc _
     exact ⟨StRow.grown (l' := [⟨6, [], 0, 0⟩]) (HO1.o.1.alloc _) (HO1.o.2.keep (fun v n ys hv => hv.alloc _)) (StVs.one ⟨.slice none 0 0, rfl, World.ownsRow_nil _ _ _ _⟩) hgrow hown, (HS.o.fr.trans hf).grown hgrow (fun k hk => Or.inr (HO1.o.1.lt k hk).1)⟩
    clear hown hgrow hor
    go_wp2_with fail
    go_ret
    refine ⟨⟨_, rfl, ?_⟩, HR6.o.2⟩
    have e := HS.o.eq
    rw [List.drop_of_length_le (by unfold ordL; simp)] at e
    rw [HN.o, e]
    exact HR6.o.1
end Go.Proofs.YtccikgogjfbpeabGreatDoor
