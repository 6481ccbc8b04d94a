/- The parser: entry, parse. The sense of tokens: value. The sense of tokens: digits, span, spanUpTo. -/
import Derived.Test.YtccikgogjfbpeabGreatDoorWHa
import Derived.Test.YtccikgogjfbpeabGreatDoorWQf
import Derived.Test.YtccikgogjfbpeabGreatDoorWQa
import Derived.Lib.ConvBytes
namespace Go.Proofs.YtccikgogjfbpeabGreatDoor
open Go.RowKit
def EntV (base : Nat) (w : World) (x : EntE) (v : Value) : Prop :=
 match x with
 | .route r => v = .iface 233 (routeV r)
 | .rule r => ∃ vm vc vr, v = .iface 238 (ruleV r vm vc vr) /\ w.ownsRow base 207 3 vm r.mcc.length (tkRow r.mcc) /\ w.ownsRow base 207 3 vc r.cur.length (tkRow r.cur) /\ w.ownsRow base 207 3 vr r.act.routes.length (tkRow r.act.routes)
theorem EntV.fr {base base' : Nat} {w w' : World} {x : EntE} {v : Value} {S : Nat -> Prop} (h : EntV base w x v) (hf : Fr S w w') (hS : ∀ k, S k -> k < base) (hb : base' <= base) : EntV base' w' x v := by
 cases x with
 | route r => exact h
 | rule r =>
  obtain ⟨vm, vc, vr, hv, h1, h2, h3⟩ := h
  exact ⟨vm, vc, vr, hv, ownsRow_base (ownsRow_fr h1 hf hS) hb, ownsRow_base (ownsRow_fr h2 hf hS) hb, ownsRow_base (ownsRow_fr h3 hf hS) hb⟩
set_option maxHeartbeats 400000 in
theorem entry_any (w : World) (p g cap : Nat) (ts : List Tk) (i : Nat) (h : Pa w p g cap ts i) :
  Calls Tryz.prog 113 #[.pointer (some ⟨p, 0, none⟩)] w (PPost (entryM ts i) (fun x v w' => EntV w.heap.size w' x v) w p g cap ts) := by
 have HP := hid h
 have hpl : p < w.heap.size := World.block_lt_of_cell? w _ h.c0
 clear h
 cases hq : isFix (tkAt ts i) kwRoute with
 | true =>
  go_enter Tryz.func113, Tryz.ntmps113
  go_wp2_with fail
  refine (skip_yes w p g cap ts i _ kwRoute HP.o HP.o.at hq).mono ?_
  rintro e w1 ⟨rfl, hp1, hf⟩
  have HF1 := hid hf
  have HP1 := hid hp1
  clear hp1 hf
  go_wp2_with fail
  refine (route_any _ p g cap ts (i + 1) HP1.o).mono ?_
  intro e w2 hT
  cases hM : routeM ts (i + 1) with
  | error l =>
   obtain ⟨he, hf⟩ := (PPost.err hM).1 hT
   unfold faultE at he
   subst he
   exact ⟨rfl, (PPost.err (by unfold entryM; rw [if_pos hq, bindM_err hM])).2 ⟨rfl, HF1.o.trans hf⟩⟩
  | ok r =>
   obtain ⟨r, i2⟩ := r
   obtain ⟨⟨v, rfl, rfl⟩, hp2, hf⟩ := (PPost.ok hM).1 hT
   have HF2 := hid (HF1.o.trans hf)
   have HP2 := hid hp2
   have hL : Hid (entryM ts i = .ok (.route r, i2)) := by show _ = _; unfold entryM; rw [if_pos hq, bindM_ok hM]
   clear hM hT hp2 hf
   generalize hv : routeV r = v
   have HV := hid hv
   clear hv
   go_wp2
   go_ret
   refine (PPost.ok hL.o).2 ⟨⟨_, rfl, ?_⟩, HP2.o, HF2.o⟩
   show _ = _
   rw [HV.o]
   rfl
 | false =>
  go_enter Tryz.func113, Tryz.ntmps113
  go_wp2_with fail
  refine (skip_no w p g cap ts i _ kwRoute HP.o HP.o.at hq).mono ?_
  rintro e w1 ⟨rfl, hf⟩
  have HF1 : Hid (Fr (fun k => k = p) w w1) := hf.mono (by simp)
  have HP1 := hid (HP.o.fr hf (by simp))
  clear hf
  go_wp2_with fail
  refine (expect_any _ p g cap ts i kwRule HP1.o).mono ?_
  intro e w2 hT
  cases hM : expectM ts i kwRule with
  | error l =>
   obtain ⟨he, hf⟩ := (PPost.err hM).1 hT
   unfold faultE at he
   subst he
   exact ⟨rfl, (PPost.err (by unfold entryM; rw [if_neg (by simp [hq]), bindM_err hM])).2 ⟨rfl, HF1.o.trans hf⟩⟩
  | ok r =>
   obtain ⟨u, i2⟩ := r
   obtain ⟨⟨v, rfl, rfl⟩, hp2, hf⟩ := (PPost.ok hM).1 hT
   have HF2 := hid (HF1.o.trans hf)
   have HP2 := hid hp2
   have hA := hid hM
   clear hM hT hp2 hf
   go_wp2_with fail
   refine (rule_any _ p g cap ts i2 HP2.o).mono ?_
   intro e w3 hT
   cases hM : ruleM ts i2 with
   | error l =>
    obtain ⟨he, hf⟩ := (PPost.err hM).1 hT
    unfold faultE at he
    subst he
    exact ⟨rfl, (PPost.err (by unfold entryM; rw [if_neg (by simp [hq]), bindM_ok hA.o, bindM_err hM])).2 ⟨rfl, HF2.o.trans hf⟩⟩
   | ok r =>
    obtain ⟨r, i3⟩ := r
    obtain ⟨⟨v, rfl, vm, vc, vr, hv, h1, h2, h3⟩, hp3, hf⟩ := (PPost.ok hM).1 hT
    have HF3 := hid (HF2.o.trans hf)
    have HP3 := hid hp3
    have hL : Hid (entryM ts i = .ok (.rule r, i3)) := by show _ = _; unfold entryM; rw [if_neg (by simp [hq]), bindM_ok hA.o, bindM_ok hM]
    have HV : Hid (EntV w.heap.size w3 (.rule r) (.iface 238 v)) := ⟨vm, vc, vr, by rw [hv], ownsRow_base h1 HF2.o.size, ownsRow_base h2 HF2.o.size, ownsRow_base h3 HF2.o.size⟩
    clear hM hT hp3 hf hv h1 h2 h3
    go_wp2
    go_ret
    exact (PPost.ok hL.o).2 ⟨⟨_, rfl, HV.o⟩, HP3.o, HF3.o⟩
def EntVs (base : Nat) (w : World) : List EntE -> List Value -> Prop
 | [], [] => True
 | x :: xs, v :: vs => EntV base w x v /\ EntVs base w xs vs
 | _, _ => False
theorem EntVs.fr {base : Nat} {w w' : World} {S : Nat -> Prop} (hf : Fr S w w') (hS : ∀ k, S k -> k < base) : ∀ {xs : List EntE} {vs : List Value}, EntVs base w xs vs -> EntVs base w' xs vs
 | [], [], _ => trivial
 | _ :: _, _ :: _, h => ⟨h.1.fr hf hS (Nat.le_refl _), EntVs.fr hf hS h.2⟩
 | [], _ :: _, h => h
 | _ :: _, [], h => h
theorem EntVs.base {base base' : Nat} {w : World} (hb : base' <= base) : ∀ {xs : List EntE} {vs : List Value}, EntVs base w xs vs -> EntVs base' w xs vs
 | [], [], _ => trivial
 | _ :: _, _ :: _, h => ⟨h.1.fr (Fr.refl (fun _ => False) w) (by simp) hb, EntVs.base hb h.2⟩
 | [], _ :: _, h => h
 | _ :: _, [], h => h
theorem EntV.iface {base : Nat} {w : World} {x : EntE} {v : Value} (h : EntV base w x v) : ∃ T u, v = .iface T u := by
 cases x with
 | route r => exact ⟨_, _, h⟩
 | rule r => obtain ⟨_, _, _, hv, _⟩ := h; exact ⟨_, _, hv⟩
theorem EntVs.length {base : Nat} {w : World} : ∀ {xs : List EntE} {vs : List Value}, EntVs base w xs vs -> xs.length = vs.length
 | [], [], _ => rfl
 | _ :: _, _ :: _, h => by simp [EntVs.length h.2]
theorem EntVs.snoc {base : Nat} {w : World} {x : EntE} {v : Value} (hx : EntV base w x v) : ∀ {xs : List EntE} {vs : List Value}, EntVs base w xs vs -> EntVs base w (xs ++ [x]) (vs ++ [v])
 | [], [], _ => ⟨hx, trivial⟩
 | _ :: _, _ :: _, h => ⟨h.1, EntVs.snoc hx h.2⟩
theorem own_ne {w : World} {b1 b2 : Nat} {e1 e2 : TypeId} {s1 s2 : Nat} {v u : Value} {n m : Nat} {xs ys : List Value} (h : w.ownsRow b1 e1 s1 v n xs) (k : w.ownsRow b2 e2 s2 u m ys) (hne : e1 ≠ e2) : v.ownBlock = none \/ v.ownBlock ≠ u.ownBlock := by
 rcases h.2 with ⟨rfl, _⟩ | ⟨g, cap, cur, rfl, _, hg, _⟩
 ·exact .inl rfl
 ·refine .inr fun e => ?_
  rcases k.2 with ⟨rfl, _⟩ | ⟨g', cap', cur', rfl, _, hg', _⟩
  ·simp [Value.ownBlock] at e
  ·simp [Value.ownBlock] at e
   subst e
   rw [hg] at hg'
   injection hg' with hg'
   injection hg' with _ hg'
   exact hne hg'
theorem EntV.grown {base b2 m : Nat} {w w' : World} {x : EntE} {v u : Value} {ys : List Value} (h : EntV base w x v) (k : w.ownsRow b2 200 1 u m ys) (hg : w.grownBy w' u.ownBlock) : EntV base w' x v := by
 cases x with
 | route r => exact h
 | rule r =>
  obtain ⟨vm, vc, vr, hv, h1, h2, h3⟩ := h
  exact ⟨vm, vc, vr, hv, h1.kept hg (own_ne h1 k (by decide)), h2.kept hg (own_ne h2 k (by decide)), h3.kept hg (own_ne h3 k (by decide))⟩
theorem EntVs.grown {base b2 m : Nat} {w w' : World} {u : Value} {ys : List Value} (k : w.ownsRow b2 200 1 u m ys) (hg : w.grownBy w' u.ownBlock) : ∀ {xs : List EntE} {vs : List Value}, EntVs base w xs vs -> EntVs base w' xs vs
 | [], [], _ => trivial
 | _ :: _, _ :: _, h => ⟨h.1.grown k hg, EntVs.grown k hg h.2⟩
 | [], _ :: _, h => h
 | _ :: _, [], h => h
theorem Tryz.infoEntry : (Tryz.prog.info? 200).map (fun i => (i.zero, i.size, i.bytes)) = some (some .nilIface, 1, 16) := by kernel_rfl
theorem field_sort (a b c : Value) (w : World) : (Instr.field 207 (.agg #[a, b, c]) 0).run Tryz.prog w = .ok a w := by kernel_rfl
def Parsed (w : World) (ts : List Tk) (e : Ending) (w' : World) : Prop :=
 match parseFrom ts 0 [] with
 | .ok (xs, _) => (∃ v vs, e = .returned v /\ w'.ownsRow w.heap.size 200 1 v xs.length vs /\ EntVs w.heap.size w' xs vs /\ xs.length <= 4000) /\ Below w.heap.size w w'
 | .error l => e = faultE 3 l /\ Below w.heap.size w w'
set_option maxHeartbeats 1000000 in
theorem parse_any (w : World) (g cap : Nat) (ts : List Tk) (hrow : ∀ j t, ts[j]? = some t -> w.cell? ⟨g, j * 3, none⟩ = some (.int .i64 t.sort) /\ w.cell? ⟨g, j * 3 + 1, none⟩ = some (.string t.text) /\ w.cell? ⟨g, j * 3 + 2, none⟩ = some (.int .i64 t.line))
  (hgl : g < w.heap.size) (h0 : 0 < ts.length) (hfew : ts.length <= 4000) (hlast : (ts.getLastD ⟨3, ByteArray.empty, 0⟩).sort = 3) :
  Calls Tryz.prog 75 #[.slice (some ⟨g, 0, none⟩) ts.length cap] w (Parsed w ts) := by
 have HP : Hid (Pa (w.alloc (.cells #[.slice (some ⟨g, 0, none⟩) ts.length cap, .int .i64 0] 204)) w.heap.size g cap ts 0) := by
  refine ⟨by simp [go_sem], by simp [go_sem], by simp [go_sem], fun j t hj => ?_, by omega, by simp; omega, h0, hfew, hlast⟩
  rw [World.cell?_alloc_lt _ _ _ (by exact hgl), World.cell?_alloc_lt _ _ _ (by exact hgl), World.cell?_alloc_lt _ _ _ (by exact hgl)]
  exact hrow j t hj
 obtain ⟨ii, hi, hz0, hz1, hz2⟩ := info_parts Tryz.infoEntry
 have hfd := field_sort
 clear hrow hlast h0
 go_enter Tryz.func75, Tryz.ntmps75
 go_wp2_with fail
 go_loopg [4] ts.length (fun m l wr => ∃ j acc vs, m = ts.length - j /\ Hid (Pa wr w.heap.size g cap ts j) /\ Hid (Below w.heap.size w wr) /\ Hid (wr.ownsRow (w.heap.size + 1) 200 1 l acc.length vs) /\ Hid (EntVs (w.heap.size + 1) wr acc vs) /\ Hid (acc.length <= j) /\ Hid (parseFrom ts 0 [] = parseFrom ts j acc))
 case atStart => exact ⟨0, [], [], rfl, HP.o, (Below.refl _ _).alloc (Nat.le_refl _) _, World.ownsRow_nil _ _ _ _, trivial, Nat.zero_le _, rfl⟩
 case round =>
  obtain ⟨j, acc, vs, rfl, HPj, HB, HO, HV, HL, HR⟩ := hrel
  have hpl : w.heap.size < wr.heap.size := World.block_lt_of_cell? wr _ HPj.o.c0
  by_cases h3 : (tkAt ts j).sort = 3
  ·go_wp2_with fail
   refine (here_any wr w.heap.size g cap ts j _ HPj.o HPj.o.at).mono ?_
   rintro e w1 ⟨rfl, hf⟩
   have HF := hid hf
   have hfin : Hid (Parsed w ts (.returned u4) w1) := by
    show Parsed w ts (.returned u4) w1
    unfold Parsed
    rw [HR.o.trans (parseFrom_end h3)]
    refine ⟨⟨u4, vs, rfl, ownsRow_base (ownsRow_fr HO.o hf (by simp)) (by omega), ?_, ?_⟩, HB.o.trans (hf.below (by omega) (by simp))⟩
    ·exact EntVs.base (by omega) (EntVs.fr hf (by simp) HV.o)
    ·have := HL.o; have := HPj.o.lt; omega
   clear hf
   simp only [tkV, h3]
   clear h3 hpl
   go_wp2
   go_ret
   exact hfin.o
  ·have hne : (((tkAt ts j).sort : Int) != 3) = true := by simp; omega
   have H3 := hid h3
   clear h3
   go_wp2_with fail
   refine (here_any wr w.heap.size g cap ts j _ HPj.o HPj.o.at).mono ?_
   rintro e w1 ⟨rfl, hf⟩
   have HP1 := hid (HPj.o.fr hf (by simp))
   have HB1 := hid (HB.o.trans (hf.below (by omega) (by simp)))
   have HO1 := hid (ownsRow_fr HO.o hf (by simp))
   have HV1 := hid (EntVs.fr hf (by simp) HV.o)
   have hs1 : w.heap.size < w1.heap.size := Nat.lt_of_lt_of_le hpl hf.size
   clear hf HPj HB HO HV
   simp only [tkV]
   go_wp2_with fail
   refine (entry_any _ w.heap.size g cap ts j HP1.o).mono ?_
   intro e w2 hT
   cases hM : entryM ts j with
   | error l =>
    obtain ⟨he, hf⟩ := (PPost.err hM).1 hT
    unfold faultE at he
    subst he
    have hfin : Parsed w ts (faultE 3 l) w2 := by
     unfold Parsed
     rw [HR.o.trans (parseFrom_err1 H3.o hM)]
     exact ⟨rfl, HB1.o.trans (hf.below (by omega) (fun k hk => by omega))⟩
    exact ⟨rfl, hfin⟩
   | ok r =>
    obtain ⟨x, j2⟩ := r
    obtain ⟨⟨v, rfl, hx⟩, hp2, hf⟩ := (PPost.ok hM).1 hT
    obtain ⟨T, u, rfl⟩ := hx.iface
    have HX : Hid (EntV (w.heap.size + 1) w2 x (.iface T u)) := hx.fr (Fr.refl (fun _ => False) w2) (by simp) (by omega)
    have HP2 := hid hp2
    have HB2 := hid (HB1.o.trans (hf.below (by omega) (fun k hk => by omega)))
    have HO2 := hid (ownsRow_fr HO1.o hf (fun k hk => by omega))
    have HV2 := hid (EntVs.fr hf (fun k hk => by omega) HV1.o)
    have hs2 : w.heap.size < w2.heap.size := Nat.lt_of_lt_of_le hs1 hf.size
    have HM := hid hM
    have hlt := entryM_lt hM
    have hacc := HL.o
    have hj := HP1.o.lt
    clear hM hT hp2 hf hx HP1 HB1 HO1 HV1 hs1
    go_wp2_with (at_builtin; refine wpList_append_lies _ rfl (.tmp 12) (.tmp 15) 149 rfl (w.heap.size + 1) 200 ii _ 1 16 Tryz.underlying149 hi hz0 hz1 hz2 rfl (by decide) u4 acc.length vs rfl ?h1 ⟨w2.heap.size, 0, none⟩ 1 1 [.iface T u] rfl rfl ?h2 ?h3 (by decide) ?h4 ?h5 ?h6 _ rfl ?h7)
    case h1 => exact HO2.o.alloc _
    case h2 => exact World.news_of_block (heap_alloc_new w2 _)
    case h3 => simp [Value.oneCell']
    case h4 => unfold maxLen; omega
    case h5 => omega
    case h6 => simp; omega
    case h7 =>
     intro g2 cap2 w3 hown hgrow _ _
     have hal : F0 w2 (w2.alloc (.cells #[.iface T u] 200)) := (Fr.refl _ _).alloc _
     have hrow : ∀ k, u4.ownBlock = some k -> w.heap.size + 1 <= k := fun k hk => (HO2.o.lt k hk).1
     have HO3 := hid hown
     have HV3 := hid (EntVs.snoc ((HX.o.fr hal (by simp) (Nat.le_refl _)).grown (HO2.o.alloc _) hgrow) (EntVs.grown (HO2.o.alloc _) hgrow (EntVs.fr hal (by simp) HV2.o)))
     have hfr : Fr (fun k => w.heap.size + 1 <= k) w2 w3 := (((Fr.refl _ _).alloc _).grown hgrow (fun k hk => Or.inl (hrow k hk)))
     have HP3 := hid (HP2.o.fr hfr (fun k hk => by omega))
     have HB3 := hid (HB2.o.trans (hfr.below (by omega) (fun k hk => by omega)))
     have hs3 : w.heap.size < w3.heap.size := Nat.lt_of_lt_of_le hs2 hfr.size
     clear hal hrow hown hgrow hfr HO2 HV2 HP2 HB2 HX hs2
     go_wp2_with fail
     refine (expect_any _ w.heap.size g cap ts j2 mSemi HP3.o).mono ?_
     intro e w4 hT
     cases hE : expectM ts j2 mSemi with
     | error l =>
      obtain ⟨he, hf⟩ := (PPost.err hE).1 hT
      unfold faultE at he
      subst he
      have hfin : Parsed w ts (faultE 3 l) w4 := by
       unfold Parsed
       rw [HR.o.trans (parseFrom_err2 H3.o HM.o hE)]
       exact ⟨rfl, HB3.o.trans (hf.below (by omega) (fun k hk => by omega))⟩
      exact ⟨rfl, hfin⟩
     | ok r =>
      obtain ⟨u0, j4⟩ := r
      obtain ⟨⟨v, rfl, rfl⟩, hp4, hf⟩ := (PPost.ok hE).1 hT
      have HP4 := hid hp4
      have HB4 := hid (HB3.o.trans (hf.below (by omega) (fun k hk => by omega)))
      have HO4 := hid (ownsRow_fr HO3.o hf (fun k hk => by omega))
      have HV4 := hid (EntVs.fr hf (fun k hk => by omega) HV3.o)
      have HR4 := hid (HR.o.trans (parseFrom_ok H3.o HM.o hE))
      have hj4 := expectM_ok hE
      clear hE hT hp4 hf
      go_wp2
      go_roundg (ts.length - j4)
      case measure => omega
      case rel =>
       refine ⟨j4, acc ++ [x], vs ++ [.iface T u], rfl, HP4, HB4, ?_, HV4, ?_, HR4⟩
       ·show World.ownsRow _ _ _ _ _ _ _
        rw [List.length_append]; exact HO4.o
       ·show _ <= _
        simp; omega
end Go.Proofs.YtccikgogjfbpeabGreatDoor

namespace Go.Proofs.YtccikgogjfbpeabGreatDoor
open Go.RowKit
def numOf (l : List UInt8) : Nat := l.foldl (fun n c => n * 10 + (c.toNat - 48)) 0
theorem numOf_snoc (l : List UInt8) (c : UInt8) : numOf (l ++ [c]) = numOf l * 10 + (c.toNat - 48) := by simp [numOf]
def Dg (t : ByteArray) : Prop := t.size <= 9 /\ ∀ k, k < t.size -> 48 <= bAt t k /\ bAt t k <= 57
theorem numOf_lt (s : ByteArray) (hd : Dg s) : ∀ k, k <= s.size -> numOf (s.data.toList.take k) + 1 <= 10 ^ k := by
 intro k
 induction k with
 | zero => intro _; simp [numOf]
 | succ k ih =>
  intro hk
  have h1 := ih (by omega)
  have h2 := (hd.2 k (by omega)).2
  have h0 := (hd.2 k (by omega)).1
  rw [List.take_succ_eq_append_getElem (by simp; omega), numOf_snoc]
  have h3 : bAt s k = ((s.data.toList[k]'(by simp; omega)).toNat : Int) := bAt_of s k (by omega)
  rw [h3] at h2 h0
  rw [Nat.pow_succ]
  omega
theorem numOf_bound (s : ByteArray) (hd : Dg s) (k : Nat) (hk : k <= s.size) : numOf (s.data.toList.take k) + 1 <= 1000000000 := by
 have hb := numOf_lt s hd k hk
 have hp : 10 ^ k <= 10 ^ 9 := Nat.pow_le_pow_right (by decide) (by have := hd.1; omega)
 exact Nat.le_trans hb hp
theorem numOf_step (s : ByteArray) (hd : Dg s) (k : Nat) (hk : k < s.size) : (numOf (s.data.toList.take (k + 1)) : Int) = (numOf (s.data.toList.take k) : Int) * 10 + (bAt s k - 48) := by
 rw [List.take_succ_eq_append_getElem (by simp; omega), numOf_snoc]
 have h3 : bAt s k = ((s.data.toList[k]'(by simp; omega)).toNat : Int) := bAt_of s k (by omega)
 have h0 := (hd.2 k hk).1
 rw [h3] at h0 ⊢
 omega
theorem bytesWorld_fr (w : World) (e : TypeId) (s : ByteArray) : F0 w (Lib.bytesWorld w e s) :=
 ⟨by unfold Lib.bytesWorld World.freeze; split <;> rfl, by unfold Lib.bytesWorld World.freeze; split <;> rfl, by unfold Lib.bytesWorld World.freeze; split <;> rfl, by rw [Lib.bytesWorld_size]; omega, fun k hk _ => Lib.bytesWorld_at_old w e s k hk⟩
set_option maxHeartbeats 400000 in
theorem value_any (t : Tk) (w : World) (hd : Dg t.text) :
  Calls Tryz.prog 262 #[tkV t] w fun e w' => e = .returned (.int .i64 (numOf t.text.data.toList)) /\ F0 w w' := by
 have HD := hid hd
 have hcv := fun w => Lib.run_convert_string_bytes (P := Tryz.prog) w 9 104 5 t.text Tryz.underlying9 Tryz.underlying104 Tryz.underlying5
 clear hd
 unfold tkV
 go_enter Tryz.func262, Tryz.ntmps262
 go_wp2_with fail
 have HF : Hid (Fr _ w (Lib.bytesWorld (w.alloc (.cells #[.int .i64 t.sort, .string t.text, .int .i64 t.line] 207)) 5 t.text)) := ((Fr.refl _ _).alloc _).trans (bytesWorld_fr _ _ _)
 have hcell : ∀ j, j < t.text.size -> (Lib.bytesWorld (w.alloc (.cells #[.int .i64 t.sort, .string t.text, .int .i64 t.line] 207)) 5 t.text).cell? ⟨w.heap.size + 1, j, none⟩ = some (.int .u8 (bAt t.text j)) := fun j hj => by
  have := Lib.bytesWorld_cell (w.alloc (.cells #[.int .i64 t.sort, .string t.text, .int .i64 t.line] 207)) 5 t.text j hj
  simpa [bAt] using this
 have HC := hid hcell
 clear hcell hcv
 have hs9 : t.text.size <= 9 := HD.o.1
 generalize Lib.bytesWorld (w.alloc (.cells #[.int .i64 t.sort, .string t.text, .int .i64 t.line] 207)) 5 t.text = W at *
 generalize grownCap _ _ _ _ = cap at *
 go_loop [3, 5, 10] (fun n _ i => ∃ k : Nat, k <= t.text.size /\ i = .int .i64 k /\ n = .int .i64 (numOf (t.text.data.toList.take k))) (fun _ _ i => t.text.size - (intOf i).toNat)
 case atStart => exact ⟨0, Nat.zero_le _, rfl, rfl⟩
 case round =>
  obtain ⟨k, hk, rfl, rfl⟩ := hrel
  have hn := numOf_bound t.text HD.o k hk
  by_cases hlt : k < t.text.size
  ·have hc := HC.o k hlt
   have hst : Hid _ := numOf_step t.text HD.o k hlt
   have hbd := HD.o.2 k hlt
   have hki : (k : Int) < (t.text.size : Int) := by omega
   generalize numOf (t.text.data.toList.take k) = n at *
   generalize bAt t.text k = c at *
   go_wp2
   refine ⟨⟨k + 1, by omega, by go_num, ?_⟩, by simp [intOf]; omega⟩
   rw [hst.o]
  ·go_wp2
   go_ret
   exact ⟨ret_int (by rw [List.take_of_length_le (by simp; omega)]), HF.o⟩
def valOf (t : Tk) : Nat := numOf t.text.data.toList
theorem valOf_bound (t : Tk) (hd : Dg t.text) : valOf t <= 999999999 := by
 have := numOf_bound t.text hd t.text.size (Nat.le_refl _)
 rw [List.take_of_length_le (by simp)] at this
 unfold valOf
 omega
set_option maxHeartbeats 400000 in
theorem upTo_ok (t : Tk) (w : World) (most : Nat) (i1 : Int) (hd : Dg t.text) (hm : valOf t <= most) (e1 : i1 = most) :
  Calls Tryz.prog 265 #[tkV t, .int .i64 i1] w fun e w' => e = .returned (.int .i64 (valOf t)) /\ F0 w w' := by
 subst e1
 have HV : Hid (∀ W, Calls Tryz.prog 262 #[.agg #[.int .i64 t.sort, .string t.text, .int .i64 t.line]] W fun e w' => e = .returned (.int .i64 (valOf t)) /\ F0 W w') := fun W => value_any t W hd
 have hle : ¬ (most : Int) < (valOf t : Int) := by omega
 clear hm
 generalize valOf t = n at *
 unfold tkV
 go_enter Tryz.func265, Tryz.ntmps265
 go_wp2_with (go_at_call 262; refine (HV.o _).mono ?_; rintro e w1 ⟨rfl, hf⟩; have HF : Hid (F0 w w1) := ((Fr.refl _ _).alloc _).trans hf; clear hf)
 go_ret
 exact ⟨rfl, HF.o⟩
set_option maxHeartbeats 400000 in
theorem upTo_bad (t : Tk) (w : World) (most : Nat) (i1 : Int) (hd : Dg t.text) (hm : most < valOf t) (e1 : i1 = most) :
  Calls Tryz.prog 265 #[tkV t, .int .i64 i1] w fun e w' => e = faultE 5 t.line /\ F0 w w' := by
 subst e1
 have HV : Hid (∀ W, Calls Tryz.prog 262 #[.agg #[.int .i64 t.sort, .string t.text, .int .i64 t.line]] W fun e w' => e = .returned (.int .i64 (valOf t)) /\ F0 W w') := fun W => value_any t W hd
 have hle : (most : Int) < (valOf t : Int) := by omega
 clear hm
 generalize valOf t = n at *
 unfold tkV
 go_enter Tryz.func265, Tryz.ntmps265
 go_wp2_with fail
 refine (HV.o _).mono ?_
 rintro e w1 ⟨rfl, hf⟩
 have HF := hid (((Fr.refl _ _).alloc _).trans hf)
 have hB := hf.whole (heap_alloc_new w _) (by simp)
 have e0 := block_cell hB 0 _ rfl
 have e1 := block_cell hB 1 _ rfl
 have e2 := block_cell hB 2 _ rfl
 clear hB hf
 go_wp2_with fail
 refine (giveUp_any t 5 _ _ (by rfl)).mono ?_
 rintro e w3 ⟨he, hf⟩
 unfold faultE at he
 subst he
 exact ⟨rfl, rfl, HF.o.trans hf⟩
end Go.Proofs.YtccikgogjfbpeabGreatDoor

namespace Go.Proofs.YtccikgogjfbpeabGreatDoor
open Go.RowKit
set_option maxHeartbeats 400000 in
theorem digits_ok (a b : Tk) (w : World) (h1 : a.text.size <= 6) (h2 : b.text.size = a.text.size) :
  Calls Tryz.prog 266 #[pairV (a, b)] w fun e w' => e = .returned (.int .i64 a.text.size) /\ F0 w w' := by
 have hn : ¬ (6 : Int) < (a.text.size : Int) := by omega
 have hq : ((b.text.size : Int) != (a.text.size : Int)) = false := by simp; omega
 clear h1 h2
 unfold pairV
 go_enter Tryz.func266, Tryz.ntmps266
 go_wp2
 go_ret
 exact ⟨rfl, (Fr.refl _ _).alloc _⟩
set_option maxHeartbeats 400000 in
theorem digits_long (a b : Tk) (w : World) (h1 : 6 < a.text.size) :
  Calls Tryz.prog 266 #[pairV (a, b)] w fun e w' => e = faultE 5 a.line /\ F0 w w' := by
 have hn : (6 : Int) < (a.text.size : Int) := by omega
 clear h1
 unfold pairV
 go_enter Tryz.func266, Tryz.ntmps266
 go_wp2_with fail
 refine (giveUp_any a 5 _ _ (by rfl)).mono ?_
 rintro e w3 ⟨he, hf⟩
 unfold faultE at he
 subst he
 exact ⟨rfl, rfl, ((Fr.refl _ _).alloc _).trans hf⟩
set_option maxHeartbeats 400000 in
theorem digits_other (a b : Tk) (w : World) (h1 : a.text.size <= 6) (h2 : b.text.size ≠ a.text.size) :
  Calls Tryz.prog 266 #[pairV (a, b)] w fun e w' => e = faultE 5 b.line /\ F0 w w' := by
 have hn : ¬ (6 : Int) < (a.text.size : Int) := by omega
 have hq : ((b.text.size : Int) != (a.text.size : Int)) = true := by simp; omega
 clear h1 h2
 unfold pairV
 go_enter Tryz.func266, Tryz.ntmps266
 go_wp2_with fail
 refine (giveUp_any b 5 _ _ (by rfl)).mono ?_
 rintro e w3 ⟨he, hf⟩
 unfold faultE at he
 subst he
 exact ⟨rfl, rfl, ((Fr.refl _ _).alloc _).trans hf⟩
def spanV (x y : Nat) : Value := .agg #[.int .i64 x, .int .i64 y]
def SpanE (x y line : Nat) (e : Ending) : Prop := if x <= y then e = .returned (spanV x y) else e = faultE 5 line
theorem SpanE.ok {x y line : Nat} {e : Ending} (h : x <= y) : SpanE x y line e ↔ e = .returned (spanV x y) := by unfold SpanE; rw [if_pos h]
theorem SpanE.bad {x y line : Nat} {e : Ending} (h : ¬ x <= y) : SpanE x y line e ↔ e = faultE 5 line := by unfold SpanE; rw [if_neg h]
set_option maxHeartbeats 1000000 in
theorem span_any (a b : Tk) (w : World) (ha : Dg a.text) (hb : Dg b.text) :
  Calls Tryz.prog 269 #[pairV (a, b)] w fun e w' => SpanE (valOf a) (valOf b) b.line e /\ F0 w w' := by
 have HA : Hid (∀ W, Calls Tryz.prog 262 #[.agg #[.int .i64 a.sort, .string a.text, .int .i64 a.line]] W fun e w' => e = .returned (.int .i64 (valOf a)) /\ F0 W w') := fun W => value_any a W ha
 have HB : Hid (∀ W, Calls Tryz.prog 262 #[.agg #[.int .i64 b.sort, .string b.text, .int .i64 b.line]] W fun e w' => e = .returned (.int .i64 (valOf b)) /\ F0 W w') := fun W => value_any b W hb
 clear ha hb
 generalize valOf a = x at *
 generalize valOf b = y at *
 unfold pairV
 go_enter Tryz.func269, Tryz.ntmps269
 go_wp2_with fail
 have HW0 : Hid (F0 w ((w.alloc (.cells #[.int .i64 a.sort, .string a.text, .int .i64 a.line, .int .i64 b.sort, .string b.text, .int .i64 b.line] 236)).alloc (.cells #[.int .i64 0, .int .i64 0] 106))) := ((Fr.refl _ _).alloc _).alloc _
 have HX0 : Hid (((w.alloc (.cells #[.int .i64 a.sort, .string a.text, .int .i64 a.line, .int .i64 b.sort, .string b.text, .int .i64 b.line] 236)).alloc (.cells #[.int .i64 0, .int .i64 0] 106)).heap[w.heap.size]? = _) := ((Fr.refl (fun _ => False) _).alloc _).whole (heap_alloc_new w _) (by simp)
 have HR0 : Hid (((w.alloc (.cells #[.int .i64 a.sort, .string a.text, .int .i64 a.line, .int .i64 b.sort, .string b.text, .int .i64 b.line] 236)).alloc (.cells #[.int .i64 0, .int .i64 0] 106)).heap[w.heap.size + 1]? = _) := heap_alloc_two w _ _
 generalize (w.alloc (.cells #[.int .i64 a.sort, .string a.text, .int .i64 a.line, .int .i64 b.sort, .string b.text, .int .i64 b.line] 236)).alloc (.cells #[.int .i64 0, .int .i64 0] 106) = W0 at *
 go_cut [3] (fun s wc => ∃ X, s = .pointer (some ⟨X, 0, none⟩) /\ Hid (wc.heap[X]? = some (.cells #[.int .i64 x, .int .i64 y] 106)) /\ Hid (F0 W0 wc))
 case first =>
  have b0 := block_cell HX0.o 0 _ rfl
  have b1 := block_cell HX0.o 1 _ rfl
  have b2 := block_cell HX0.o 2 _ rfl
  have b3 := block_cell HX0.o 3 _ rfl
  have b4 := block_cell HX0.o 4 _ rfl
  have b5 := block_cell HX0.o 5 _ rfl
  refine wp_region_held_drew (S := fun w' => F0 W0 w') (by kernel_rfl) (Fr.refl _ _).drew (fun hH => ?_)
  generalize W0.drew = W1 at *
  clear b0 b1 b2 b3 b4 b5
  refine htk 0 (v := ?v0) ?y0 hH ?r0
  case y0 => intro w' hw; have g0 := block_cell (hw.whole HX0.o (by simp)) 0 _ rfl; have g1 := block_cell (hw.whole HX0.o (by simp)) 1 _ rfl; have g2 := block_cell (hw.whole HX0.o (by simp)) 2 _ rfl; have g3 := block_cell (hw.whole HX0.o (by simp)) 3 _ rfl; have g4 := block_cell (hw.whole HX0.o (by simp)) 4 _ rfl; have g5 := block_cell (hw.whole HX0.o (by simp)) 5 _ rfl; clear hw; go_simp; with_reducible rfl
  go_frame
  refine htk 1 (v := ?v1) ?y1 hH ?r1
  case y1 => intro w' hw; have g0 := block_cell (hw.whole HX0.o (by simp)) 0 _ rfl; have g1 := block_cell (hw.whole HX0.o (by simp)) 1 _ rfl; have g2 := block_cell (hw.whole HX0.o (by simp)) 2 _ rfl; have g3 := block_cell (hw.whole HX0.o (by simp)) 3 _ rfl; have g4 := block_cell (hw.whole HX0.o (by simp)) 4 _ rfl; have g5 := block_cell (hw.whole HX0.o (by simp)) 5 _ rfl; clear hw; go_simp; with_reducible rfl
  go_frame
  refine htk 3 (v := ?v3) ?y3 hH ?r3
  case y3 => intro w' hw; have g0 := block_cell (hw.whole HX0.o (by simp)) 0 _ rfl; have g1 := block_cell (hw.whole HX0.o (by simp)) 1 _ rfl; have g2 := block_cell (hw.whole HX0.o (by simp)) 2 _ rfl; have g3 := block_cell (hw.whole HX0.o (by simp)) 3 _ rfl; have g4 := block_cell (hw.whole HX0.o (by simp)) 4 _ rfl; have g5 := block_cell (hw.whole HX0.o (by simp)) 5 _ rfl; clear hw; go_simp; with_reducible rfl
  go_frame
  refine htk 4 (v := ?v4) ?y4 hH ?r4
  case y4 => intro w' hw; have g0 := block_cell (hw.whole HX0.o (by simp)) 0 _ rfl; have g1 := block_cell (hw.whole HX0.o (by simp)) 1 _ rfl; have g2 := block_cell (hw.whole HX0.o (by simp)) 2 _ rfl; have g3 := block_cell (hw.whole HX0.o (by simp)) 3 _ rfl; have g4 := block_cell (hw.whole HX0.o (by simp)) 4 _ rfl; have g5 := block_cell (hw.whole HX0.o (by simp)) 5 _ rfl; clear hw; go_simp; with_reducible rfl
  go_frame
  refine wpAnyH_ready (rs := [2, 7]) (by kernel_rfl) (by simp) ?_
  refine held_cons rfl (fun K hK => ?_) ?_
  ·rw [if_pos (by rfl)]
   go_simp
   refine (HA.o _).mono ?_
   rintro e w1 ⟨rfl, hf⟩
   have hH2 := hH.trans hf
   refine hK.out _ _ hH2 (fun hH => ?_)
   clear hK K hH2 hf
   try go_frame
   refine wpAnyH_ready (rs := [5, 7]) (by kernel_rfl) (by simp) ?_
   refine held_cons rfl (fun K hK => ?_) ?_
   ·rw [if_pos (by rfl)]
    go_simp
    refine (HB.o _).mono ?_
    rintro e w2 ⟨rfl, hf⟩
    have hH2 := hH.trans hf
    refine hK.out _ _ hH2 (fun hH => ?_)
    clear hK K hH2 hf
    try go_frame
    refine htk 6 (v := ?vz2) ?yz2 hH ?rz2
    case yz2 => intro w' _; go_simp; with_reducible rfl
    go_frame
    refine wpAnyH_ready (rs := [7]) (by kernel_rfl) (by simp) ?_
    refine held_cons rfl (fun K hK => ?_) AllReadyH.nil
    rw [if_pos (by rfl)]
    go_simp
    obtain ⟨X, hX⟩ : ∃ X, X = w2.heap.size := ⟨_, rfl⟩
    have hXs : W0.heap.size <= X := by rw [hX]; exact hH.size
    have HX : Hid ((w2.alloc (.cells #[.int .i64 0, .int .i64 0] 106)).heap[X]? = some (.cells #[.int .i64 0, .int .i64 0] 106)) := by rw [hX]; exact heap_alloc_new _ _
    have hH2 := hH.alloc (.cells #[.int .i64 0, .int .i64 0] 106)
    rw [<- hX]
    refine hK.out _ _ hH2 (fun hH => ?_)
    clear hK K hH2
    try go_frame
    clear hX
    generalize hq : w2.alloc (.cells #[.int .i64 0, .int .i64 0] 106) = q3 at *
    clear hq
    have s0 := block_cell HX.o 0 _ rfl
    have s1 := block_cell HX.o 1 _ rfl
    have sf := block_frozen HX.o
    refine wpAnyH_ready (rs := [8]) (by kernel_rfl) (by simp) ?_
    refine held_cons rfl (fun K hK => ?_) AllReadyH.nil
    rw [if_pos (by rfl)]
    go_simp
    have hZ : Fr (fun k => k = X) q3 ((q3.setCell ⟨X, 0, none⟩ (.int .i64 x)).setCell ⟨X, 1, none⟩ (.int .i64 y)) := ((Fr.refl (fun k => k = X) _).setCell (p := ⟨X, 0, none⟩) (Or.inl rfl) _).setCell (p := ⟨X, 1, none⟩) (Or.inl rfl) _
    have hZ2 := hH.monoNew hZ (fun k hk => Or.inr (by omega))
    have HX2 : Hid (((q3.setCell ⟨X, 0, none⟩ (.int .i64 x)).setCell ⟨X, 1, none⟩ (.int .i64 y)).heap[X]? = some (.cells #[.int .i64 x, .int .i64 y] 106)) := heap_set (heap_set HX.o 0 _) 1 _
    refine hK.out _ _ hZ2 (fun hH => ?_)
    clear hK K
    try go_frame
    refine wpAnyH_done (by kernel_rfl) ?_ _
    go_wp2_with fail
    go_meet
    case rel => exact ⟨X, rfl, HX2.o, hZ2⟩
   refine held_cons rfl (fun K hK => ?_) AllReadyH.nil
   rw [if_pos (by rfl)]
   go_simp
   obtain ⟨X, hX⟩ : ∃ X, X = w1.heap.size := ⟨_, rfl⟩
   have hXs : W0.heap.size <= X := by rw [hX]; exact hH.size
   have HX : Hid ((w1.alloc (.cells #[.int .i64 0, .int .i64 0] 106)).heap[X]? = some (.cells #[.int .i64 0, .int .i64 0] 106)) := by rw [hX]; exact heap_alloc_new _ _
   have hH2 := hH.alloc (.cells #[.int .i64 0, .int .i64 0] 106)
   rw [<- hX]
   refine hK.out _ _ hH2 (fun hH => ?_)
   clear hK K hH2
   try go_frame
   clear hX
   generalize hq : w1.alloc (.cells #[.int .i64 0, .int .i64 0] 106) = q5 at *
   clear hq
   refine wpAnyH_ready (rs := [5]) (by kernel_rfl) (by simp) ?_
   refine held_cons rfl (fun K hK => ?_) AllReadyH.nil
   rw [if_pos (by rfl)]
   go_simp
   refine (HB.o _).mono ?_
   rintro e w6 ⟨rfl, hf⟩
   have hH2 := hH.trans hf
   have HX2 : Hid (w6.heap[X]? = some (.cells #[.int .i64 0, .int .i64 0] 106)) := hf.whole HX.o (by simp)
   clear HX
   have HX := HX2
   clear HX2
   refine hK.out _ _ hH2 (fun hH => ?_)
   clear hK K hH2 hf
   try go_frame
   refine htk 6 (v := ?vz6) ?yz6 hH ?rz6
   case yz6 => intro w' _; go_simp; with_reducible rfl
   go_frame
   have s0 := block_cell HX.o 0 _ rfl
   have s1 := block_cell HX.o 1 _ rfl
   have sf := block_frozen HX.o
   refine wpAnyH_ready (rs := [8]) (by kernel_rfl) (by simp) ?_
   refine held_cons rfl (fun K hK => ?_) AllReadyH.nil
   rw [if_pos (by rfl)]
   go_simp
   have hZ : Fr (fun k => k = X) w6 ((w6.setCell ⟨X, 0, none⟩ (.int .i64 x)).setCell ⟨X, 1, none⟩ (.int .i64 y)) := ((Fr.refl (fun k => k = X) _).setCell (p := ⟨X, 0, none⟩) (Or.inl rfl) _).setCell (p := ⟨X, 1, none⟩) (Or.inl rfl) _
   have hZ2 := hH.monoNew hZ (fun k hk => Or.inr (by omega))
   have HX2 : Hid (((w6.setCell ⟨X, 0, none⟩ (.int .i64 x)).setCell ⟨X, 1, none⟩ (.int .i64 y)).heap[X]? = some (.cells #[.int .i64 x, .int .i64 y] 106)) := heap_set (heap_set HX.o 0 _) 1 _
   refine hK.out _ _ hZ2 (fun hH => ?_)
   clear hK K
   try go_frame
   refine wpAnyH_done (by kernel_rfl) ?_ _
   go_wp2_with fail
   go_meet
   case rel => exact ⟨X, rfl, HX2.o, hZ2⟩
  refine held_cons rfl (fun K hK => ?_) AllReadyH.nil
  rw [if_pos (by rfl)]
  go_simp
  obtain ⟨X, hX⟩ : ∃ X, X = W1.heap.size := ⟨_, rfl⟩
  have hXs : W0.heap.size <= X := by rw [hX]; exact hH.size
  have HX : Hid ((W1.alloc (.cells #[.int .i64 0, .int .i64 0] 106)).heap[X]? = some (.cells #[.int .i64 0, .int .i64 0] 106)) := by rw [hX]; exact heap_alloc_new _ _
  have hH2 := hH.alloc (.cells #[.int .i64 0, .int .i64 0] 106)
  rw [<- hX]
  refine hK.out _ _ hH2 (fun hH => ?_)
  clear hK K hH2
  try go_frame
  clear hX
  generalize hq : W1.alloc (.cells #[.int .i64 0, .int .i64 0] 106) = q8 at *
  clear hq
  refine wpAnyH_ready (rs := [2]) (by kernel_rfl) (by simp) ?_
  refine held_cons rfl (fun K hK => ?_) AllReadyH.nil
  rw [if_pos (by rfl)]
  go_simp
  refine (HA.o _).mono ?_
  rintro e w9 ⟨rfl, hf⟩
  have hH2 := hH.trans hf
  have HX2 : Hid (w9.heap[X]? = some (.cells #[.int .i64 0, .int .i64 0] 106)) := hf.whole HX.o (by simp)
  clear HX
  have HX := HX2
  clear HX2
  refine hK.out _ _ hH2 (fun hH => ?_)
  clear hK K hH2 hf
  try go_frame
  refine wpAnyH_ready (rs := [5]) (by kernel_rfl) (by simp) ?_
  refine held_cons rfl (fun K hK => ?_) AllReadyH.nil
  rw [if_pos (by rfl)]
  go_simp
  refine (HB.o _).mono ?_
  rintro e w10 ⟨rfl, hf⟩
  have hH2 := hH.trans hf
  have HX2 : Hid (w10.heap[X]? = some (.cells #[.int .i64 0, .int .i64 0] 106)) := hf.whole HX.o (by simp)
  clear HX
  have HX := HX2
  clear HX2
  refine hK.out _ _ hH2 (fun hH => ?_)
  clear hK K hH2 hf
  try go_frame
  refine htk 6 (v := ?vz10) ?yz10 hH ?rz10
  case yz10 => intro w' _; go_simp; with_reducible rfl
  go_frame
  have s0 := block_cell HX.o 0 _ rfl
  have s1 := block_cell HX.o 1 _ rfl
  have sf := block_frozen HX.o
  refine wpAnyH_ready (rs := [8]) (by kernel_rfl) (by simp) ?_
  refine held_cons rfl (fun K hK => ?_) AllReadyH.nil
  rw [if_pos (by rfl)]
  go_simp
  have hZ : Fr (fun k => k = X) w10 ((w10.setCell ⟨X, 0, none⟩ (.int .i64 x)).setCell ⟨X, 1, none⟩ (.int .i64 y)) := ((Fr.refl (fun k => k = X) _).setCell (p := ⟨X, 0, none⟩) (Or.inl rfl) _).setCell (p := ⟨X, 1, none⟩) (Or.inl rfl) _
  have hZ2 := hH.monoNew hZ (fun k hk => Or.inr (by omega))
  have HX2 : Hid (((w10.setCell ⟨X, 0, none⟩ (.int .i64 x)).setCell ⟨X, 1, none⟩ (.int .i64 y)).heap[X]? = some (.cells #[.int .i64 x, .int .i64 y] 106)) := heap_set (heap_set HX.o 0 _) 1 _
  refine hK.out _ _ hZ2 (fun hH => ?_)
  clear hK K
  try go_frame
  refine wpAnyH_done (by kernel_rfl) ?_ _
  go_wp2_with fail
  go_meet
  case rel => exact ⟨X, rfl, HX2.o, hZ2⟩
 case rest =>
  obtain ⟨X, rfl, HX, HF⟩ := hcut
  have x0 := block_cell HX.o 0 _ rfl
  have x1 := block_cell HX.o 1 _ rfl
  have HB0 := HF.o.whole HX0.o (by simp)
  have HR := HF.o.whole HR0.o (by simp)
  have b3 := block_cell HB0 3 _ rfl
  have b4 := block_cell HB0 4 _ rfl
  have b5 := block_cell HB0 5 _ rfl
  have r0 := block_cell HR 0 _ rfl
  have r1 := block_cell HR 1 _ rfl
  have rf := block_frozen HR
  have HFw : Hid (F0 w wc) := HW0.o.trans HF.o
  clear HB0 HR
  by_cases hxy : x <= y
  ·have hn : ¬ (y : Int) < (x : Int) := by omega
   go_wp2
   have hW : Fr (fun k => w.heap.size <= k) wc ((wc.setCell ⟨w.heap.size + 1, 0, none⟩ (.int .i64 x)).setCell ⟨w.heap.size + 1, 1, none⟩ (.int .i64 y)) := ((Fr.refl (fun k => w.heap.size <= k) wc).setCell (p := ⟨w.heap.size + 1, 0, none⟩) (Or.inl (Nat.le_succ _)) _).setCell (p := ⟨w.heap.size + 1, 1, none⟩) (Or.inl (Nat.le_succ _)) _
   exact bodyPost_ret (v := spanV x y) (by simp [results, Tryz.results269, go_sem, spanV, *]) rfl ⟨(SpanE.ok hxy).2 rfl, HFw.o.monoNew hW (fun k hk => Or.inr hk)⟩
  ·have hn : (y : Int) < (x : Int) := by omega
   go_wp2_with fail
   refine (giveUp_any b 5 _ _ (by rfl)).mono ?_
   rintro e w3 ⟨he, hf⟩
   unfold faultE at he
   subst he
   exact ⟨rfl, (SpanE.bad hxy).2 rfl, HFw.o.trans hf⟩
end Go.Proofs.YtccikgogjfbpeabGreatDoor
