/- The reference: a rule that is being made; where a rule's tokens stand. The reference: the row of rules has grown. -/
import Derived.Test.YtccikgogjfbpeaaGreatDoorQv
namespace Go.Proofs.YtccikgogjfbpeaaGreatDoor
open Go.RowKit

def txt (t : Tk) (l : List UInt8) : Prop := (t.text.toList == l) = true
/-- A guard's list: there, behind its keyword, or not there. -/
def OptL (body : List Tk) (i : Nat) (kw : List UInt8) (l : List Tk) : Prop :=
 ∃ t, body[i]? = some t ∧ (((t.text.toList == kw) = true ∧ LAt body i l) ∨ ((t.text.toList == kw) = false ∧ l = []))
def OptA (body : List Tk) (i : Nat) (kw : List UInt8) (o : Option (Tk × Tk)) : Prop :=
 ∃ t, body[i]? = some t ∧ match o with
  | some ab => (t.text.toList == kw) = true ∧ body[i + 1]? = some ab.1 ∧ body[i + 3]? = some ab.2
  | none => (t.text.toList == kw) = false
def amLen (o : Option (Tk × Tk)) : Nat := match o with | some _ => 4 | none => 0
def ActAt (body : List Tk) (ia : Nat) (a : ActE) (j : Nat) : Prop :=
  ∃ t, body[ia + 1]? = some t ∧
    ((a = ⟨true, false, []⟩ ∧ (t.text.toList == [100, 101, 99, 108, 105, 110, 101]) = true ∧ j = ia + 2) ∨
     (a.decline = false ∧ (t.text.toList == [100, 101, 99, 108, 105, 110, 101]) = false ∧ (t.text.toList == [99, 104, 101, 97, 112, 101, 115, 116]) = a.cheapest ∧
       ∃ i0, (ia + 1 = if a.cheapest then i0 else i0 + 1) ∧ LAt body i0 a.routes ∧ j = i0 + 2 * a.routes.length))
/-- Where a rule's tokens stand: its keyword at i, the semicolon at j. -/
structure RuleAt (body : List Tk) (i : Nat) (r : RuleE) (j : Nat) : Prop where
 nm : body[i + 1]? = some r.name
 rk : body[i + 2]? = some r.rank
 b1 : body[i + 5]? = some r.bin.1
 b2 : body[i + 7]? = some r.bin.2
 mc : OptL body (i + 8) [109, 99, 99] r.mcc
 am : OptA body (i + 8 + 2 * r.mcc.length) [97, 109, 111, 117, 110, 116] r.amount
 cu : OptL body (i + 8 + 2 * r.mcc.length + amLen r.amount) [99, 117, 114] r.cur
 ac : ActAt body (i + 8 + 2 * r.mcc.length + amLen r.amount + 2 * r.cur.length) r.act j
 dg : Dg r.rank.text ∧ Dg r.bin.1.text ∧ Dg r.bin.2.text ∧ (∀ t, t ∈ r.mcc → Dg t.text) ∧ (∀ t, t ∈ r.cur → Dg t.text) ∧ (∀ ab, r.amount = some ab → Dg ab.1.text ∧ Dg ab.2.text)

/-- While a rule is made: the walk, the rule; all else as it was in w0. -/
structure RLs (w0 w : World) (p q X i : Nat) (f : Fa) (cs : Nat → Value) : Prop where
 wp : WkP w p q i f
 xb : XB w X cs
 fr : Fr (fun j => j = p) w0 w
 xl : w0.heap.size ≤ X
 ne : X ≠ p
theorem RLs.move {w0 w : World} {p q X i : Nat} {f : Fa} {cs : Nat → Value} (h : RLs w0 w p q X i f cs) (k : Nat) : RLs w0 (w.setCell ⟨p, 1, none⟩ (.int .i64 k)) p q X k f cs := by
 have hm := h.wp.move k
 exact ⟨hm.1, h.xb.fr hm.2 h.ne, h.fr.trans hm.2, h.xl, h.ne⟩
theorem RLs.set {w0 w : World} {p q X i : Nat} {f : Fa} {cs : Nat → Value} (h : RLs w0 w p q X i f cs) {k : Nat} (hk : k < 13) (v : Value) : RLs w0 (w.setCell ⟨X, k, none⟩ v) p q X i f (upd cs k v) := by
 have hs := h.xb.set hk v
 exact ⟨h.wp.fr hs.2 (fun e => h.ne e.symm), hs.1, h.fr.setCell (p := ⟨X, k, none⟩) (Or.inr h.xl) v, h.xl, h.ne⟩
theorem RLs.call {w0 w w' : World} {p q X i i' : Nat} {f f' : Fa} {cs : Nat → Value} (h : RLs w0 w p q X i f cs) (hp : WkP w' p q i' f') (hf : Fr (fun j => j = p) w w') : RLs w0 w' p q X i' f' cs := ⟨hp, h.xb.fr hf h.ne, h.fr.trans hf, h.xl, h.ne⟩
theorem RLs.look {w0 w w' : World} {p q X i : Nat} {f : Fa} {cs : Nat → Value} (h : RLs w0 w p q X i f cs) (hf : Fr (fun _ => False) w w') : RLs w0 w' p q X i f cs := h.call (h.wp.fr hf (by simp)) hf.no
/-- The cell of a rule's name. -/
theorem rr_name {base : Nat} {w : World} : ∀ {rs : List RuleR} {xs : List Value} {j : Nat} {r : RuleR}, RrVs base w rs xs → rs[j]? = some r → xs[j * 13]? = some (.string r.name)
 | [], _, j, _, _, hj => by simp at hj
 | r :: rs, xs, 0, r', ⟨c, rest, e, h1, h2⟩, hj => by
  simp at hj
  subst hj
  obtain ⟨vm, vc, vp, e1, _⟩ := h1
  rw [e, e1]
  rfl
 | r :: rs, xs, j + 1, r', ⟨c, rest, e, h1, h2⟩, hj => by
  have := rr_name h2 (j := j) (r := r') (by simpa using hj)
  obtain ⟨vm, vc, vp, e1, _⟩ := h1
  have l : c.length = 13 := by rw [e1]; rfl
  rw [e, List.getElem?_append_right (by omega), l, show (j + 1) * 13 - 13 = j * 13 from by omega]
  exact this
theorem ownsRow_rr {w : World} {base : Nat} {v : Value} {n : Nat} {xs : List Value} (h : w.ownsRow base 170 13 v n xs) :
  ∃ a c, v = .slice a n c ∧ ∀ j u, j < n → xs[j * 13]? = some u → ∃ g, a = some ⟨g, 0, none⟩ ∧ base ≤ g ∧ g < w.heap.size ∧ w.cell? ⟨g, j * 13, none⟩ = some u := by
 obtain ⟨a, c, e⟩ := ownsRow_len h
 refine ⟨a, c, e, fun j u hj hu => ?_⟩
 obtain ⟨g, cap, e2, hb, hl⟩ := h.form (by omega)
 rw [e] at e2
 injection e2 with e1 _ e3
 subst e1 e3
 subst e
 refine ⟨g, rfl, hb, hl, ?_⟩
 have := h.cells (g := g) rfl _ _ hu
 rwa [addr_add, Nat.zero_add] at this
theorem Tryz.infoRRule : (Tryz.prog.info? 170).map (fun i => (i.zero, i.size, i.bytes)) = some (some (.agg #[.string ByteArray.empty, .int .i64 0, .int .i64 0, .int .i64 0, .int .i64 0, .slice none 0 0, .slice none 0 0, .bool false, .int .i64 0, .int .i64 0, .slice none 0 0, .bool false, .bool false]), 13, 152) := by kernel_rfl
/-- The cells of a new rule. -/
def cs0 (nm : ByteArray) : Nat → Value
 | 0 => .string nm
 | 1 => .int .i64 0
 | 2 => .int .i64 0
 | 3 => .int .i64 0
 | 4 => .int .i64 0
 | 5 => .slice none 0 0
 | 6 => .slice none 0 0
 | 7 => .bool false
 | 8 => .int .i64 0
 | 9 => .int .i64 0
 | 10 => .slice none 0 0
 | _ => .bool false
theorem xb_new (w : World) (nm : ByteArray) : XB (w.alloc (.cells #[.string nm, .int .i64 0, .int .i64 0, .int .i64 0, .int .i64 0, .slice none 0 0, .slice none 0 0, .bool false, .int .i64 0, .int .i64 0, .slice none 0 0, .bool false, .bool false] 170)) w.heap.size (cs0 nm) := by
 have hn := heap_alloc_new w (.cells #[.string nm, .int .i64 0, .int .i64 0, .int .i64 0, .int .i64 0, .slice none 0 0, .slice none 0 0, .bool false, .int .i64 0, .int .i64 0, .slice none 0 0, .bool false, .bool false] 170)
 refine ⟨fun o ho => block_cell hn o _ ?_, block_frozen hn⟩
 match o, ho with
 | 0, _ => rfl
 | 1, _ => rfl
 | 2, _ => rfl
 | 3, _ => rfl
 | 4, _ => rfl
 | 5, _ => rfl
 | 6, _ => rfl
 | 7, _ => rfl
 | 8, _ => rfl
 | 9, _ => rfl
 | 10, _ => rfl
 | 11, _ => rfl
 | 12, _ => rfl
end Go.Proofs.YtccikgogjfbpeaaGreatDoor

namespace Go.Proofs.YtccikgogjfbpeaaGreatDoor
open Go.RowKit

/-- The row of rules has grown; only the walk's own block has changed beside. -/
theorem RSt.rules {w w5 : World} {B B2 p q g i : Nat} {f : Fa} {body : List Tk} {cv : Nat} {vr vl V : Value} {rts : List RouteM} {rrs : List RuleR} {xs c : List Value} {rr : RuleR} {o : Obj} (h : RSt w B B2 p q g i f body cv vr vl rts rrs xs) (hru : RrV B2 w rr c) (hg : (w.alloc o).drew.grownBy w5 vl.ownBlock) (ho : w5.ownsRow B2 170 13 V (rrs.length + 1) (xs ++ c)) :
  w5.cell? ⟨q, 2, none⟩ = some vl ∧ (∀ o, w5.frozen? ⟨q, o, none⟩ = false) ∧ RSt (w5.setCell ⟨q, 2, none⟩ V) B B2 p q g i f body cv vr V rts (rrs ++ [rr]) (xs ++ c) ∧ Fr (fun j => B ≤ j) w (w5.setCell ⟨q, 2, none⟩ V) := by
 have hlt : ∀ k, vl.ownBlock = some k → B2 ≤ k := fun k hk => (h.lo.lt k hk).1
 have hF : Fr (fun k => vl.ownBlock = some k) w w5 := (((Fr.refl (fun k => vl.ownBlock = some k) w).alloc o).drew).grown hg (fun k hk => Or.inl hk)
 have hn : ∀ k, k < B2 → ¬ vl.ownBlock = some k := fun k hk e => by have := hlt k e; omega
 have hq : q < w.heap.size := World.block_lt_of_cell? w _ h.q1
 have hgl : g < w.heap.size := h.wt.lt
 have hgB := h.gB
 have hpB := h.pB
 have hqB := h.qB
 have e1 : w5.cell? ⟨q, 2, none⟩ = some vl := (hF.cell (p := ⟨q, 2, none⟩) hq (hn q h.qB.2)).trans h.q2
 have ef : ∀ o, w5.frozen? ⟨q, o, none⟩ = false := fun o => (hF.frozen (p := ⟨q, o, none⟩) hq (hn q h.qB.2)).trans (h.fq o)
 have hwp := h.wp.fr hF (hn p h.pB.2)
 have hwt := h.wt.fr hF (hn q h.qB.2) (hn g (by omega))
 have hS : Fr (fun j => j = q) w5 (w5.setCell ⟨q, 2, none⟩ V) := (Fr.refl (fun j => j = q) w5).setCell (p := ⟨q, 2, none⟩) (Or.inl rfl) _
 have hlo : (w.alloc o).drew.ownsRow B2 170 13 vl rrs.length xs := (h.lo.alloc _).drew
 have hk : ∀ v n ys, w.ownsRow B2 3 1 v n ys → (w5.setCell ⟨q, 2, none⟩ V).ownsRow B2 3 1 v n ys := fun v n ys hv => by
  have h3 : (w.alloc o).drew.ownsRow B2 3 1 v n ys := (hv.alloc _).drew
  exact ownsRow_setCell_below (h3.kept hg (own_ne h3 hlo (by decide))) (by simp; omega) _
 refine ⟨e1, ef, ⟨hwp.fr hS (fun e => h.ne e.symm), ?_, ?_, World.cell?_setCell_same _ _ _ e1, fun o => by simp [ef o], ?_, ?_, RrVs.snoc (hru.keep hk) (RrVs.keep hk h.ru), h.gB, h.pB, h.qB, h.ne, ?_⟩, ?_⟩
 ·refine ⟨?_, Nat.lt_of_lt_of_le hwt.lt hS.size, hwt.row.fr hS hwt.lt (by omega)⟩
  rw [World.cell?_setCell_other _ _ _ _ (by simp)]
  exact hwt.c0
 ·rw [World.cell?_setCell_other _ _ _ _ (by simp)]
  exact (hF.cell (p := ⟨q, 1, none⟩) hq (hn q h.qB.2)).trans h.q1
 ·have h3 : (w.alloc o).drew.ownsRow B2 189 3 vr rts.length (rtRow rts) := (h.ro.alloc _).drew
  exact ownsRow_setCell_below (h3.kept hg (own_ne h3 hlo (by decide))) (by simp; omega) _
 ·rw [List.length_append]
  exact ownsRow_setCell_below ho (by simp; omega) _
 ·exact Nat.le_trans h.b2 (Nat.le_trans hF.size hS.size)
 ·exact (hF.mono (fun k hk => by have := hlt k hk; omega)).trans (hS.mono (fun k e => by omega))
end Go.Proofs.YtccikgogjfbpeaaGreatDoor
