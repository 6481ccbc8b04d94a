/- Witnesses, plainly: a payment that is told goes by both rules; of two that are not told none does. Witnesses, plainly: where in the list two rules stand. The keep Witnessed, plainly: its rules, and each of them alone. Overlaps in memory. -/
import Derived.Test.YtccikgogjfbpeaaGreatDoorYMn
import Derived.Test.YtccikgogjfbpeaaGreatDoorYMk
import Derived.Test.YtccikgogjfbpeaaGreatDoorYKh
namespace Go.Proofs.YtccikgogjfbpeaaGreatDoor
theorem has_list {l : List Nat} {m n : Nat} (hl : ∀ x, x ∈ l → x ≤ m) (h : ((listM2 l m).any fun s => inSp s n) = true) : n ≤ m := by
 obtain ⟨s, hs, hi⟩ := List.any_eq_true.1 h
 unfold inSp at hi
 simp only [Bool.and_eq_true, decide_eq_true_eq] at hi
 rcases listM2_mem hs with ⟨_, rfl⟩ | ⟨k, hk, rfl⟩
 ·exact hi.2
 ·have := hl k hk
  have := hi.2
  dsimp only at this
  omega
theorem area_bounds {n : Nat} {r : RuleM} (h : RlOk n r) (ha : ArOk r) {p : PaM} (hp : allB (arR r) 4 p = true) : p.p0 < 1000000 ∧ p.p1 ≤ 9999 ∧ p.p2 ≤ 1000000000 ∧ p.p3 ≤ 999 := by
 have hall : (hasM (arR r) 0 p.p0 && (hasM (arR r) 1 p.p1 && (hasM (arR r) 2 p.p2 && (hasM (arR r) 3 p.p3 && true)))) = true := hp
 simp only [Bool.and_eq_true] at hall
 obtain ⟨h0, h1, h2, h3, _⟩ := hall
 refine ⟨?_, has_list ha.mx h1, ?_, has_list ha.cx h3⟩
 ·have h3 : inSp (cardsM r.digits r.lo r.hi) p.p0 = true := by
   have : ([cardsM r.digits r.lo r.hi].any fun s => inSp s p.p0) = true := h0
   simpa using this
  obtain ⟨g1, g2, g3⟩ := h.bn
  unfold inSp cardsM at h3
  simp only [Bool.and_eq_true, decide_eq_true_eq] at h3
  have hp : 10 ^ r.digits * 10 ^ (6 - r.digits) = 1000000 := by rw [← Nat.pow_add, show r.digits + (6 - r.digits) = 6 from by omega]
  have e2 := Nat.mul_le_mul_right (10 ^ (6 - r.digits)) (show r.hi + 1 ≤ 10 ^ r.digits from g2)
  have hq : 0 < (r.hi + 1) * 10 ^ (6 - r.digits) := Nat.mul_pos (by omega) (Nat.pow_pos (by decide))
  omega
 ·have h4 : inSp (if r.am.isSome = true then ((r.am.getD (0, 0)).1, (r.am.getD (0, 0)).2) else (0, 1000000000)) p.p2 = true := by
   have : ([if r.am.isSome = true then ((r.am.getD (0, 0)).1, (r.am.getD (0, 0)).2) else (0, 1000000000)].any fun s => inSp s p.p2) = true := h2
   simpa using this
  unfold inSp at h4
  simp only [Bool.and_eq_true, decide_eq_true_eq] at h4
  cases hq : r.am with
  | none => rw [hq] at h4; simpa using h4.2
  | some ab =>
   rw [hq] at h4
   have := h.am ab hq
   have h5 := h4.2
   simp at h5
   omega
theorem tol_ok {y : PaM} (h : y.p0 < 1000000 ∧ y.p1 ≤ 9999 ∧ y.p2 ≤ 1000000000 ∧ y.p3 ≤ 999) : payOk (tolP y) = true ∧ card6 (tolP y).pan = y.p0 := by
 obtain ⟨h0, h1, h2, h3⟩ := h
 have e : (tolP y).pan.data.toList = digL y.p0 6 := by
  show (strB (padL y.p0 6)).data.toList = _
  rw [padL_eq (w := 6) h0 (by decide) (by decide)]
  rfl
 have hl : (digL y.p0 6).length = 6 := digL_len 6 _ h0
 have hs : (tolP y).pan.size = 6 := by
  have : (tolP y).pan.data.toList.length = (tolP y).pan.size := by simp
  rw [← this, e, hl]
 have hpan : panOk (tolP y).pan = true := by
  unfold panOk
  rw [hs, e]
  simp only [Bool.and_eq_true, decide_eq_true_eq, List.all_eq_true]
  exact ⟨by omega, by omega, fun c hc => digL_dg _ _ 6 rfl c hc⟩
 refine ⟨?_, ?_⟩
 ·unfold payOk
  rw [hpan]
  simp only [Bool.true_and, Bool.and_eq_true, decide_eq_true_eq]
  exact ⟨⟨Int.natCast_nonneg _, by show (y.p1 : Int) ≤ 9999; omega⟩, ⟨Int.natCast_nonneg _, by show (y.p2 : Int) ≤ 1000000000; omega⟩, Int.natCast_nonneg _, by show (y.p3 : Int) ≤ 999; omega⟩
 ·unfold card6
  rw [e, List.take_of_length_le (by omega)]
  exact digL_num _ _ 6 rfl
theorem tol_meet {y : PaM} (h : y.p0 < 1000000 ∧ y.p1 ≤ 9999 ∧ y.p2 ≤ 1000000000 ∧ y.p3 ≤ 999) (r : RuleM) : meet1 r (tolP y) (card6 (tolP y).pan) = allB (arR r) 4 y := by
 obtain ⟨h1, h2⟩ := tol_ok h
 rw [h2, ← meet_all r (tolP y) y.p0 h1]
 rfl
theorem com_told {n : Nat} {r q : RuleM} (h : RlOk n r) (ha : ArOk r) {y : PaM × Nat} (hy : comY (arR r) (arR q) = some y) : payOk (tolP y.1) = true ∧ meet1 r (tolP y.1) (card6 (tolP y.1).pan) = true ∧ meet1 q (tolP y.1) (card6 (tolP y.1).pan) = true := by
 obtain ⟨h1, h2⟩ := comY_some (fun i s hs => (arR_at h ha i s hs).1) hy
 have hb := area_bounds h ha h1
 exact ⟨(tol_ok hb).1, (tol_meet hb r).trans h1, (tol_meet hb q).trans h2⟩
theorem com_not {n : Nat} {r q : RuleM} (h : RlOk n r) (ha : ArOk r) (hy : comY (arR r) (arR q) = none) (p : PayM) (hp : payOk p = true) : ¬ (meet1 r p (card6 p.pan) = true ∧ meet1 q p (card6 p.pan) = true) := by
 rw [← meet_all r p _ hp, ← meet_all q p _ hp]
 exact comY_none (fun i s hs => (arR_at h ha i s hs).1) hy _
end Go.Proofs.YtccikgogjfbpeaaGreatDoor

namespace Go.Proofs.YtccikgogjfbpeaaGreatDoor
theorem ovJ_split (R : List RuleM) (i a : Nat) : ∀ d, ∃ t, ovJ R i (a + d) = ovJ R i a ++ t ∧ ∀ x, x ∈ t → ∃ k, i + 1 + a ≤ k ∧ k < i + 1 + a + d ∧ x ∈ ov1 R i k
 | 0 => ⟨[], by simp, by simp⟩
 | d + 1 => by
  obtain ⟨t, h1, h2⟩ := ovJ_split R i a d
  refine ⟨t ++ ov1 R i (i + 1 + (a + d)), ?_, fun x hx => ?_⟩
  ·rw [show a + (d + 1) = (a + d) + 1 from by omega]
   show ovJ R i (a + d) ++ _ = _
   rw [h1, List.append_assoc]
  ·rcases List.mem_append.1 hx with hx | hx
   ·obtain ⟨k, g1, g2, g3⟩ := h2 x hx
    exact ⟨k, g1, by omega, g3⟩
   ·exact ⟨i + 1 + (a + d), by omega, by omega, hx⟩
theorem ovI_split (R : List RuleM) (a : Nat) : ∀ d, ∃ t, ovI R (a + d) = ovI R a ++ t ∧ ∀ x, x ∈ t → ∃ i k, a ≤ i ∧ i < a + d ∧ i < k ∧ k < R.length ∧ x ∈ ov1 R i k
 | 0 => ⟨[], by simp, by simp⟩
 | d + 1 => by
  obtain ⟨t, h1, h2⟩ := ovI_split R a d
  refine ⟨t ++ ovJ R (a + d) (R.length - (a + d + 1)), ?_, fun x hx => ?_⟩
  ·rw [show a + (d + 1) = (a + d) + 1 from by omega]
   show ovI R (a + d) ++ _ = _
   rw [h1, List.append_assoc]
  ·rcases List.mem_append.1 hx with hx | hx
   ·obtain ⟨i, k, g1, g2, g3, g4, g5⟩ := h2 x hx
    exact ⟨i, k, g1, by omega, g3, g4, g5⟩
   ·obtain ⟨t', e1, e2⟩ := ovJ_split R (a + d) 0 (R.length - (a + d + 1))
    rw [Nat.zero_add] at e1
    rw [e1] at hx
    simp only [ovJ, List.nil_append] at hx
    obtain ⟨k, g1, g2, g3⟩ := e2 x hx
    exact ⟨a + d, k, by omega, by omega, by omega, by omega, g3⟩
theorem ov_split (R : List RuleM) {i j : Nat} (h : i + 1 + j < R.length) : ∃ rest, ovsN R = (ovI R i ++ ovJ R i j) ++ (ov1 R i (i + 1 + j) ++ rest) ∧ ∀ x, x ∈ rest → ∃ i' k', (i < i' ∨ (i' = i ∧ i + 1 + j < k')) ∧ i' < k' ∧ k' < R.length ∧ x ∈ ov1 R i' k' := by
 obtain ⟨t1, e1, f1⟩ := ovI_split R (i + 1) (R.length - (i + 1))
 obtain ⟨t2, e2, f2⟩ := ovJ_split R i (j + 1) (R.length - (i + 1) - (j + 1))
 rw [show i + 1 + (R.length - (i + 1)) = R.length from by omega] at e1
 rw [show j + 1 + (R.length - (i + 1) - (j + 1)) = R.length - (i + 1) from by omega] at e2
 refine ⟨t2 ++ t1, ?_, fun x hx => ?_⟩
 ·unfold ovsN
  rw [e1, show ovI R (i + 1) = ovI R i ++ ovJ R i (R.length - (i + 1)) from rfl, e2, show ovJ R i (j + 1) = ovJ R i j ++ ov1 R i (i + 1 + j) from rfl]
  simp only [List.append_assoc]
 ·rcases List.mem_append.1 hx with hx | hx
  ·obtain ⟨k, g1, g2, g3⟩ := f2 x hx
   exact ⟨i, k, .inr ⟨rfl, by omega⟩, by omega, by omega, g3⟩
  ·obtain ⟨i', k, g1, g2, g3, g4, g5⟩ := f1 x hx
   exact ⟨i', k, .inl (by omega), g3, g4, g5⟩
theorem ov1_names {R : List RuleM} {i k : Nat} {x : OvM} (h : x ∈ ov1 R i k) : ∃ (r q : RuleM) (y : PaM × Nat), R[i]? = some r ∧ R[k]? = some q ∧ comY (arR r) (arR q) = some y ∧ x = (r.name, q.name, tolP y.1) := by
 unfold ov1 at h
 split at h
 ·rename_i r q hr hq
  split at h
  ·rename_i y hy
   exact ⟨r, q, y, hr, hq, hy, by simpa using h⟩
  ·cases h
 ·cases h
theorem ov_at {R : List RuleM} (hd : ∀ (a b : Nat) (r q : RuleM), R[a]? = some r → R[b]? = some q → r.name = q.name → a = b) {i j : Nat} {r q : RuleM} (hr : R[i]? = some r) (hq : R[i + 1 + j]? = some q) :
  (∀ y, comY (arR r) (arR q) = some y → (ovsN R)[(ovI R i ++ ovJ R i j).length]? = some (r.name, q.name, tolP y.1)) ∧ (comY (arR r) (arR q) = none → ∀ x, (ovsN R)[(ovI R i ++ ovJ R i j).length]? = some x → ¬ (x.1 = r.name ∧ x.2.1 = q.name)) := by
 have hlt := (List.getElem?_eq_some_iff.1 hq).1
 obtain ⟨rest, e, f⟩ := ov_split R hlt
 constructor
 ·intro y hy
  rw [e, List.getElem?_append_right (Nat.le_refl _), Nat.sub_self]
  have e1 : ov1 R i (i + 1 + j) = [(r.name, q.name, tolP y.1)] := by simp only [ov1, hr, hq, hy]
  rw [e1]
  rfl
 ·intro hn x hx
  rw [e, List.getElem?_append_right (Nat.le_refl _), Nat.sub_self] at hx
  have e1 : ov1 R i (i + 1 + j) = [] := by simp only [ov1, hr, hq, hn]
  rw [e1, List.nil_append] at hx
  obtain ⟨i', k', g1, g2, g3, g4⟩ := f x (List.mem_of_getElem? hx)
  obtain ⟨r', q', y, h1, h2, _, rfl⟩ := ov1_names g4
  rintro ⟨n1, n2⟩
  have a1 := hd i' i r' r h1 hr n1
  have a2 := hd k' (i + 1 + j) q' q h2 hq n2
  omega
end Go.Proofs.YtccikgogjfbpeaaGreatDoor

namespace Go.Proofs.YtccikgogjfbpeaaGreatDoor
theorem rs_get (l : List Int) : ∀ (m i j : Nat), j < m → (rsM l i m)[j]? = some (rlM (i + j) (rawK l (i + j)))
 | 0, _, _, h => by omega
 | m + 1, i, 0, _ => rfl
 | m + 1, i, j + 1, h => by
  show (rsM l (i + 1) m)[j]? = _
  rw [rs_get l m (i + 1) j (by omega), show i + 1 + j = i + (j + 1) from by omega]
theorem rs_names (l : List Int) (m : Nat) : ∀ (a b : Nat) (r q : RuleM), (rsM l 0 m)[a]? = some r → (rsM l 0 m)[b]? = some q → r.name = q.name → a = b := by
 intro a b r q ha hb hn
 have la := (List.getElem?_eq_some_iff.1 ha).1
 have lb := (List.getElem?_eq_some_iff.1 hb).1
 rw [rsM_len] at la lb
 rw [rs_get l m 0 a la] at ha
 rw [rs_get l m 0 b lb] at hb
 injection ha with ha
 injection hb with hb
 subst ha hb
 rw [Nat.zero_add, Nat.zero_add] at hn
 have e : bs (rN a) = bs (rN b) := hn
 by_cases h : a = b
 ·exact h
 ·have := rN_ne (i := b) (j := a) (fun e => h e.symm)
  rw [e] at this
  simp at this
theorem al_dec (i : Nat) (c : Int) (p : PayM) (hp : payOk p = true) : decM rts3 [(alX c).rl [0] 3] p (dnF rts3 []) = if meet1 (rlM i c) p (card6 p.pan) = true then (0, bs [120], bs [97]) else (2, ByteArray.empty, ByteArray.empty) := by
 show decM rts3 [seM c [120] [49]] p _ = _
 rw [dec_one hp, meetC_of (r := seM c [120] [49]) rfl, se_out]
 rfl
end Go.Proofs.YtccikgogjfbpeaaGreatDoor

namespace Go.Proofs.YtccikgogjfbpeaaGreatDoor
open Go.RowKit
def OvAt (w : World) (a : Option Addr) (l : List OvM) : Prop := ∀ k x, l[k]? = some x → ∃ g, a = some ⟨g, 0, none⟩ ∧ ∀ j v, (ovRow x)[j]? = some v → w.cell? ⟨g, k * 6 + j, none⟩ = some v
theorem OvAt.fr {w w' : World} {a : Option Addr} {l : List OvM} (h : OvAt w a l) (hf : Fr (fun _ => False) w w') : OvAt w' a l := by
 intro k x hx
 obtain ⟨g, e, hc⟩ := h k x hx
 exact ⟨g, e, fun j v hv => (hf.cell (p := ⟨g, k * 6 + j, none⟩) (World.block_lt_of_cell? w _ (hc j v hv)) (by simp)).trans (hc j v hv)⟩
theorem ovRows_get : ∀ (l : List OvM) (k : Nat) (x : OvM), l[k]? = some x → ∀ (j : Nat) (v : Value), (ovRow x)[j]? = some v → (ovRows l)[k * 6 + j]? = some v
 | [], k, x, h => by simp at h
 | y :: r, 0, x, h => by
  simp at h; subst h
  intro j v hv
  have hj := (List.getElem?_eq_some_iff.1 hv).1
  show (ovRow y ++ ovRows r)[0 * 6 + j]? = some v
  rw [List.getElem?_append_left (by omega), Nat.zero_mul, Nat.zero_add]
  exact hv
 | y :: r, k + 1, x, h => by
  intro j v hv
  have l : (ovRow y).length = 6 := rfl
  show (ovRow y ++ ovRows r)[(k + 1) * 6 + j]? = some v
  rw [List.getElem?_append_right (by omega), l, show (k + 1) * 6 + j - 6 = k * 6 + j from by omega]
  exact ovRows_get r k x (by simpa using h) j v hv
theorem ovAt_own {w : World} {base : Nat} {t : TypeId} {v : Value} {l : List OvM} (h : w.ownsRow base t 6 v l.length (ovRows l)) : ∃ a c, v = .slice a l.length c ∧ OvAt w a l := by
 obtain ⟨a, c, e⟩ := ownsRow_len h
 subst e
 refine ⟨a, c, rfl, fun k x hx => ?_⟩
 have hk := (List.getElem?_eq_some_iff.1 hx).1
 obtain ⟨g, cap, e, _, _⟩ := h.form (by omega)
 injection e with e1 e2 e3
 subst e1 e3
 refine ⟨g, rfl, fun j v hv => ?_⟩
 have hc := h.cells (g := g) rfl _ _ (ovRows_get l k x hx j v hv)
 have hadd : ∀ k, (⟨g, 0, none⟩ : Addr).add k = ⟨g, k, none⟩ := fun k => by unfold Addr.add; split <;> simp_all
 rw [hadd] at hc
 exact hc
end Go.Proofs.YtccikgogjfbpeaaGreatDoor
