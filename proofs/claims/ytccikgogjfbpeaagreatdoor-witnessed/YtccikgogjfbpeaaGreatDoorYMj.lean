/- Regions: the rules of a book: what areas they meet. Regions: ahead. -/
import Derived.Test.YtccikgogjfbpeaaGreatDoorYHa
import Derived.Test.YtccikgogjfbpeaaGreatDoorYMi
import Derived.BigQuiet
namespace Go.Proofs.YtccikgogjfbpeaaGreatDoor
open Go.RowKit
structure ArOk (r : RuleM) : Prop where
 m4 : r.mcc.length ≤ 4
 mx : ∀ x, x ∈ r.mcc → x ≤ 9999
 c4 : r.cur.length ≤ 4
 cx : ∀ x, x ∈ r.cur → x ≤ 999
 am : ∀ ab, r.am = some ab → ab.1 ≤ ab.2
theorem nums_few {most : Nat} : ∀ (l : List Tk) (i : Nat) (ns : List Nat), i ≤ 4 → numsFrom most i l = .ok ns → i + ns.length ≤ 4 ∧ ∀ x, x ∈ ns → x ≤ most
 | [], i, ns, hi, h => by
  simp only [numsFrom] at h
  injection h with h
  subst h
  exact ⟨by simpa using hi, by simp⟩
 | t :: r, i, ns, hi, h => by
  simp only [numsFrom] at h
  split at h
  ·cases h
  split at h
  ·cases h
  rename_i h4 hm
  cases hq : numsFrom most (i + 1) r with
  | error f => rw [hq] at h; cases h
  | ok ms =>
   rw [hq] at h
   injection h with h
   subst h
   obtain ⟨h1, h2⟩ := nums_few r (i + 1) ms (by omega) hq
   refine ⟨by simp; omega, fun x hx => ?_⟩
   rcases List.mem_cons.1 hx with rfl | hx
   ·omega
   ·exact h2 x hx
theorem addRule_ar {rts : List RouteM} {rls : List RuleM} {e : RuleE} {r : RuleM} (h : addRuleM rts rls e = .ok r) : ArOk r := by
 unfold addRuleM at h
 split at h
 ·cases h
 split at h
 ·cases h
 split at h
 ·cases h
 split at h
 ·cases h
 split at h
 ·cases h
 split at h
 ·cases h
 cases hm : numsFrom 9999 0 e.mcc with
 | error f => rw [hm] at h; cases h
 | ok mccs =>
  rw [hm] at h
  dsimp only at h
  split at h
  ·cases h
  rename_i ha
  cases hc : numsFrom 999 0 e.cur with
  | error f => rw [hc] at h; cases h
  | ok curs =>
   rw [hc] at h
   dsimp only at h
   cases hp : plsFrom rts 0 e.act.routes with
   | error f => rw [hp] at h; cases h
   | ok ps =>
    rw [hp] at h
    injection h with h
    subst h
    have h1 := nums_few _ 0 _ (by omega) hm
    have h2 := nums_few _ 0 _ (by omega) hc
    refine ⟨by have := h1.1; dsimp only; omega, h1.2, by have := h2.1; dsimp only; omega, h2.2, fun ab hab => ?_⟩
    dsimp only at hab
    cases hq : e.amount with
    | none => rw [hq] at hab; cases hab
    | some cd =>
     rw [hq] at hab ha
     simp only [Option.map_some, Option.some.injEq] at hab
     subst hab
     simpa using ha
theorem under_ar : ∀ (xs : List EntE) (rts : List RouteM) (rls : List RuleM) (p : List RouteM × List RuleM), (∀ r, r ∈ rls → ArOk r) → underM rts rls xs = .ok p → ∀ r, r ∈ p.2 → ArOk r
 | [], rts, rls, p, hB, h => by
  simp only [underM] at h
  injection h with h
  subst h
  exact hB
 | .route e :: xs, rts, rls, p, hB, h => by
  cases hq : addRouteM rts e with
  | error f => rw [underM_err (f := f) (by simp only [addM, hq])] at h; cases h
  | ok t =>
   rw [underM_ok (p := (rts ++ [t], rls)) (by simp only [addM, hq])] at h
   exact under_ar xs (rts ++ [t]) rls p hB h
 | .rule e :: xs, rts, rls, p, hB, h => by
  cases hq : addRuleM rts rls e with
  | error f => rw [underM_err (f := f) (by simp only [addM, hq])] at h; cases h
  | ok t =>
   rw [underM_ok (p := (rts, rls ++ [t])) (by simp only [addM, hq])] at h
   refine under_ar xs rts (rls ++ [t]) p (fun r hr => ?_) h
   rcases List.mem_append.1 hr with hr | hr
   ·exact hB r hr
   ·simp at hr
    subst hr
    exact addRule_ar hq
theorem readM_ar {s : ByteArray} {p : List RouteM × List RuleM} (h : readM s = .ok p) : ∀ r, r ∈ p.2 → ArOk r := by
 unfold readM at h
 split at h
 ·cases h
 cases hL : lexFrom s 0 1 [] with
 | error l => rw [hL] at h; cases h
 | ok ts =>
  rw [hL] at h
  dsimp only at h
  cases hP : parseFrom ts 0 [] with
  | error l => rw [hP] at h; cases h
  | ok xs =>
   rw [hP] at h
   exact under_ar _ [] [] p (by simp) h
def arR (r : RuleM) : ArM := areaM r.digits r.lo r.hi r.mcc r.am.isSome (r.am.getD (0, 0)).1 (r.am.getD (0, 0)).2 r.cur
theorem listM2_mem {l : List Nat} {m : Nat} {s : SpM} (h : s ∈ listM2 l m) : (l = [] ∧ s = (0, m)) ∨ ∃ n, n ∈ l ∧ s = (n, n) := by
 unfold listM2 at h
 split at h
 ·rename_i e
  exact .inl ⟨e, by simpa using h⟩
 ·obtain ⟨n, hn, rfl⟩ := List.mem_map.1 h
  exact .inr ⟨n, hn, rfl⟩
theorem arR_at {n : Nat} {r : RuleM} (h : RlOk n r) (ha : ArOk r) (i : Nat) (s : SpM) (hs : s ∈ (arR r).at i) : s.1 ≤ s.2 ∧ s.1 ≤ 10000000000 ∧ s.2 ≤ 10000000000 := by
 have hl : ∀ (l : List Nat) (m : Nat), m ≤ 10000 → (∀ x, x ∈ l → x ≤ m) → s ∈ listM2 l m → s.1 ≤ s.2 ∧ s.1 ≤ 10000000000 ∧ s.2 ≤ 10000000000 := fun l m hm hx h => by
  rcases listM2_mem h with ⟨_, rfl⟩ | ⟨n, hn, rfl⟩
  ·exact ⟨by simp, by simp, by dsimp only; omega⟩
  ·have := hx n hn
   exact ⟨Nat.le_refl _, by dsimp only; omega, by dsimp only; omega⟩
 unfold arR areaM ArM.at at hs
 split at hs
 ·simp only [List.mem_singleton] at hs
  subst hs
  obtain ⟨h1, h2, h3⟩ := h.bn
  unfold cardsM
  have hq : 0 < 10 ^ (6 - r.digits) := Nat.pow_pos (by decide)
  have hp : 10 ^ r.digits * 10 ^ (6 - r.digits) = 1000000 := by rw [← Nat.pow_add, show r.digits + (6 - r.digits) = 6 from by omega]
  have e1 := Nat.mul_le_mul_right (10 ^ (6 - r.digits)) h3
  have e2 := Nat.mul_le_mul_right (10 ^ (6 - r.digits)) (show r.hi + 1 ≤ 10 ^ r.digits from h2)
  have e3 : (r.hi + 1) * 10 ^ (6 - r.digits) = r.hi * 10 ^ (6 - r.digits) + 10 ^ (6 - r.digits) := by rw [Nat.add_mul, Nat.one_mul]
  dsimp only
  omega
 ·exact hl _ _ (by omega) ha.mx hs
 ·simp only [List.mem_singleton] at hs
  subst hs
  cases hq : r.am with
  | none => simp
  | some ab =>
   have h1 := ha.am ab hq
   have h2 := h.am ab hq
   simp
   omega
 ·exact hl _ _ (by omega) ha.cx hs
def RuL (w : World) (va : Option Addr) (rls : List RuleM) : Prop := ∀ j r, rls[j]? = some r → ∃ g ma mc ca cc pa pc, va = some ⟨g, 0, none⟩ ∧
 (∀ o v, [Value.string r.name, .int .i64 r.rank, .int .i64 r.digits, .int .i64 r.lo, .int .i64 r.hi, .slice ma r.mcc.length mc, .bool r.am.isSome, .int .i64 (r.am.getD (0, 0)).1, .int .i64 (r.am.getD (0, 0)).2, .slice ca r.cur.length cc, .bool r.decline, .bool r.cheapest, .slice pa r.routes.length pc, .int .i64 r.ahead][o]? = some v → w.cell? ⟨g, j * 14 + o, none⟩ = some v) ∧
 IntsAt w ma r.mcc ∧ IntsAt w ca r.cur
theorem RuL.fr {w w' : World} {va : Option Addr} {rls : List RuleM} (h : RuL w va rls) (hf : Fr (fun _ => False) w w') : RuL w' va rls := by
 intro j r hj
 obtain ⟨g, ma, mc, ca, cc, pa, pc, e, hc, h1, h2⟩ := h j r hj
 exact ⟨g, ma, mc, ca, cc, pa, pc, e, fun o v ho => (hf.cell (p := ⟨g, j * 14 + o, none⟩) (World.block_lt_of_cell? w _ (hc o v ho)) (by simp)).trans (hc o v ho), h1.fr hf (by simp), h2.fr hf (by simp)⟩
theorem Bk.rules {w : World} {B : Nat} {vr vl : Value} {rts : List RouteM} {rls : List RuleM} {xs : List Value} (h : Bk w B vr vl rts rls xs) : ∃ va c, vl = .slice va rls.length c ∧ RuL w va rls := by
 obtain ⟨va, c, e⟩ := ownsRow_len h.lo
 refine ⟨va, c, e, fun j r hj => ?_⟩
 obtain ⟨g, c', ma, mc, ca, cc, pa, pc, e', _, _, hc, h1, h2, _⟩ := h.rule hj
 rw [e] at e'
 injection e' with e1 e2 e3
 exact ⟨g, ma, mc, ca, cc, pa, pc, e1, hc, IntsAt.of h1, IntsAt.of h2⟩
end Go.Proofs.YtccikgogjfbpeaaGreatDoor

namespace Go.Proofs.YtccikgogjfbpeaaGreatDoor
open Go.RowKit
def ArPost (w : World) (A : ArM) (e : Ending) (w' : World) : Prop := (∃ x0 x1 x2 x3, e = .returned (.agg #[.slice x0.a A.s0.length x0.c, .slice x1.a A.s1.length x1.c, .slice x2.a A.s2.length x2.c, .slice x3.a A.s3.length x3.c]) ∧ ArV w' A x0 x1 x2 x3 ∧ ArNew w.heap.size w'.heap.size x0 x1 x2 x3) ∧ Fr (fun _ => False) w w'
theorem area_rule (w : World) (r : RuleM) (n : Nat) (ma : Option Addr) (mc : Nat) (ca : Option Addr) (cc : Nat) (pa : Option Addr) (pc : Nat) (h1 : RlOk n r) (h2 : ArOk r) (hm : IntsAt w ma r.mcc) (hc : IntsAt w ca r.cur) :
  Calls Tryz.prog 114 #[.agg #[.string r.name, .int .i64 r.rank, .int .i64 r.digits, .int .i64 r.lo, .int .i64 r.hi, .slice ma r.mcc.length mc, .bool r.am.isSome, .int .i64 (r.am.getD (0, 0)).1, .int .i64 (r.am.getD (0, 0)).2, .slice ca r.cur.length cc, .bool r.decline, .bool r.cheapest, .slice pa r.routes.length pc, .int .i64 r.ahead]] w (ArPost w (arR r)) := by
 refine (areaOf_any w r.name r.rank r.digits r.lo r.hi ma mc r.mcc r.am.isSome (r.am.getD (0, 0)).1 (r.am.getD (0, 0)).2 ca cc r.cur r.decline r.cheapest pa r.routes.length pc r.ahead h1.bn.1 h1.bn.2.2 (Nat.lt_of_lt_of_le h1.bn.2.1 (pow6 h1.bn.1)) hm (Nat.le_trans h2.m4 (by decide)) hc (Nat.le_trans h2.c4 (by decide))).mono ?_
 rintro e w' ⟨⟨x0, x1, x2, x3, A, rfl, rfl, h3, h4⟩, hf⟩
 exact ⟨⟨x0, x1, x2, x3, rfl, h3, h4⟩, hf⟩
end Go.Proofs.YtccikgogjfbpeaaGreatDoor
