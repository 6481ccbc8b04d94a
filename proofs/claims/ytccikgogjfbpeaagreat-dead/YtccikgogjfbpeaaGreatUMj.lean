/- Regions: the rules of a book: what areas they meet. Regions: ahead. -/
import Derived.Test.YtccikgogjfbpeaaGreatUHa
import Derived.Test.YtccikgogjfbpeaaGreatUMi
import Derived.BigQuiet
namespace Go.Proofs.YtccikgogjfbpeaaGreat
open Go.RowKit

/-- What areas ask of a rule. -/
structure ArOk (r : RuleM) : Prop where
 m4 : r.mcc.length ≤ 4
 mx : ∀ x, x ∈ r.mcc → x ≤ 9999
 c4 : r.cur.length ≤ 4
 cx : ∀ x, x ∈ r.cur → x ≤ 999
 am : ∀ ab, r.am = some ab → ab.1 ≤ ab.2
theorem nums_few {most : Nat} : ∀ (l : List Tk) (i : Nat) (ns : List Nat), i ≤ 4 → numsFrom most i l = .ok ns → i + ns.length ≤ 4 ∧ ∀ x, x ∈ ns → x ≤ most
 | [], i, ns, hi, h => by
  simp only [numsFrom] at h
  injection h with h
  subst h
  exact ⟨by simpa using hi, by simp⟩
 | t :: r, i, ns, hi, h => by
  simp only [numsFrom] at h
  split at h
  ·cases h
  split at h
  ·cases h
  rename_i h4 hm
  cases hq : numsFrom most (i + 1) r with
  | error f => rw [hq] at h; cases h
  | ok ms =>
   rw [hq] at h
   injection h with h
   subst h
   obtain ⟨h1, h2⟩ := nums_few r (i + 1) ms (by omega) hq
   refine ⟨by simp; omega, fun x hx => ?_⟩
   rcases List.mem_cons.1 hx with rfl | hx
   ·omega
   ·exact h2 x hx
theorem addRule_ar {rts : List RouteM} {rls : List RuleM} {e : RuleE} {r : RuleM} (h : addRuleM rts rls e = .ok r) : ArOk r := by
 unfold addRuleM at h
 split at h
 ·cases h
 split at h
 ·cases h
 split at h
 ·cases h
 split at h
 ·cases h
 split at h
 ·cases h
 split at h
 ·cases h
 cases hm : numsFrom 9999 0 e.mcc with
 | error f => rw [hm] at h; cases h
 | ok mccs =>
  rw [hm] at h
  dsimp only at h
  split at h
  ·cases h
  rename_i ha
  cases hc : numsFrom 999 0 e.cur with
  | error f => rw [hc] at h; cases h
  | ok curs =>
   rw [hc] at h
   dsimp only at h
   cases hp : plsFrom rts 0 e.act.routes with
   | error f => rw [hp] at h; cases h
   | ok ps =>
    rw [hp] at h
    injection h with h
    subst h
    have h1 := nums_few _ 0 _ (by omega) hm
    have h2 := nums_few _ 0 _ (by omega) hc
    refine ⟨by have := h1.1; dsimp only; omega, h1.2, by have := h2.1; dsimp only; omega, h2.2, fun ab hab => ?_⟩
    dsimp only at hab
    cases hq : e.amount with
    | none => rw [hq] at hab; cases hab
    | some cd =>
     rw [hq] at hab ha
     simp only [Option.map_some, Option.some.injEq] at hab
     subst hab
     simpa using ha
theorem under_ar : ∀ (xs : List EntE) (rts : List RouteM) (rls : List RuleM) (p : List RouteM × List RuleM), (∀ r, r ∈ rls → ArOk r) → underM rts rls xs = .ok p → ∀ r, r ∈ p.2 → ArOk r
 | [], rts, rls, p, hB, h => by
  simp only [underM] at h
  injection h with h
  subst h
  exact hB
 | .route e :: xs, rts, rls, p, hB, h => by
  cases hq : addRouteM rts e with
  | error f => rw [underM_err (f := f) (by simp only [addM, hq])] at h; cases h
  | ok t =>
   rw [underM_ok (p := (rts ++ [t], rls)) (by simp only [addM, hq])] at h
   exact under_ar xs (rts ++ [t]) rls p hB h
 | .rule e :: xs, rts, rls, p, hB, h => by
  cases hq : addRuleM rts rls e with
  | error f => rw [underM_err (f := f) (by simp only [addM, hq])] at h; cases h
  | ok t =>
   rw [underM_ok (p := (rts, rls ++ [t])) (by simp only [addM, hq])] at h
   refine under_ar xs rts (rls ++ [t]) p (fun r hr => ?_) h
   rcases List.mem_append.1 hr with hr | hr
   ·exact hB r hr
   ·simp at hr
    subst hr
    exact addRule_ar hq
theorem readM_ar {s : ByteArray} {p : List RouteM × List RuleM} (h : readM s = .ok p) : ∀ r, r ∈ p.2 → ArOk r := by
 unfold readM at h
 split at h
 ·cases h
 cases hL : lexFrom s 0 1 [] with
 | error l => rw [hL] at h; cases h
 | ok ts =>
  rw [hL] at h
  dsimp only at h
  cases hP : parseFrom ts 0 [] with
  | error l => rw [hP] at h; cases h
  | ok xs =>
   rw [hP] at h
   exact under_ar _ [] [] p (by simp) h
/-- The area that a rule meets. -/
def arR (r : RuleM) : ArM := areaM r.digits r.lo r.hi r.mcc r.am.isSome (r.am.getD (0, 0)).1 (r.am.getD (0, 0)).2 r.cur
theorem listM2_mem {l : List Nat} {m : Nat} {s : SpM} (h : s ∈ listM2 l m) : (l = [] ∧ s = (0, m)) ∨ ∃ n, n ∈ l ∧ s = (n, n) := by
 unfold listM2 at h
 split at h
 ·rename_i e
  exact .inl ⟨e, by simpa using h⟩
 ·obtain ⟨n, hn, rfl⟩ := List.mem_map.1 h
  exact .inr ⟨n, hn, rfl⟩
theorem arR_at {n : Nat} {r : RuleM} (h : RlOk n r) (ha : ArOk r) (i : Nat) (s : SpM) (hs : s ∈ (arR r).at i) : s.1 ≤ s.2 ∧ s.1 ≤ 10000000000 ∧ s.2 ≤ 10000000000 := by
 have hl : ∀ (l : List Nat) (m : Nat), m ≤ 10000 → (∀ x, x ∈ l → x ≤ m) → s ∈ listM2 l m → s.1 ≤ s.2 ∧ s.1 ≤ 10000000000 ∧ s.2 ≤ 10000000000 := fun l m hm hx h => by
  rcases listM2_mem h with ⟨_, rfl⟩ | ⟨n, hn, rfl⟩
  ·exact ⟨by simp, by simp, by dsimp only; omega⟩
  ·have := hx n hn
   exact ⟨Nat.le_refl _, by dsimp only; omega, by dsimp only; omega⟩
 unfold arR areaM ArM.at at hs
 split at hs
 ·simp only [List.mem_singleton] at hs
  subst hs
  obtain ⟨h1, h2, h3⟩ := h.bn
  unfold cardsM
  have hq : 0 < 10 ^ (6 - r.digits) := Nat.pow_pos (by decide)
  have hp : 10 ^ r.digits * 10 ^ (6 - r.digits) = 1000000 := by rw [← Nat.pow_add, show r.digits + (6 - r.digits) = 6 from by omega]
  have e1 := Nat.mul_le_mul_right (10 ^ (6 - r.digits)) h3
  have e2 := Nat.mul_le_mul_right (10 ^ (6 - r.digits)) (show r.hi + 1 ≤ 10 ^ r.digits from h2)
  have e3 : (r.hi + 1) * 10 ^ (6 - r.digits) = r.hi * 10 ^ (6 - r.digits) + 10 ^ (6 - r.digits) := by rw [Nat.add_mul, Nat.one_mul]
  dsimp only
  omega
 ·exact hl _ _ (by omega) ha.mx hs
 ·simp only [List.mem_singleton] at hs
  subst hs
  cases hq : r.am with
  | none => simp
  | some ab =>
   have h1 := ha.am ab hq
   have h2 := h.am ab hq
   simp
   omega
 ·exact hl _ _ (by omega) ha.cx hs
/-- Rules in memory. -/
def RuL (w : World) (va : Option Addr) (rls : List RuleM) : Prop := ∀ j r, rls[j]? = some r → ∃ g ma mc ca cc pa pc, va = some ⟨g, 0, none⟩ ∧
 (∀ o v, [Value.string r.name, .int .i64 r.rank, .int .i64 r.digits, .int .i64 r.lo, .int .i64 r.hi, .slice ma r.mcc.length mc, .bool r.am.isSome, .int .i64 (r.am.getD (0, 0)).1, .int .i64 (r.am.getD (0, 0)).2, .slice ca r.cur.length cc, .bool r.decline, .bool r.cheapest, .slice pa r.routes.length pc, .int .i64 r.ahead][o]? = some v → w.cell? ⟨g, j * 14 + o, none⟩ = some v) ∧
 IntsAt w ma r.mcc ∧ IntsAt w ca r.cur
theorem RuL.fr {w w' : World} {va : Option Addr} {rls : List RuleM} (h : RuL w va rls) (hf : Fr (fun _ => False) w w') : RuL w' va rls := by
 intro j r hj
 obtain ⟨g, ma, mc, ca, cc, pa, pc, e, hc, h1, h2⟩ := h j r hj
 exact ⟨g, ma, mc, ca, cc, pa, pc, e, fun o v ho => (hf.cell (p := ⟨g, j * 14 + o, none⟩) (World.block_lt_of_cell? w _ (hc o v ho)) (by simp)).trans (hc o v ho), h1.fr hf (by simp), h2.fr hf (by simp)⟩
theorem Bk.rules {w : World} {B : Nat} {vr vl : Value} {rts : List RouteM} {rls : List RuleM} {xs : List Value} (h : Bk w B vr vl rts rls xs) : ∃ va c, vl = .slice va rls.length c ∧ RuL w va rls := by
 obtain ⟨va, c, e⟩ := ownsRow_len h.lo
 refine ⟨va, c, e, fun j r hj => ?_⟩
 obtain ⟨g, c', ma, mc, ca, cc, pa, pc, e', _, _, hc, h1, h2, _⟩ := h.rule hj
 rw [e] at e'
 injection e' with e1 e2 e3
 exact ⟨g, ma, mc, ca, cc, pa, pc, e1, hc, IntsAt.of h1, IntsAt.of h2⟩
/-- The rules that decide ahead of the one at a place, among the first k: their areas. -/
def ahdB (rls : List RuleM) (pl j : Nat) : Bool := match rls[j]?, rls[pl]? with
 | some r, some q => decide (q.rank < r.rank) || (decide (r.rank = q.rank) && decide (j < pl))
 | _, _ => false
def ahdM (rls : List RuleM) (pl : Nat) : Nat → List ArM
 | 0 => []
 | k + 1 => ahdM rls pl k ++ (match rls[k]? with | some r => if ahdB rls pl k then [arR r] else [] | none => [])
theorem ahdM_len (rls : List RuleM) (pl : Nat) : ∀ k, (ahdM rls pl k).length ≤ k
 | 0 => Nat.le_refl _
 | k + 1 => by
  have := ahdM_len rls pl k
  unfold ahdM
  rw [List.length_append]
  split
  ·split <;> simp <;> omega
  ·simp; omega
theorem ahdM_mem (rls : List RuleM) (pl : Nat) (A : ArM) : ∀ k, A ∈ ahdM rls pl k ↔ ∃ j r, j < k ∧ rls[j]? = some r ∧ ahdB rls pl j = true ∧ A = arR r
 | 0 => by simp [ahdM]
 | k + 1 => by
  have ih := ahdM_mem rls pl A k
  unfold ahdM
  rw [List.mem_append, ih]
  constructor
  ·rintro (⟨j, r, h1, h2, h3, h4⟩ | h)
   ·exact ⟨j, r, by omega, h2, h3, h4⟩
   ·split at h
    ·rename_i r hr
     split at h
     ·rename_i hb
      exact ⟨k, r, by omega, hr, hb, by simpa using h⟩
     ·cases h
    ·cases h
  ·rintro ⟨j, r, h1, h2, h3, h4⟩
   by_cases e : j < k
   ·exact .inl ⟨j, r, e, h2, h3, h4⟩
   ·obtain rfl : j = k := by omega
    right
    rw [h2]
    simp [h3, h4]
end Go.Proofs.YtccikgogjfbpeaaGreat

namespace Go.Proofs.YtccikgogjfbpeaaGreat
open Go.RowKit

/-- What areaOf leaves. -/
def ArPost (w : World) (A : ArM) (e : Ending) (w' : World) : Prop := (∃ x0 x1 x2 x3, e = .returned (.agg #[.slice x0.a A.s0.length x0.c, .slice x1.a A.s1.length x1.c, .slice x2.a A.s2.length x2.c, .slice x3.a A.s3.length x3.c]) ∧ ArV w' A x0 x1 x2 x3 ∧ ArNew w.heap.size w'.heap.size x0 x1 x2 x3) ∧ Fr (fun _ => False) w w'
theorem area_rule (w : World) (r : RuleM) (n : Nat) (ma : Option Addr) (mc : Nat) (ca : Option Addr) (cc : Nat) (pa : Option Addr) (pc : Nat) (h1 : RlOk n r) (h2 : ArOk r) (hm : IntsAt w ma r.mcc) (hc : IntsAt w ca r.cur) :
  Calls Tryz.prog 45 #[.agg #[.string r.name, .int .i64 r.rank, .int .i64 r.digits, .int .i64 r.lo, .int .i64 r.hi, .slice ma r.mcc.length mc, .bool r.am.isSome, .int .i64 (r.am.getD (0, 0)).1, .int .i64 (r.am.getD (0, 0)).2, .slice ca r.cur.length cc, .bool r.decline, .bool r.cheapest, .slice pa r.routes.length pc, .int .i64 r.ahead]] w (ArPost w (arR r)) := by
 refine (areaOf_any w r.name r.rank r.digits r.lo r.hi ma mc r.mcc r.am.isSome (r.am.getD (0, 0)).1 (r.am.getD (0, 0)).2 ca cc r.cur r.decline r.cheapest pa r.routes.length pc r.ahead h1.bn.1 h1.bn.2.2 (Nat.lt_of_lt_of_le h1.bn.2.1 (pow6 h1.bn.1)) hm (Nat.le_trans h2.m4 (by decide)) hc (Nat.le_trans h2.c4 (by decide))).mono ?_
 rintro e w' ⟨⟨x0, x1, x2, x3, A, rfl, rfl, h3, h4⟩, hf⟩
 exact ⟨⟨x0, x1, x2, x3, rfl, h3, h4⟩, hf⟩
/-- The areas put together so far: their rows are none of them the list's. -/
structure AhSt (w : World) (ov : Value) (As : List ArM) (es : List ArE) (wr : World) : Prop where
 ar : es.map ArE.A = As
 ro : wr.ownsRow w.heap.size 119 4 ov es.length (arRows es)
 ok : ∀ e, e ∈ es → e.ok wr ∧ ∀ x, x = e.x0 ∨ x = e.x1 ∨ x = e.x2 ∨ x = e.x3 → ∀ g o, x.a = some ⟨g, o, none⟩ → g < wr.heap.size ∧ ov.ownBlock ≠ some g
 fr : Fr (fun _ => False) w wr
theorem AhSt.more {w wr wr' : World} {ov : Value} {As : List ArM} {es : List ArE} (h : AhSt w ov As es wr) (hf : Fr (fun _ => False) wr wr') : AhSt w ov As es wr' :=
 ⟨h.ar, ownsRow_fr h.ro hf (by simp), fun e he => ⟨(h.ok e he).1.fr hf, fun x hx g o e' => ⟨Nat.lt_of_lt_of_le ((h.ok e he).2 x hx g o e').1 hf.size, ((h.ok e he).2 x hx g o e').2⟩⟩, h.fr.trans hf⟩
theorem AhSt.app {w wr w5 w8 : World} {oa : Option Addr} {on oc : Nat} {As : List ArM} {es : List ArE} {A : ArM} {x0 x1 x2 x3 : SlM} {g2 cap2 : Nat} (h : AhSt w (.slice oa on oc) As es wr) (hf : Fr (fun _ => False) wr w5) (hav : ArV w5 A x0 x1 x2 x3) (hnw : ArNew wr.heap.size w5.heap.size x0 x1 x2 x3)
  (hown : w8.ownsRow w.heap.size 119 4 (.slice (some ⟨g2, 0, none⟩) (es.length + 1) cap2) (es.length + 1) (arRows es ++ arRow ⟨A, x0, x1, x2, x3⟩)) (hgrow : (w5.alloc (.cells #[spV x0 A.s0, spV x1 A.s1, spV x2 A.s2, spV x3 A.s3] 119)).grownBy w8 (Value.slice oa on oc).ownBlock) (hor : (Value.slice oa on oc).ownBlock = some g2 ∨ (w5.alloc (.cells #[spV x0 A.s0, spV x1 A.s1, spV x2 A.s2, spV x3 A.s3] 119)).heap.size ≤ g2) :
  AhSt w (.slice (some ⟨g2, 0, none⟩) (es.length + 1) cap2) (As ++ [A]) (es ++ [⟨A, x0, x1, x2, x3⟩]) w8 := by
 have h5 := h.more hf
 have fA : Fr (fun k => (Value.slice oa on oc).ownBlock = some k) w5 w8 := ((Fr.refl _ _).alloc _).grown hgrow (fun k hk => .inl hk)
 have hsz : w5.heap.size < (w5.alloc (.cells #[spV x0 A.s0, spV x1 A.s1, spV x2 A.s2, spV x3 A.s3] 119)).heap.size := by simp
 have hg2 : ∀ g, g < w5.heap.size → (Value.slice oa on oc).ownBlock ≠ some g → (Value.slice (some ⟨g2, 0, none⟩) (es.length + 1) cap2).ownBlock ≠ some g := by
  intro g hg hne e
  have e' : g2 = g := by simpa [Value.ownBlock] using e
  subst e'
  rcases hor with h1 | h1
  ·exact hne h1
  ·omega
 refine ⟨by simp [h.ar], ?_, fun e he => ?_, (h5.fr.alloc _).grown hgrow (fun k hk => .inr (h5.ro.lt k hk).1)⟩
 ·rw [arRows_snoc, List.length_append]
  exact hown
 ·rcases List.mem_append.1 he with he | he
  ·obtain ⟨h1, h2⟩ := h5.ok e he
   exact ⟨ArV.frS h1 fA (fun x hx g o e' _ => (h2 x hx g o e').2), fun x hx g o e' => ⟨Nat.lt_of_lt_of_le (h2 x hx g o e').1 fA.size, hg2 g (h2 x hx g o e').1 (h2 x hx g o e').2⟩⟩
  ·rw [List.mem_singleton.1 he]
   have hno : ∀ x, x = x0 ∨ x = x1 ∨ x = x2 ∨ x = x3 → ∀ g o, x.a = some ⟨g, o, none⟩ → (Value.slice oa on oc).ownBlock ≠ some g := fun x hx g o e' e2 => by
    have := (h.ro.lt g e2).2
    have := (hnw x hx g o e').1
    omega
   exact ⟨ArV.frS hav fA (fun x hx g o e' _ => hno x hx g o e'), fun x hx g o e' => ⟨Nat.lt_of_lt_of_le (hnw x hx g o e').2 fA.size, hg2 g (hnw x hx g o e').2 (hno x hx g o e')⟩⟩
set_option maxRecDepth 30000 in
set_option maxHeartbeats 8000000 in
theorem aahead_any (w : World) (va : Option Addr) (c N pl : Nat) (rls : List RuleM) (nr : Nat) (h : RuL w va rls) (hN : rls.length = N) (h8 : N ≤ 8) (hpl : pl < N) (hok : ∀ r, r ∈ rls → RlOk nr r ∧ ArOk r) :
  Calls Tryz.prog 34 #[.slice va N c, .int .i64 (pl : Nat)] w fun e w' => (∃ a cc es, e = .returned (.slice a es.length cc) ∧ es.map ArE.A = ahdM rls pl N ∧ ArsAt w' a es) ∧ Fr (fun _ => False) w w' := by
 obtain ⟨ii, hi, hz0, hz1, hz2⟩ := info_parts Tryz.infoArea
 have HR := hid h
 have HN := hid hN
 have HOk := hid hok
 have hpi : (pl : Int) < (N : Int) := by omega
 have HPl := hid hpl
 clear h hN hok hpl
 go_enter Tryz.func34, Tryz.ntmps34
 go_wp2_with fail
 go_loopg [5, 10] N (fun m ov iv wr => ∃ k es, k ≤ N ∧ m = N - k ∧ iv = .int .i64 (k : Nat) ∧ Hid (AhSt w ov (ahdM rls pl k) es wr))
 case atStart => exact ⟨0, [], by omega, rfl, rfl, rfl, World.ownsRow_nil _ _ _ _, by simp, Fr.refl _ _⟩
 case round =>
  obtain ⟨k, es, hk, rfl, rfl, HA⟩ := hrel
  by_cases hlt : k < N
  ·have hki : (k : Int) < (N : Int) := by omega
   obtain ⟨oa, oc, ho⟩ := ownsRow_len HA.out.ro
   subst ho
   obtain ⟨r, hr⟩ : ∃ r, rls[k]? = some r := ⟨_, List.getElem?_eq_getElem (show k < rls.length by have := HN.out; omega)⟩
   obtain ⟨q, hq⟩ : ∃ q, rls[pl]? = some q := ⟨_, List.getElem?_eq_getElem (show pl < rls.length by have := HN.out; have := HPl.out; omega)⟩
   obtain ⟨g, ma, mc, ca, cc, pa, pc, ea, hc, h1, h2⟩ := (HR.out.fr HA.out.fr) k r hr
   obtain ⟨g', _, _, _, _, _, _, ea', hc', _, _⟩ := (HR.out.fr HA.out.fr) pl q hq
   have eg : g' = g := by rw [ea] at ea'; injection ea' with e; injection e with e; exact e.symm
   subst eg ea
   have p1 := hc' 1 _ rfl
   have v0 := hc 0 _ rfl
   have v1 := hc 1 _ rfl
   have v2 := hc 2 _ rfl
   have v3 := hc 3 _ rfl
   have v4 := hc 4 _ rfl
   have v5 := hc 5 _ rfl
   have v6 := hc 6 _ rfl
   have v7 := hc 7 _ rfl
   have v8 := hc 8 _ rfl
   have v9 := hc 9 _ rfl
   have v10 := hc 10 _ rfl
   have v11 := hc 11 _ rfl
   have v12 := hc 12 _ rfl
   have v13 := hc 13 _ rfl
   rw [Nat.add_zero] at v0
   have HI1 := hid h1
   have HI2 := hid h2
   have HRr := hid hr
   have HRq := hid hq
   clear hc hc' h1 h2 hr hq
   go_upto_region 5 with fail
   have HBx : Hid ((wr.alloc (.cells #[.string r.name, .int .i64 r.rank, .int .i64 r.digits, .int .i64 r.lo, .int .i64 r.hi, .slice ma r.mcc.length mc, .bool r.am.isSome, .int .i64 (r.am.getD (0, 0)).1, .int .i64 (r.am.getD (0, 0)).2, .slice ca r.cur.length cc, .bool r.decline, .bool r.cheapest, .slice pa r.routes.length pc, .int .i64 r.ahead] 83)).heap[wr.heap.size]? = some (.cells #[.string r.name, .int .i64 r.rank, .int .i64 r.digits, .int .i64 r.lo, .int .i64 r.hi, .slice ma r.mcc.length mc, .bool r.am.isSome, .int .i64 (r.am.getD (0, 0)).1, .int .i64 (r.am.getD (0, 0)).2, .slice ca r.cur.length cc, .bool r.decline, .bool r.cheapest, .slice pa r.routes.length pc, .int .i64 r.ahead] 83)) := heap_alloc_new wr _
   have HF1 : Hid (Fr (fun _ => False) wr (wr.alloc (.cells #[.string r.name, .int .i64 r.rank, .int .i64 r.digits, .int .i64 r.lo, .int .i64 r.hi, .slice ma r.mcc.length mc, .bool r.am.isSome, .int .i64 (r.am.getD (0, 0)).1, .int .i64 (r.am.getD (0, 0)).2, .slice ca r.cur.length cc, .bool r.decline, .bool r.cheapest, .slice pa r.routes.length pc, .int .i64 r.ahead] 83))) := (Fr.refl _ _).alloc _
   generalize wr.alloc (.cells #[.string r.name, .int .i64 r.rank, .int .i64 r.digits, .int .i64 r.lo, .int .i64 r.hi, .slice ma r.mcc.length mc, .bool r.am.isSome, .int .i64 (r.am.getD (0, 0)).1, .int .i64 (r.am.getD (0, 0)).2, .slice ca r.cur.length cc, .bool r.decline, .bool r.cheapest, .slice pa r.routes.length pc, .int .i64 r.ahead] 83) = w1 at *
   obtain ⟨Q, hQ⟩ : ∃ Q, wr.heap.size = Q := ⟨_, rfl⟩
   rw [hQ] at HBx
   rw [hQ]
   have HQ := hid hQ
   have p2 := (HF1.out.cell (p := ⟨g', pl * 14 + 1, none⟩) (World.block_lt_of_cell? wr _ p1) (by simp)).trans p1
   obtain ⟨c0, c1, c2, c3, c4, c5, c6, c7, c8, c9, c10, c11, c12, c13⟩ := cells14 HBx.out
   clear p1 v0 v1 v2 v3 v4 v5 v6 v7 v8 v9 v10 v11 v12 v13 hQ
   obtain ⟨b, hb⟩ : ∃ b, ahdB rls pl k = b := ⟨_, rfl⟩
   have hb' : (decide (q.rank < r.rank) || (decide (r.rank = q.rank) && decide (k < pl))) = b := by rw [← hb]; unfold ahdB; rw [HRr.out, HRq.out]
   have HB := hid hb
   clear hb
   by_cases g1 : q.rank < r.rank
   ·have d1 : decide (q.rank < r.rank) = true := by simp [g1]
    have eb : b = true := by rw [← hb']; simp [g1]
    subst eb
    clear hb' g1
    go_quiet (fail)
    have HF2 : Hid (Fr (fun _ => False) wr (w1.drewN nq)) := HF1.out.trans ⟨rfl, rfl, rfl, Nat.le_refl _, fun _ _ _ => rfl⟩
    have HB2 : Hid ((w1.drewN nq).heap[Q]? = some (.cells #[.string r.name, .int .i64 r.rank, .int .i64 r.digits, .int .i64 r.lo, .int .i64 r.hi, .slice ma r.mcc.length mc, .bool r.am.isSome, .int .i64 (r.am.getD (0, 0)).1, .int .i64 (r.am.getD (0, 0)).2, .slice ca r.cur.length cc, .bool r.decline, .bool r.cheapest, .slice pa r.routes.length pc, .int .i64 r.ahead] 83)) := HBx.out
    clear p2 c0 c1 c2 c3 c4 c5 c6 c7 c8 c9 c10 c11 c12 c13 HBx HF1
    generalize w1.drewN nq = w2 at *
    obtain ⟨c0, c1, c2, c3, c4, c5, c6, c7, c8, c9, c10, c11, c12, c13⟩ := cells14 HB2.out
    have hro := HOk.out r (List.mem_of_getElem? HRr.out)
    have HAr := hid (area_rule w2 r nr ma mc ca cc pa pc hro.1 hro.2 (HI1.out.fr HF2.out (by simp)) (HI2.out.fr HF2.out (by simp)))
    clear hro
    go_wp2_with (go_at_call 45; refine HAr.out.mono ?_)
    rintro e w5 ⟨⟨x0, x1, x2, x3, rfl, hav, hnw⟩, hf5⟩
    have HE : Hid (ahdM rls pl (k + 1) = ahdM rls pl k ++ [arR r]) := by
     show _ = _
     conv => lhs; unfold ahdM; rw [HRr.out]
     simp [HB.out]
    generalize arR r = A at *
    have HV5 := hid hav
    have HN5 : Hid (ArNew wr.heap.size w5.heap.size x0 x1 x2 x3) := fun x hx g o e => ⟨Nat.le_trans HF2.out.size (hnw x hx g o e).1, (hnw x hx g o e).2⟩
    have HF5 := hid (HF2.out.trans hf5)
    have HO5 := hid (HA.out.more HF5.out).ro
    obtain ⟨nn, hnn⟩ : ∃ nn, es.length = nn := ⟨_, rfl⟩
    have hnb : nn ≤ 8 := by
     have h1 := congrArg List.length HA.out.ar
     have h2 := ahdM_len rls pl k
     rw [List.length_map] at h1
     omega
    have HNN := hid hnn
    rw [hnn] at HO5
    rw [hnn]
    clear hav hnw hf5 HAr c0 c1 c2 c3 c4 c5 c6 c7 c8 c9 c10 c11 c12 c13 hnn
    go_wp2_with (at_builtin; refine wpList_append_lies _ rfl (.tmp 38) (.tmp 41) 85 rfl w.heap.size 119 ii _ 4 96 Tryz.underlying85 hi hz0 hz1 hz2 rfl (by decide) (.slice oa nn oc) nn (arRows es) rfl ?h1a ⟨w5.heap.size, 0, none⟩ 1 1 [.slice x0.a A.s0.length x0.c, .slice x1.a A.s1.length x1.c, .slice x2.a A.s2.length x2.c, .slice x3.a A.s3.length x3.c] rfl rfl ?h2a ?h3a (by decide) ?h4a ?h5a ?h6a _ rfl ?h7a)
    case h1a => exact HO5.out.alloc _
    case h2a => exact World.news_of_block (heap_alloc_new w5 (.cells #[.slice x0.a A.s0.length x0.c, .slice x1.a A.s1.length x1.c, .slice x2.a A.s2.length x2.c, .slice x3.a A.s3.length x3.c] 119))
    case h3a => simp [Value.oneCell']
    case h4a => unfold maxLen; omega
    case h5a => omega
    case h6a => have := HF5.out.size; have := HA.out.fr.size; simp; omega
    case h7a =>
     intro g2 cap2 w8 hown hgrow hor _
     have HS8 : Hid (AhSt w (.slice (some ⟨g2, 0, none⟩) (nn + 1) cap2) (ahdM rls pl (k + 1)) (es ++ [⟨A, x0, x1, x2, x3⟩]) w8) := by
      show AhSt _ _ _ _ _
      rw [HE.out, ← HNN.out]
      rw [← HNN.out] at hown hgrow hor
      exact HA.out.app HF5.out HV5.out HN5.out hown hgrow (hor.imp id (fun e => by rw [e]; simp))
     clear hown hgrow hor
     go_wp2_with fail
     go_roundg (N - (k + 1))
     case measure => omega
     case rel => exact ⟨k + 1, _, by omega, rfl, by go_num, HS8⟩
   ·have d1 : decide (q.rank < r.rank) = false := by simp [g1]
    by_cases g2 : r.rank = q.rank
    ·have d2 : ((r.rank : Int) == (q.rank : Int)) = true := by simp [g2]
     have d3 : decide (r.rank = q.rank) = true := by simp [g2]
     by_cases g3 : k < pl
     ·have d4 : decide (k < pl) = true := by simp [g3]
      have eb : b = true := by rw [← hb']; simp [g2, g3]
      subst eb
      clear hb' g1 g2 g3
      go_quiet (fail)
      have HF2 : Hid (Fr (fun _ => False) wr (w1.drewN nq)) := HF1.out.trans ⟨rfl, rfl, rfl, Nat.le_refl _, fun _ _ _ => rfl⟩
      have HB2 : Hid ((w1.drewN nq).heap[Q]? = some (.cells #[.string r.name, .int .i64 r.rank, .int .i64 r.digits, .int .i64 r.lo, .int .i64 r.hi, .slice ma r.mcc.length mc, .bool r.am.isSome, .int .i64 (r.am.getD (0, 0)).1, .int .i64 (r.am.getD (0, 0)).2, .slice ca r.cur.length cc, .bool r.decline, .bool r.cheapest, .slice pa r.routes.length pc, .int .i64 r.ahead] 83)) := HBx.out
      clear p2 c0 c1 c2 c3 c4 c5 c6 c7 c8 c9 c10 c11 c12 c13 HBx HF1
      generalize w1.drewN nq = w2 at *
      obtain ⟨c0, c1, c2, c3, c4, c5, c6, c7, c8, c9, c10, c11, c12, c13⟩ := cells14 HB2.out
      have hro := HOk.out r (List.mem_of_getElem? HRr.out)
      have HAr := hid (area_rule w2 r nr ma mc ca cc pa pc hro.1 hro.2 (HI1.out.fr HF2.out (by simp)) (HI2.out.fr HF2.out (by simp)))
      clear hro
      go_wp2_with (go_at_call 45; refine HAr.out.mono ?_)
      rintro e w5 ⟨⟨x0, x1, x2, x3, rfl, hav, hnw⟩, hf5⟩
      have HE : Hid (ahdM rls pl (k + 1) = ahdM rls pl k ++ [arR r]) := by
       show _ = _
       conv => lhs; unfold ahdM; rw [HRr.out]
       simp [HB.out]
      generalize arR r = A at *
      have HV5 := hid hav
      have HN5 : Hid (ArNew wr.heap.size w5.heap.size x0 x1 x2 x3) := fun x hx g o e => ⟨Nat.le_trans HF2.out.size (hnw x hx g o e).1, (hnw x hx g o e).2⟩
      have HF5 := hid (HF2.out.trans hf5)
      have HO5 := hid (HA.out.more HF5.out).ro
      obtain ⟨nn, hnn⟩ : ∃ nn, es.length = nn := ⟨_, rfl⟩
      have hnb : nn ≤ 8 := by
       have h1 := congrArg List.length HA.out.ar
       have h2 := ahdM_len rls pl k
       rw [List.length_map] at h1
       omega
      have HNN := hid hnn
      rw [hnn] at HO5
      rw [hnn]
      clear hav hnw hf5 HAr c0 c1 c2 c3 c4 c5 c6 c7 c8 c9 c10 c11 c12 c13 hnn
      go_wp2_with (at_builtin; refine wpList_append_lies _ rfl (.tmp 38) (.tmp 41) 85 rfl w.heap.size 119 ii _ 4 96 Tryz.underlying85 hi hz0 hz1 hz2 rfl (by decide) (.slice oa nn oc) nn (arRows es) rfl ?h1b ⟨w5.heap.size, 0, none⟩ 1 1 [.slice x0.a A.s0.length x0.c, .slice x1.a A.s1.length x1.c, .slice x2.a A.s2.length x2.c, .slice x3.a A.s3.length x3.c] rfl rfl ?h2b ?h3b (by decide) ?h4b ?h5b ?h6b _ rfl ?h7b)
      case h1b => exact HO5.out.alloc _
      case h2b => exact World.news_of_block (heap_alloc_new w5 (.cells #[.slice x0.a A.s0.length x0.c, .slice x1.a A.s1.length x1.c, .slice x2.a A.s2.length x2.c, .slice x3.a A.s3.length x3.c] 119))
      case h3b => simp [Value.oneCell']
      case h4b => unfold maxLen; omega
      case h5b => omega
      case h6b => have := HF5.out.size; have := HA.out.fr.size; simp; omega
      case h7b =>
       intro g2 cap2 w8 hown hgrow hor _
       have HS8 : Hid (AhSt w (.slice (some ⟨g2, 0, none⟩) (nn + 1) cap2) (ahdM rls pl (k + 1)) (es ++ [⟨A, x0, x1, x2, x3⟩]) w8) := by
        show AhSt _ _ _ _ _
        rw [HE.out, ← HNN.out]
        rw [← HNN.out] at hown hgrow hor
        exact HA.out.app HF5.out HV5.out HN5.out hown hgrow (hor.imp id (fun e => by rw [e]; simp))
       clear hown hgrow hor
       go_wp2_with fail
       go_roundg (N - (k + 1))
       case measure => omega
       case rel => exact ⟨k + 1, _, by omega, rfl, by go_num, HS8⟩
     ·have d4 : decide (k < pl) = false := by simp [g3]
      have eb : b = false := by rw [← hb']; simp [g2, g3]
      subst eb
      clear hb' g1 g2 g3
      go_quiet (fail)
      have HF2 : Hid (Fr (fun _ => False) wr (w1.drewN nq)) := HF1.out.trans ⟨rfl, rfl, rfl, Nat.le_refl _, fun _ _ _ => rfl⟩
      have HS8 : Hid (AhSt w (.slice oa es.length oc) (ahdM rls pl (k + 1)) es (w1.drewN nq)) := by
       show AhSt _ _ _ _ _
       have e : ahdM rls pl (k + 1) = ahdM rls pl k := by
        conv => lhs; unfold ahdM; rw [HRr.out]
        simp [HB.out]
       rw [e]
       exact HA.out.more HF2.out
      clear p2 c0 c1 c2 c3 c4 c5 c6 c7 c8 c9 c10 c11 c12 c13 HBx HF1
      generalize w1.drewN nq = w2 at *
      go_wp2_with fail
      go_roundg (N - (k + 1))
      case measure => omega
      case rel => exact ⟨k + 1, _, by omega, rfl, by go_num, HS8⟩
    ·have d2 : ((r.rank : Int) == (q.rank : Int)) = false := by simp; omega
     have d3 : decide (r.rank = q.rank) = false := by simp [g2]
     have eb : b = false := by rw [← hb']; simp [g1, g2]
     subst eb
     clear hb' g1 g2
     go_quiet (fail)
     have HF2 : Hid (Fr (fun _ => False) wr (w1.drewN nq)) := HF1.out.trans ⟨rfl, rfl, rfl, Nat.le_refl _, fun _ _ _ => rfl⟩
     have HS8 : Hid (AhSt w (.slice oa es.length oc) (ahdM rls pl (k + 1)) es (w1.drewN nq)) := by
      show AhSt _ _ _ _ _
      have e : ahdM rls pl (k + 1) = ahdM rls pl k := by
       conv => lhs; unfold ahdM; rw [HRr.out]
       simp [HB.out]
      rw [e]
      exact HA.out.more HF2.out
     clear p2 c0 c1 c2 c3 c4 c5 c6 c7 c8 c9 c10 c11 c12 c13 HBx HF1
     generalize w1.drewN nq = w2 at *
     go_wp2_with fail
     go_roundg (N - (k + 1))
     case measure => omega
     case rel => exact ⟨k + 1, _, by omega, rfl, by go_num, HS8⟩
  ·have hki : ¬ (k : Int) < (N : Int) := by omega
   have ek : k = N := by omega
   have HEk := hid ek
   clear ek
   obtain ⟨oa, oc, ho⟩ := ownsRow_len HA.out.ro
   subst ho
   go_wp2_with fail
   go_ret
   obtain ⟨a', c', e1, h1, _⟩ := ars_own HA.out.ro (fun e he => (HA.out.ok e he).1)
   rw [e1]
   refine ⟨⟨a', c', es, rfl, ?_, h1⟩, HA.out.fr⟩
   rw [HA.out.ar, HEk.out]
end Go.Proofs.YtccikgogjfbpeaaGreat
