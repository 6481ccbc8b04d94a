/- The document's own sense of entries: faults are noted, the first one counts; plain; it answers as the reader does. INTs as digits: without noughts ahead, and with them; plain. And the entries, by the document's sense. The document's plain text, plain: tokens shown, with blanks between. Where the tokens of a list, a guard, an action, a rule stand; plain. -/
import Derived.Test.YtccikgogjfbpeabGreatDoorWQk
import Derived.Lib.ItoaNum
import Derived.Test.YtccikgogjfbpeabGreatDoorWQl
namespace Go.Proofs.YtccikgogjfbpeabGreatDoor
abbrev Fa := Option (Nat × Nat)
def noteM (f : Fa) (wrong : Bool) (k line : Nat) : Fa :=
 match f with
 | some x => some x
 | none => if wrong then some (k, line) else none
theorem noteM_some (x : Nat × Nat) (b : Bool) (k l : Nat) : noteM (some x) b k l = some x := rfl
theorem noteM_true (k l : Nat) : noteM none true k l = some (k, l) := rfl
theorem noteM_false (k l : Nat) : noteM none false k l = none := rfl
def refNames (nm : ByteArray) (line : Nat) (f : Fa) : List ByteArray -> Fa
 | [] => f
 | x :: xs => refNames nm line (noteM f (x.toList == nm.toList) 4 line) xs
theorem refNames_some (nm : ByteArray) (line : Nat) (x : Nat × Nat) (l : List ByteArray) : refNames nm line (some x) l = some x := by
 induction l with
 | nil => rfl
 | cons y ys ih => exact ih
theorem refNames_none (nm : ByteArray) (line : Nat) (l : List ByteArray) : refNames nm line none l = if l.any (fun x => x.toList == nm.toList) then some (4, line) else none := by
 induction l with
 | nil => rfl
 | cons y ys ih =>
  show refNames nm line (noteM none (y.toList == nm.toList) 4 line) ys = _
  by_cases hq : (y.toList == nm.toList) = true
  ·rw [if_pos (by rw [List.any_cons, hq]; rfl), hq, noteM_true, refNames_some]
  ·rw [Bool.not_eq_true] at hq
   have e : (y :: ys).any (fun x => x.toList == nm.toList) = ys.any (fun x => x.toList == nm.toList) := by rw [List.any_cons, hq]; rfl
   simp only [e]
   rw [hq, noteM_false, ih]
def refIntsF (most : Nat) (k : Nat) (f : Fa) : List Tk -> Fa
 | [] => f
 | t :: r => refIntsF most (k + 1) (noteM (noteM f (decide (4 < k)) 6 t.line) (decide (most < valOf t)) 5 t.line) r
theorem refIntsF_some (most k : Nat) (x : Nat × Nat) (l : List Tk) : refIntsF most k (some x) l = some x := by
 induction l generalizing k with
 | nil => rfl
 | cons y ys ih => exact ih (k + 1)
def faOf {α : Type} : Except (Nat × Nat) α -> Fa
 | .error f => some f
 | .ok _ => none
theorem refIntsF_eq (most : Nat) : ∀ (l : List Tk) (i : Nat), i <= 4 -> refIntsF most (i + 1) none l = faOf (numsFrom most i l) /\ ∀ ns, numsFrom most i l = .ok ns -> ns = l.map valOf
 | [], i, _ => ⟨rfl, fun ns h => by simp [numsFrom] at h; simp [h]⟩
 | t :: r, i, hi => by
  by_cases h4 : i = 4
  ·subst h4
   refine ⟨?_, fun ns h => by simp [numsFrom] at h⟩
   simp only [refIntsF, numsFrom]
   rw [show decide (4 < 4 + 1) = true from rfl, noteM_true, noteM_some, refIntsF_some]
   rfl
  have hd : decide (4 < i + 1) = false := by simp; omega
  by_cases hv : most < valOf t
  ·have hd2 : decide (most < valOf t) = true := by simpa using hv
   refine ⟨?_, fun ns h => by simp [numsFrom, h4, hv] at h⟩
   simp only [refIntsF, numsFrom]
   rw [hd, noteM_false, hd2, noteM_true, refIntsF_some, if_neg h4, if_pos hv]
   rfl
  ·have hd2 : decide (most < valOf t) = false := by simpa using hv
   obtain ⟨h1, h2⟩ := refIntsF_eq most r (i + 1) (by omega)
   refine ⟨?_, fun ns h => ?_⟩
   ·simp only [refIntsF, numsFrom]
    rw [hd, noteM_false, hd2, noteM_false, h1, if_neg h4, if_neg hv]
    cases numsFrom most (i + 1) r <;> rfl
   ·simp only [numsFrom] at h
    rw [if_neg h4, if_neg hv] at h
    cases hq : numsFrom most (i + 1) r with
    | error f => rw [hq] at h; cases h
    | ok ms =>
     rw [hq] at h
     injection h with h
     rw [<- h, List.map_cons, h2 ms hq]
def Distinct : List ByteArray -> Prop
 | [] => True
 | x :: xs => (∀ y, y ∈ xs -> (y.toList == x.toList) = false) /\ Distinct xs
def refRouteF (rts : List RouteM) (f : Fa) (r : RouteE) : Fa :=
 noteM (noteM (refNames r.name.text r.name.line (noteM f (decide (6 <= rts.length)) 6 r.name.line) (rts.map RouteM.name)) (decide (1000000 < valOf r.base)) 5 r.base.line) (decide (1000 < valOf r.rate)) 5 r.rate.line
theorem place_any (nm : ByteArray) (l : List RouteM) : ∀ i, (0 <= placeFrom nm i l) ↔ (l.map RouteM.name).any (fun x => x.toList == nm.toList) = true := by
 induction l with
 | nil => intro i; simp [placeFrom]
 | cons x xs ih =>
  intro i
  simp only [placeFrom, List.map_cons, List.any_cons]
  cases (x.name.toList == nm.toList) with
  | true => simp
  | false => simpa using ih (i + 1)
theorem refRoute_eq (rts : List RouteM) (r : RouteE) (h6 : rts.length <= 6) : refRouteF rts none r = faOf (addRouteM rts r) /\ ∀ t, addRouteM rts r = .ok t -> t = ⟨r.name.text, valOf r.base, valOf r.rate⟩ := by
 unfold refRouteF addRouteM
 by_cases h1 : rts.length = 6
 ·have hd : decide (6 <= rts.length) = true := by simp; omega
  rw [hd, noteM_true, refNames_some, if_pos h1]
  exact ⟨rfl, fun t h => by cases h⟩
 have hd : decide (6 <= rts.length) = false := by simp; omega
 rw [hd, noteM_false, refNames_none, if_neg h1]
 have hp := place_any r.name.text rts 0
 by_cases h2 : 0 <= placeFrom r.name.text 0 rts
 ·rw [if_pos (hp.1 h2), if_pos h2]
  exact ⟨rfl, fun t h => by cases h⟩
 rw [if_neg (fun h => h2 (hp.2 h)), if_neg h2]
 by_cases h3 : 1000000 < valOf r.base
 ·rw [show decide (1000000 < valOf r.base) = true from by simpa using h3, if_pos h3]
  exact ⟨rfl, fun t h => by cases h⟩
 rw [show decide (1000000 < valOf r.base) = false from by simpa using h3, if_neg h3]
 by_cases h4 : 1000 < valOf r.rate
 ·rw [show decide (1000 < valOf r.rate) = true from by simpa using h4, if_pos h4]
  exact ⟨rfl, fun t h => by cases h⟩
 rw [show decide (1000 < valOf r.rate) = false from by simpa using h4, if_neg h4]
 exact ⟨rfl, fun t h => by injection h with h; exact h.symm⟩
theorem numOf_9 : ∀ (l : List UInt8) (n : Nat), (∀ c, c ∈ l -> c.toNat <= 57) -> l.foldl (fun n c => n * 10 + (c.toNat - 48)) n < (n + 1) * 10 ^ l.length
 | [], n, _ => by simp
 | c :: r, n, h => by
  have h1 := numOf_9 r (n * 10 + (c.toNat - 48)) (fun d hd => h d (by simp [hd]))
  have h2 := h c (by simp)
  simp only [List.foldl_cons, List.length_cons]
  refine Nat.lt_of_lt_of_le h1 ?_
  rw [Nat.pow_succ, Nat.mul_comm (10 ^ r.length) 10, <- Nat.mul_assoc]
  exact Nat.mul_le_mul_right _ (by omega)
theorem valOf_lt (t : Tk) (hd : Dg t.text) : valOf t < 1000000000 := by
 have h := numOf_9 t.text.data.toList 0 (fun c hc => by
  obtain ⟨k, hk, e⟩ := List.getElem_of_mem hc
  have h2 := (hd.2 k (by simpa using hk)).2
  unfold bAt at h2
  rw [List.getD_eq_getElem?_getD, List.getElem?_eq_getElem hk, e] at h2
  simp at h2
  omega)
 have h9 : t.text.data.toList.length <= 9 := by have := hd.1; simpa using this
 have hp : 10 ^ t.text.data.toList.length <= 10 ^ 9 := Nat.pow_le_pow_right (by omega) h9
 unfold valOf numOf
 omega
end Go.Proofs.YtccikgogjfbpeabGreatDoor

namespace Go.Proofs.YtccikgogjfbpeabGreatDoor
def shortL : List UInt8 -> List UInt8
 | 48 :: c :: r => shortL (c :: r)
 | l => l
theorem shortL_zero (c : UInt8) (r : List UInt8) : shortL (48 :: c :: r) = shortL (c :: r) := by rw [shortL]
theorem shortL_one (c : UInt8) : shortL [c] = [c] := by
 unfold shortL; split
 ·rename_i h; simp at h
 ·rfl
theorem shortL_other (b : UInt8) (r : List UInt8) (h : b ≠ 48) : shortL (b :: r) = b :: r := by
 unfold shortL; split
 ·rename_i h'; simp at h'; exact absurd h'.1 h
 ·rfl
theorem shortL_pos (l : List UInt8) (h : l ≠ []) : shortL l ≠ [] /\ (shortL l).length <= l.length := by
 induction l with
 | nil => exact absurd rfl h
 | cons b r ih =>
  by_cases hb : b = 48
  ·subst hb
   cases r with
   | nil => rw [shortL_one]; simp
   | cons c r =>
    rw [shortL_zero]
    have := ih (by simp)
    exact ⟨this.1, by have := this.2; simp at this ⊢; omega⟩
  ·rw [shortL_other b r hb]; simp
theorem pad_short (l : List UInt8) (h : l ≠ []) : List.replicate (l.length - (shortL l).length) 48 ++ shortL l = l := by
 induction l with
 | nil => exact absurd rfl h
 | cons b r ih =>
  by_cases hb : b = 48
  ·subst hb
   cases r with
   | nil => rw [shortL_one]; simp
   | cons c r =>
    rw [shortL_zero]
    have h1 := ih (by simp)
    have h2 := (shortL_pos (c :: r) (by simp)).2
    have e : (48 :: c :: r).length - (shortL (c :: r)).length = ((c :: r).length - (shortL (c :: r)).length) + 1 := by
     simp only [List.length_cons] at h2 ⊢; omega
    rw [e, List.replicate_succ, List.cons_append, h1]
  ·rw [shortL_other b r hb]; simp
theorem shortL_snoc (m : List UInt8) (c : UInt8) (hm : m ≠ []) : shortL (m ++ [c]) = if shortL m = [48] then [c] else shortL m ++ [c] := by
 induction m with
 | nil => exact absurd rfl hm
 | cons b r ih =>
  by_cases hb : b = 48
  ·subst hb
   cases r with
   | nil => rw [shortL_one, if_pos rfl]; show shortL [48, c] = _; rw [shortL_zero, shortL_one]
   | cons d r =>
    rw [shortL_zero]
    show shortL (48 :: d :: (r ++ [c])) = _
    rw [shortL_zero]
    exact ih (by simp)
  ·rw [shortL_other b r hb, List.cons_append, shortL_other b _ hb]
   rw [if_neg (by simp; intro h; exact absurd h hb)]
def AllDg (l : List UInt8) : Prop := ∀ c, c ∈ l -> 48 <= c.toNat /\ c.toNat <= 57
theorem digit_of (c : UInt8) (h : 48 <= c.toNat /\ c.toNat <= 57) : UInt8.ofNat (48 + (c.toNat - 48)) = c := by
 rw [show 48 + (c.toNat - 48) = c.toNat from by omega]
 exact UInt8.ofNat_toNat
theorem dec_small {u : Nat} (h : u < 10) : Lib.decDigits u = [UInt8.ofNat (48 + u)] := by rw [Lib.decDigits, dif_pos h]
theorem dec_big {u : Nat} (h : ¬ u < 10) : Lib.decDigits u = Lib.decDigits (u / 10) ++ [UInt8.ofNat (48 + u % 10)] := by rw [Lib.decDigits, dif_neg h]
theorem dec_ne (u : Nat) : Lib.decDigits u ≠ [] := by
 by_cases h : u < 10
 ·rw [dec_small h]; simp
 ·rw [dec_big h]; simp
theorem dec_zero (u : Nat) : Lib.decDigits u = [48] ↔ u = 0 := by
 constructor
 ·intro h
  by_cases hu : u < 10
  ·rw [dec_small hu] at h
   injection h with h _
   have := congrArg UInt8.toNat h
   simp at this
   omega
  ·rw [dec_big hu] at h
   have h2 := congrArg List.length h
   have h3 : 1 <= (Lib.decDigits (u / 10)).length := by
    rcases Nat.eq_zero_or_pos (Lib.decDigits (u / 10)).length with h0 | h0
    ·exact absurd (List.length_eq_zero_iff.1 h0) (dec_ne _)
    ·exact h0
   simp at h2
   exact absurd h2 (dec_ne _)
 ·intro h; subst h; rw [dec_small (by omega)]; rfl
theorem short_dec : ∀ (n : Nat) (l : List UInt8), l.length = n -> l ≠ [] -> AllDg l -> shortL l = Lib.decDigits (numOf l) := by
 intro n
 induction n with
 | zero => intro l hl h _; exact absurd (List.length_eq_zero_iff.1 hl) h
 | succ n ih =>
  intro l hl hne hd
  obtain ⟨m, c, rfl⟩ : ∃ m c, l = m ++ [c] := ⟨l.dropLast, l.getLast hne, (List.dropLast_concat_getLast hne).symm⟩
  have hc := hd c (by simp)
  rw [numOf_snoc]
  by_cases hm : m = []
  ·subst hm
   show shortL [c] = Lib.decDigits (numOf [] * 10 + (c.toNat - 48))
   have e : numOf [] * 10 + (c.toNat - 48) = c.toNat - 48 := by simp [numOf]
   rw [e, shortL_one, dec_small (by omega), digit_of c hc]
  ·have hi := ih m (by simp at hl; exact hl) hm (fun d hd' => hd d (by simp [hd']))
   rw [shortL_snoc m c hm, hi]
   by_cases h0 : numOf m = 0
   ·rw [if_pos ((dec_zero _).2 h0), h0, dec_small (by omega), Nat.zero_mul, Nat.zero_add, digit_of c hc]
   ·rw [if_neg (fun h => h0 ((dec_zero _).1 h)), dec_big (u := numOf m * 10 + (c.toNat - 48)) (by omega)]
    rw [show (numOf m * 10 + (c.toNat - 48)) / 10 = numOf m from by omega, show (numOf m * 10 + (c.toNat - 48)) % 10 = c.toNat - 48 from by omega, digit_of c hc]
theorem allDg_of {t : ByteArray} (h : Dg t) : AllDg t.data.toList := fun c hc => by
 obtain ⟨k, hk, e⟩ := List.getElem_of_mem hc
 have h2 := h.2 k (by simpa using hk)
 unfold bAt at h2
 rw [List.getD_eq_getElem?_getD, List.getElem?_eq_getElem hk, e] at h2
 simp at h2
 omega
theorem ne_of_size {t : ByteArray} (h : 1 <= t.size) : t.data.toList ≠ [] := fun e => by
 have h2 : t.data.toList.length = t.size := by simp
 rw [e] at h2
 simp at h2
 omega
theorem short_val (t : Tk) (h : Dg t.text) (h1 : 1 <= t.text.size) : shortL t.text.data.toList = Lib.decDigits (valOf t) :=
 short_dec _ _ rfl (ne_of_size h1) (allDg_of h)
theorem pad_val (t : Tk) (h : Dg t.text) (h1 : 1 <= t.text.size) : List.replicate (t.text.size - (Lib.decDigits (valOf t)).length) 48 ++ Lib.decDigits (valOf t) = t.text.data.toList /\ (Lib.decDigits (valOf t)).length <= t.text.size := by
 have hne : t.text.data.toList ≠ [] := ne_of_size h1
 have hs := short_val t h h1
 have h2 := pad_short _ hne
 have h3 := (shortL_pos _ hne).2
 have e : t.text.data.toList.length = t.text.size := by simp
 rw [hs, e] at h2 h3
 exact ⟨h2, h3⟩
theorem distinct_snoc {l : List ByteArray} {x : ByteArray} (h : Distinct l) (hx : l.any (fun y => y.toList == x.toList) = false) : Distinct (l ++ [x]) := by
 induction l with
 | nil => exact ⟨fun y hy => by simp at hy, trivial⟩
 | cons a r ih =>
  have h' : (∀ y, y ∈ r -> (y.toList == a.toList) = false) /\ Distinct r := h
  rw [List.any_cons, Bool.or_eq_false_iff] at hx
  refine ⟨fun y hy => ?_, ih h'.2 hx.2⟩
  rcases List.mem_append.1 hy with hy | hy
  ·exact h'.1 y hy
  ·simp at hy
   subst hy
   rw [Bool.eq_false_iff] at hx ⊢
   intro e
   apply hx.1
   simp at e ⊢
   exact e.symm
theorem addRoute_distinct {rts : List RouteM} {r : RouteE} {t : RouteM} (h6 : rts.length <= 6) (hd : Distinct (rts.map RouteM.name)) (h : addRouteM rts r = .ok t) : Distinct ((rts ++ [t]).map RouteM.name) /\ (rts ++ [t]).length <= 6 := by
 have e := (refRoute_eq rts r h6).2 t h
 unfold addRouteM at h
 split at h
 ·cases h
 rename_i h1
 split at h
 ·cases h
 rename_i h2
 have hp := place_any r.name.text rts 0
 subst e
 rw [List.map_append]
 refine ⟨distinct_snoc hd ?_, by simp; omega⟩
 rw [Bool.eq_false_iff]
 exact fun hq => h2 (hp.2 hq)
theorem addRule_len {rts : List RouteM} {rls : List RuleM} {r : RuleE} {t : RuleM} (h8 : rls.length <= 8) (h : addRuleM rts rls r = .ok t) : (rls ++ [t]).length <= 8 := by
 unfold addRuleM at h
 split at h
 ·cases h
 ·simp; omega
end Go.Proofs.YtccikgogjfbpeabGreatDoor

namespace Go.Proofs.YtccikgogjfbpeabGreatDoor
def isT (t : Tk) (l : List UInt8) : Bool := t.text.toList == l
def digB (ts : List Tk) (k : Nat) : Bool :=
 (decide (0 < k) && isT (tkAt ts (k - 1)) [98, 105, 110]) || (decide (2 < k) && isT (tkAt ts (k - 1)) [46, 46] && isT (tkAt ts (k - 3)) [98, 105, 110])
def shown (ts : List Tk) (k : Nat) : List UInt8 :=
 if decide ((tkAt ts k).sort = 1) && !digB ts k then shortL (tkAt ts k).text.data.toList else (tkAt ts k).text.data.toList
def tightB (s : List UInt8) : Bool := s == [59] || s == [44] || s == [58] || s == [46, 46]
def shownFrom (ts : List Tk) : Nat -> Nat -> List (List UInt8)
 | _, 0 => []
 | k, n + 1 => shown ts k :: shownFrom ts (k + 1) n
end Go.Proofs.YtccikgogjfbpeabGreatDoor

namespace Go.Proofs.YtccikgogjfbpeabGreatDoor
theorem tkAt_of {ts : List Tk} {k : Nat} {t : Tk} (h : ts[k]? = some t) : tkAt ts k = t := by
 unfold tkAt
 rw [List.getD_eq_getElem?_getD, h]
 rfl
end Go.Proofs.YtccikgogjfbpeabGreatDoor
