/- What decides a payment: programs of steps, the rule that stands first; plain. Compile, walked. -/
import Derived.Test.YtccikgogjfbpeabGreatDoorWGh
import Derived.Test.YtccikgogjfbpeabGreatDoorWHa
import Derived.Test.YtccikgogjfbpeabGreatDoorWQm
import Derived.Test.YtccikgogjfbpeabGreatDoorWZa
namespace Go.Proofs.YtccikgogjfbpeabGreatDoor
structure PayM where
 pan : ByteArray
 mcc : Int
 am : Int
 cur : Int
def inL (l : List Nat) (n : Int) : Bool := l.any (fun x => decide ((x : Int) = n))
def okS (p : PayM) (s : StepM) : Bool :=
 if s.sort = 0 then inL s.nums p.mcc else if s.sort = 1 then decide (((s.nums.getD 0 0 : Nat) : Int) <= p.am) && decide (p.am <= ((s.nums.getD 1 0 : Nat) : Int)) else inL s.nums p.cur
def amOk (r : RuleM) (p : PayM) : Bool := match r.am with
 | none => true
 | some ab => decide ((ab.1 : Int) <= p.am) && decide (p.am <= (ab.2 : Int))
def meetG (r : RuleM) (p : PayM) : Bool := (decide (r.mcc = []) || inL r.mcc p.mcc) && (amOk r p && (decide (r.cur = []) || inL r.cur p.cur))
theorem meetG_all (r : RuleM) (p : PayM) : (guardsM r).all (okS p) = meetG r p := by
 unfold guardsM meetG amOk
 rw [List.all_append, List.all_append]
 have h1 : (if r.mcc = [] then [] else [(⟨0, r.mcc, 0, 0⟩ : StepM)]).all (okS p) = (decide (r.mcc = []) || inL r.mcc p.mcc) := by
  split
  ·rename_i h; simp [h]
  ·rename_i h; simp [h, okS]
 have h3 : (if r.cur = [] then [] else [(⟨2, r.cur, 0, 0⟩ : StepM)]).all (okS p) = (decide (r.cur = []) || inL r.cur p.cur) := by
  split
  ·rename_i h; simp [h]
  ·rename_i h; simp [h, okS]
 rw [h1, h3]
 cases r.am with
 | none => simp
 | some ab => simp [okS]
def machM (ok : StepM -> Bool) (l : List StepM) : Nat -> Nat -> Option StepM
 | 0, _ => none
 | n + 1, a => match l[a]? with
  | none => none
  | some s => if s.sort < 3 then machM ok l n (if ok s then a + 1 else a + s.skip) else some s
theorem mach_shift (ok : StepM -> Bool) (pre l : List StepM) : ∀ (n a : Nat), machM ok (pre ++ l) n (pre.length + a) = machM ok l n a
 | 0, _ => rfl
 | n + 1, a => by
  unfold machM
  rw [List.getElem?_append_right (by omega), show pre.length + a - pre.length = a from by omega]
  cases l[a]? with
  | none => rfl
  | some s =>
   dsimp only
   split
   ·rw [show (if ok s = true then pre.length + a + 1 else pre.length + a + s.skip) = pre.length + (if ok s = true then a + 1 else a + s.skip) from by split <;> omega]
    exact mach_shift ok pre l n _
   ·rfl
theorem skips_get (m : Nat) : ∀ (l : List StepM) (a j : Nat) (s : StepM), l[j]? = some s -> (skipsM m a l)[j]? = some { s with skip := m - (a + j) + 1 }
 | [], _, _, _, h => by simp at h
 | x :: r, a, 0, s, h => by
  simp at h
  subst h
  simp [skipsM]
 | x :: r, a, j + 1, s, h => by
  rw [List.getElem?_cons_succ] at h
  simp only [skipsM, List.getElem?_cons_succ]
  rw [skips_get m r (a + 1) j s h, show a + 1 + j = a + (j + 1) from by omega]
theorem okS_skip (p : PayM) (s : StepM) (k : Nat) : okS p { s with skip := k } = okS p s := rfl
theorem skips_len (m : Nat) : ∀ (a : Nat) (l : List StepM), (skipsM m a l).length = l.length
 | _, [] => rfl
 | a, _ :: r => by show (skipsM m (a + 1) r).length + 1 = r.length + 1; rw [skips_len m (a + 1) r]
theorem mach_guards (p : PayM) (gs : List StepM) (hgs : ∀ s, s ∈ gs -> s.sort < 3) (act : StepM) (ha : ¬ act.sort < 3) (rest : List StepM) (n : Nat) (R : Option StepM) (hr : machM (okS p) rest n 0 = R) (hn : 0 < n) :
  ∀ (k j : Nat), k + j = gs.length -> machM (okS p) (skipsM gs.length 0 gs ++ act :: rest) (n + k) j = if (gs.drop j).all (okS p) then some act else machM (okS p) (skipsM gs.length 0 gs ++ act :: rest) (n + k) j
 | 0, j, h => by
  rw [List.drop_of_length_le (by omega)]
  simp only [List.all_nil, if_true]
  obtain ⟨n', rfl⟩ : ∃ n', n = n' + 1 := ⟨n - 1, by omega⟩
  rw [Nat.add_zero, machM, List.getElem?_append_right (by rw [skips_len]; omega), skips_len, show j - gs.length = 0 from by omega]
  simp [ha]
 | k + 1, j, h => by
  have ih := mach_guards p gs hgs act ha rest n R hr hn k (j + 1) (by omega)
  obtain ⟨s, hs⟩ : ∃ s, gs[j]? = some s := ⟨_, List.getElem?_eq_getElem (by omega)⟩
  have hd : gs.drop j = s :: gs.drop (j + 1) := by
   obtain ⟨h1, h2⟩ := List.getElem?_eq_some_iff.1 hs
   rw [List.drop_eq_getElem_cons h1, h2]
  rw [hd, List.all_cons]
  cases ho : okS p s with
  | false => simp
  | true =>
   rw [Bool.true_and]
   split
   ·rename_i hall
    rw [if_pos hall] at ih
    show machM (okS p) _ (n + k + 1) j = _
    rw [machM, List.getElem?_append_left (by rw [skips_len]; omega), skips_get _ gs 0 j s hs]
    dsimp only
    rw [if_pos (hgs s (List.mem_of_getElem? hs)), okS_skip, ho, if_pos rfl]
    exact ih
   ·rfl
theorem mach_fall (p : PayM) (gs : List StepM) (hgs : ∀ s, s ∈ gs -> s.sort < 3) (act : StepM) (rest : List StepM) (n : Nat) (R : Option StepM) (hr : machM (okS p) rest n 0 = R) :
  ∀ (k j : Nat), k + j = gs.length -> (gs.drop j).all (okS p) = false -> ∃ n', machM (okS p) (skipsM gs.length 0 gs ++ act :: rest) n' j = R
 | 0, j, h, hf => by
  rw [List.drop_of_length_le (by omega)] at hf
  simp at hf
 | k + 1, j, h, hf => by
  obtain ⟨s, hs⟩ : ∃ s, gs[j]? = some s := ⟨_, List.getElem?_eq_getElem (by omega)⟩
  have hd : gs.drop j = s :: gs.drop (j + 1) := by
   obtain ⟨h1, h2⟩ := List.getElem?_eq_some_iff.1 hs
   rw [List.drop_eq_getElem_cons h1, h2]
  rw [hd, List.all_cons] at hf
  have one : ∀ n', machM (okS p) (skipsM gs.length 0 gs ++ act :: rest) (n' + 1) j = machM (okS p) (skipsM gs.length 0 gs ++ act :: rest) n' (if okS p s then j + 1 else j + (gs.length - (0 + j) + 1)) := by
   intro n'
   rw [machM, List.getElem?_append_left (by rw [skips_len]; omega), skips_get _ gs 0 j s hs]
   dsimp only
   rw [if_pos (hgs s (List.mem_of_getElem? hs)), okS_skip]
  cases ho : okS p s with
  | true =>
   rw [ho, Bool.true_and] at hf
   obtain ⟨n', e⟩ := mach_fall p gs hgs act rest n R hr k (j + 1) (by omega) hf
   exact ⟨n' + 1, by rw [one, ho]; exact e⟩
  | false =>
   refine ⟨n + 1, ?_⟩
   rw [one, ho, if_neg (by simp), show j + (gs.length - (0 + j) + 1) = (skipsM gs.length 0 gs ++ [act]).length + 0 from by rw [List.length_append, skips_len]; simp; omega, show skipsM gs.length 0 gs ++ act :: rest = (skipsM gs.length 0 gs ++ [act]) ++ rest from by simp, mach_shift]
   exact hr
theorem guards_sort (r : RuleM) : ∀ s, s ∈ guardsM r -> s.sort < 3 := by
 intro s hs
 unfold guardsM at hs
 rw [List.mem_append, List.mem_append] at hs
 rcases hs with h | h | h
 ·split at h
  ·cases h
  ·simp at h; subst h; simp
 ·cases hh : r.am with
  | none => rw [hh] at h; cases h
  | some ab => rw [hh] at h; simp at h; subst h; simp
 ·split at h
  ·cases h
  ·simp at h; subst h; simp
theorem act_sort (i : Nat) (r : RuleM) : ¬ (actM i r).sort < 3 := by
 unfold actM
 split
 ·simp
 ·split <;> simp
def firstM (R : List RuleM) (met : Nat) (p : PayM) : List Nat -> Option Nat
 | [] => none
 | i :: L => if met.testBit i && (match R[i]? with | none => false | some r => meetG r p) then some i else firstM R met p L
def endM (R : List RuleM) : Option Nat -> StepM
 | none => ⟨6, [], 0, 0⟩
 | some i => match R[i]? with
  | none => ⟨6, [], 0, 0⟩
  | some r => actM i r
theorem mach_write (R : List RuleM) (met : Nat) (p : PayM) : ∀ (L : List Nat), ∃ n, machM (okS p) (writeM R met L) n 0 = some (endM R (firstM R met p L))
 | [] => ⟨1, by simp [machM, writeM, endM, firstM]⟩
 | i :: L => by
  obtain ⟨n, ih⟩ := mach_write R met p L
  simp only [writeM, firstM]
  cases hb : met.testBit i with
  | false => simpa using ⟨n, ih⟩
  | true =>
   simp only [if_true, Bool.true_and]
   cases hr : R[i]? with
   | none => simpa using ⟨n, ih⟩
   | some r =>
    dsimp only
    have hm := meetG_all r p
    split
    ·rename_i hg
     rw [hg] at hm
     simp at hm
     rw [<- hm]
     exact ⟨1, by simp [machM, act_sort, endM, hr]⟩
    ·rename_i hg
     have hn : 0 < n := by
      cases n with
      | zero => simp [machM] at ih
      | succ n => omega
     by_cases hmm : meetG r p = true
     ·have e := mach_guards p (guardsM r) (guards_sort r) (actM i r) (act_sort i r) (writeM R met L) n _ ih hn (guardsM r).length 0 (by omega)
      rw [List.drop_zero, hm, hmm, if_pos rfl] at e
      rw [if_pos hmm]
      exact ⟨_, by rw [askedM, e]; simp [endM, hr]⟩
     ·have hmf : meetG r p = false := by simpa using hmm
      obtain ⟨n', e⟩ := mach_fall p (guardsM r) (guards_sort r) (actM i r) (writeM R met L) n _ ih (guardsM r).length 0 (by omega) (by rw [List.drop_zero, hm, hmf])
      rw [if_neg hmm]
      exact ⟨n', by rw [askedM, e]⟩
def bestR (rk : Nat -> Nat) (meets : Nat -> Bool) : Nat -> Option Nat
 | 0 => none
 | n + 1 => if meets n && (match bestR rk meets n with | none => true | some b => decide (rk b < rk n)) then some n else bestR rk meets n
theorem bestR_ok (rk : Nat -> Nat) (meets : Nat -> Bool) : ∀ n, match bestR rk meets n with
  | none => ∀ j, j < n -> meets j = false
  | some b => b < n /\ meets b = true /\ ∀ j, j < n -> meets j = true -> j ≠ b -> Ahead rk b j
 | 0 => by intro j hj; omega
 | n + 1 => by
  have ih := bestR_ok rk meets n
  unfold bestR
  cases hb : bestR rk meets n with
  | none =>
   rw [hb] at ih
   dsimp only at ih ⊢
   rw [Bool.and_true]
   cases hm : meets n with
   | true =>
    simp only [if_true]
    refine ⟨by omega, hm, fun j hj hmj hne => ?_⟩
    have := ih j (by omega)
    rw [this] at hmj
    cases hmj
   | false =>
    simp only [Bool.false_eq_true, if_false]
    intro j hj
    by_cases e : j = n
    ·subst e; exact hm
    ·exact ih j (by omega)
  | some b =>
   rw [hb] at ih
   dsimp only at ih ⊢
   obtain ⟨h1, h2, h3⟩ := ih
   cases hm : meets n with
   | true =>
    rw [Bool.true_and]
    by_cases hlt : rk b < rk n
    ·simp only [hlt, decide_true, if_true]
     refine ⟨by omega, hm, fun j hj hmj hne => ?_⟩
     by_cases e : j = b
     ·subst e; exact Or.inl hlt
     ·have := h3 j (by omega) hmj e
      unfold Ahead at *
      omega
    ·simp only [hlt, decide_false, Bool.false_eq_true, if_false]
     refine ⟨by omega, h2, fun j hj hmj hne => ?_⟩
     by_cases e : j = n
     ·subst e
      unfold Ahead
      omega
     ·exact h3 j (by omega) hmj hne
   | false =>
    simp only [Bool.false_and, Bool.false_eq_true, if_false]
    refine ⟨by omega, h2, fun j hj hmj hne => ?_⟩
    by_cases e : j = n
    ·subst e
     rw [hm] at hmj
     cases hmj
    ·exact h3 j (by omega) hmj hne
theorem find_ok {rk : Nat -> Nat} {meets : Nat -> Bool} : ∀ {L : List Nat}, L.Pairwise (Ahead rk) -> match L.find? meets with
  | none => ∀ j, j ∈ L -> meets j = false
  | some b => b ∈ L /\ meets b = true /\ ∀ j, j ∈ L -> meets j = true -> j ≠ b -> Ahead rk b j
 | [], _ => by intro j hj; cases hj
 | x :: L, h => by
  have ih := find_ok (meets := meets) (List.pairwise_cons.1 h).2
  rw [List.find?_cons]
  cases hx : meets x with
  | true =>
   dsimp only
   refine ⟨by simp, hx, fun j hj _ hne => ?_⟩
   rcases List.mem_cons.1 hj with e | hj
   ·exact absurd e hne
   ·exact (List.pairwise_cons.1 h).1 j hj
  | false =>
   dsimp only
   cases hf : L.find? meets with
   | none =>
    rw [hf] at ih
    dsimp only at ih ⊢
    intro j hj
    rcases List.mem_cons.1 hj with e | hj
    ·rw [e]; exact hx
    ·exact ih j hj
   | some b =>
    rw [hf] at ih
    dsimp only at ih ⊢
    refine ⟨by simp [ih.1], ih.2.1, fun j hj hm hne => ?_⟩
    rcases List.mem_cons.1 hj with e | hj
    ·subst e; rw [hx] at hm; cases hm
    ·exact ih.2.2 j hj hm hne
theorem best_find (rk : Nat -> Nat) (meets : Nat -> Bool) (n : Nat) : (sortM rk n).find? meets = bestR rk meets n := by
 have h1 := find_ok (meets := meets) (sort_sorted rk n)
 have h2 := bestR_ok rk meets n
 cases e1 : (sortM rk n).find? meets with
 | none =>
  rw [e1] at h1
  cases e2 : bestR rk meets n with
  | none => rfl
  | some b =>
   rw [e2] at h2
   have := h1 b (sortM_mem.2 h2.1)
   rw [h2.2.1] at this
   cases this
 | some a =>
  rw [e1] at h1
  dsimp only at h1
  have ha := sortM_mem.1 h1.1
  cases e2 : bestR rk meets n with
  | none =>
   rw [e2] at h2
   have := h2 a ha
   rw [h1.2.1] at this
   cases this
  | some b =>
   rw [e2] at h2
   dsimp only at h2
   by_cases e : a = b
   ·rw [e]
   ·have q1 := h1.2.2 b (sortM_mem.2 h2.1) h2.2.1 (fun e' => e e'.symm)
    have q2 := h2.2.2 a ha h1.2.1 e
    unfold Ahead at q1 q2
    omega
theorem first_find (R : List RuleM) (met : Nat) (p : PayM) : ∀ L, firstM R met p L = L.find? (fun i => met.testBit i && (match R[i]? with | none => false | some r => meetG r p))
 | [] => rfl
 | i :: L => by
  rw [firstM, List.find?_cons, first_find R met p L]
  cases (met.testBit i && (match R[i]? with | none => false | some r => meetG r p)) <;> simp
theorem ordL_sort (rk : Nat -> Nat) (n : Nat) : ordL n (stageF rk n) = sortM rk n := by
 unfold ordL
 apply List.ext_getElem?
 intro k
 rw [List.getElem?_map]
 have hl := sortM_length rk n
 by_cases hk : k < n
 ·rw [List.getElem?_range hk, List.getElem?_eq_getElem (by omega)]
  simp only [Option.map_some, stageF, if_pos hk]
  rw [getD_of_lt (by omega)]
 ·rw [List.getElem?_eq_none (by simp; omega), List.getElem?_eq_none (by omega)]
  rfl
theorem stage_lt (rk : Nat -> Nat) (n k : Nat) (h : k < n) : stageF rk n k < n := by
 have hl := sortM_length rk n
 unfold stageF
 rw [if_pos h, getD_of_lt (by omega)]
 exact sortM_mem.1 (List.getElem_mem _)
def meetC (R : List RuleM) (p : PayM) (c i : Nat) : Bool := match R[i]? with
 | none => false
 | some r => decide (r.lo <= c / 10 ^ (6 - r.digits)) && (decide (c / 10 ^ (6 - r.digits) <= r.hi) && meetG r p)
theorem first_best (R : List RuleM) (met : Nat) (p : PayM) (c : Nat) (hm : ∀ i r, R[i]? = some r -> (met.testBit i = true ↔ inBin r.digits r.lo r.hi c)) :
  firstM R met p (ordL R.length (stageF (rankF R) R.length)) = bestR (rankF R) (meetC R p c) R.length := by
 rw [first_find, ordL_sort, <- best_find]
 congr 1
 funext i
 unfold meetC
 cases hr : R[i]? with
 | none => simp
 | some r =>
  have h := hm i r hr
  unfold inBin at h
  dsimp only
  cases hb : met.testBit i with
  | true =>
   have := h.1 hb
   simp [this.1, this.2]
  | false =>
   have h' : ¬ (r.lo <= c / 10 ^ (6 - r.digits) /\ c / 10 ^ (6 - r.digits) <= r.hi) := fun e => by have := h.2 e; rw [hb] at this; cases this
   by_cases h1 : r.lo <= c / 10 ^ (6 - r.digits)
   ·have h2 : ¬ c / 10 ^ (6 - r.digits) <= r.hi := fun e => h' ⟨h1, e⟩
    simp [h1, h2]
   ·simp [h1]
def bestM (ch : Bool) (fee : Nat -> Int) (dn : Nat -> Bool) : List Nat -> Option Nat -> Option Nat
 | [], b => b
 | x :: r, b => bestM ch fee dn r (if dn x then b else match b with
  | none => some x
  | some y => if ch && decide (fee x < fee y) then some x else some y)
theorem best_first (fee : Nat -> Int) (dn : Nat -> Bool) : ∀ (l : List Nat) (y : Nat), bestM false fee dn l (some y) = some y
 | [], _ => rfl
 | x :: r, y => by
  unfold bestM
  have : (if dn x = true then some y else if (false && decide (fee x < fee y)) = true then some x else some y) = some y := by split <;> simp
  dsimp only
  rw [this]
  exact best_first fee dn r y
def feeM (rts : List RouteM) (am : Int) (x : Nat) : Int := match rts[x]? with
 | none => 0
 | some t => (t.base : Int) + (t.rate : Int) * am
def rtName (rts : List RouteM) (x : Nat) : ByteArray := match rts[x]? with
 | none => ByteArray.empty
 | some t => t.name
def outM (rts : List RouteM) (r : RuleM) (dn : Nat -> Bool) (am : Int) : Nat × ByteArray × ByteArray :=
 if r.decline then (3, r.name, ByteArray.empty)
 else match bestM r.cheapest (feeM rts am) dn r.routes none with
  | none => (4, r.name, ByteArray.empty)
  | some x => (0, r.name, rtName rts x)
def panOk (s : ByteArray) : Bool := decide (6 <= s.size) && (decide (s.size <= 19) && s.data.toList.all (fun c => decide (48 <= c.toNat) && decide (c.toNat <= 57)))
def payOk (p : PayM) : Bool := panOk p.pan && (decide (0 <= p.mcc) && decide (p.mcc <= 9999)) && ((decide (0 <= p.am) && decide (p.am <= 1000000000)) && (decide (0 <= p.cur) && decide (p.cur <= 999)))
def card6 (s : ByteArray) : Nat := numOf (s.data.toList.take 6)
def decM (rts : List RouteM) (R : List RuleM) (p : PayM) (dn : Nat -> Bool) : Nat × ByteArray × ByteArray :=
 if payOk p then (match bestR (rankF R) (meetC R p (card6 p.pan)) R.length with
  | none => (2, ByteArray.empty, ByteArray.empty)
  | some i => match R[i]? with
   | none => (2, ByteArray.empty, ByteArray.empty)
   | some r => outM rts r dn p.am)
 else (1, ByteArray.empty, ByteArray.empty)
theorem numOf_take {l : List UInt8} (hd : ∀ c, c ∈ l -> 48 <= c.toNat /\ c.toNat <= 57) : ∀ (m k : Nat), k + m <= l.length -> numOf (l.take (k + m)) / 10 ^ m = numOf (l.take k)
 | 0, k, _ => by simp
 | m + 1, k, h => by
  have ih := numOf_take hd m k (by omega)
  obtain ⟨c, hc⟩ : ∃ c, l[k + m]? = some c := ⟨_, List.getElem?_eq_getElem (by omega)⟩
  have hcd := hd c (List.mem_of_getElem? hc)
  rw [show k + (m + 1) = (k + m) + 1 from by omega, List.take_add_one, hc, Option.toList_some, numOf_snoc, Nat.pow_succ, Nat.mul_comm (10 ^ m) 10, <- Nat.div_div_eq_div_mul, show (numOf (l.take (k + m)) * 10 + (c.toNat - 48)) / 10 = numOf (l.take (k + m)) from by omega]
  exact ih
theorem card_digit {l : List UInt8} (hd : ∀ c, c ∈ l -> 48 <= c.toNat /\ c.toNat <= 57) (h6 : 6 <= l.length) (k : Nat) (hk : k < 6) (c : UInt8) (hc : l[k]? = some c) : dgt (numOf (l.take 6)) k = c.toNat - 48 := by
 unfold dgt
 have e := numOf_take hd (5 - k) (k + 1) (by omega)
 rw [show k + 1 + (5 - k) = 6 from by omega] at e
 have hcd := hd c (List.mem_of_getElem? hc)
 rw [e, List.take_add_one, hc, Option.toList_some, numOf_snoc]
 omega
end Go.Proofs.YtccikgogjfbpeabGreatDoor

namespace Go.Proofs.YtccikgogjfbpeabGreatDoor
open Go.RowKit
theorem StVs.less {zb zb' : Nat} {w : World} (h : zb' <= zb) : ∀ {l : List StepM} {xs : List Value}, StVs zb w l xs -> StVs zb' w l xs
 | [], _, e => e
 | _ :: _, _, ⟨c, rest, e, ⟨vn, e1, h1⟩, h2⟩ => ⟨c, rest, e, ⟨vn, e1, ownsRow_base h1 h⟩, StVs.less h h2⟩
theorem TreeAt.less {zb zb' : Nat} {w : World} {T : Nat} {vr : Value} {R : List RuleM} {ord : Nat -> Nat} (h : TreeAt zb w T vr R ord) (hz : zb' <= zb) : TreeAt zb' w T vr R ord := by
 obtain ⟨vn, vp, a, b, h1, h2, ⟨xs, h3, h4⟩, h5⟩ := h.bx
 refine ⟨Nat.le_trans hz h.tz, vn, vp, a, b, h1, ownsRow_base h2 hz, ⟨xs, ownsRow_base h3 hz, fun j m hj => ?_⟩, TrAt.low hz _ _ h5⟩
 obtain ⟨vj, e1, ys, e2, e3⟩ := h4 j m hj
 exact ⟨vj, e1, ys, ownsRow_base e2 hz, e3.less hz⟩
theorem Grow_book (w : World) (B : Nat) (vr vl : Value) (rts : List RouteM) (rls : List RuleM) (xs : List Value) (zb : Nat) (hk : Bk w B vr vl rts rls xs) (ho : BookOk rts rls) (hz : zb <= B) :
  Calls Tryz.prog 34 #[.pointer (some ⟨B, 0, none⟩)] w fun e w' => (∃ T, e = .returned (.pointer (some ⟨T, 0, none⟩)) /\ w.heap.size <= T /\ TreeAt zb w' T vr rls (stageF (rankF rls) rls.length)) /\ F0 w w' := by
 have hBl : B < w.heap.size := World.block_lt_of_cell? w _ hk.c0
 obtain ⟨ra, rc, e1⟩ := ownsRow_len hk.ro
 subst e1
 obtain ⟨va, c, e2⟩ := ownsRow_len hk.lo
 subst e2
 refine Grow_any w B ra rts.length rc va rls.length c rls rfl hk.l8 (fun k h => stage_lt _ _ _ h) (fun r hr => ⟨(ho.rl r hr).mc.1, (ho.rl r hr).cu.1⟩) (fun r hr => ⟨⟨(ho.rl r hr).bn.1, (ho.rl r hr).bn.2.1⟩, ?_⟩) (by omega) hk.c0 hk.c1 (fun i r hi => ?_)
 ·obtain ⟨h1, h2, h3⟩ := (ho.rl r hr).bn
  have : 10 ^ r.digits <= 10 ^ 6 := Nat.pow_le_pow_right (by omega) h1
  omega
 ·obtain ⟨cs, ⟨vm, vc, vp, e, h1, h2, h3⟩, hc⟩ := hk.ru.at' hi
  obtain ⟨ma, mc, e4⟩ := ownsRow_len h1
  subst e4
  obtain ⟨ca, cc, e5⟩ := ownsRow_len h2
  subst e5
  obtain ⟨pa, pc, e6⟩ := ownsRow_len h3
  subst e6
  have hlt := (List.getElem?_eq_some_iff.1 hi).1
  obtain ⟨g, c', e7, hb, hl⟩ := hk.lo.form (by omega)
  injection e7 with e7 e8 e9
  subst e7 e9
  refine ⟨g, ma, mc, ca, cc, pa, pc, rfl, hl, fun o v hv => ?_, ownsRow_base h1 (by omega), ownsRow_base h2 (by omega), ownsRow_base h3 (by omega)⟩
  have hx := hk.lo.cells (g := g) rfl _ _ (hc o v (by rw [e]; exact hv))
  rw [addr_add', Nat.zero_add] at hx
  exact hx
def CPost (x : Except (Nat × Nat) (List RouteM × List RuleM)) (w : World) (e : Ending) (w' : World) : Prop :=
 match x with
 | .ok p => (∃ T B TT vr vl xs, e = .returned (.tuple #[.pointer (some ⟨T, 0, none⟩), .int .i64 0, .int .i64 0]) /\ w.heap.size <= T /\ w'.cell? ⟨T, 0, none⟩ = some (.pointer (some ⟨B, 0, none⟩)) /\ w'.cell? ⟨T, 1, none⟩ = some (.pointer (some ⟨TT, 0, none⟩)) /\ w.heap.size <= B /\ Bk w' B vr vl p.1 p.2 xs /\ TreeAt w.heap.size w' TT vr p.2 (stageF (rankF p.2) p.2.length)) /\ Below w.heap.size w w'
 | .error f => e = .returned (.tuple #[.pointer none, .int .i64 f.1, .int .i64 f.2]) /\ Below w.heap.size w w'
theorem CPost.ok {x : Except (Nat × Nat) (List RouteM × List RuleM)} {w w' : World} {e : Ending} {p : List RouteM × List RuleM} (h : x = .ok p) : CPost x w e w' ↔ (∃ T B TT vr vl xs, e = .returned (.tuple #[.pointer (some ⟨T, 0, none⟩), .int .i64 0, .int .i64 0]) /\ w.heap.size <= T /\ w'.cell? ⟨T, 0, none⟩ = some (.pointer (some ⟨B, 0, none⟩)) /\ w'.cell? ⟨T, 1, none⟩ = some (.pointer (some ⟨TT, 0, none⟩)) /\ w.heap.size <= B /\ Bk w' B vr vl p.1 p.2 xs /\ TreeAt w.heap.size w' TT vr p.2 (stageF (rankF p.2) p.2.length)) /\ Below w.heap.size w w' := by subst h; exact Iff.rfl
theorem CPost.err {x : Except (Nat × Nat) (List RouteM × List RuleM)} {w w' : World} {e : Ending} {f : Nat × Nat} (h : x = .error f) : CPost x w e w' ↔ e = .returned (.tuple #[.pointer none, .int .i64 f.1, .int .i64 f.2]) /\ Below w.heap.size w w' := by subst h; exact Iff.rfl
set_option maxRecDepth 30000 in
set_option maxHeartbeats 400000 in
theorem Compile_any (s : ByteArray) (w : World) : Calls Tryz.prog 21 #[.string s] w (CPost (readM s) w) := by
 have hmf : ∀ (fn : Fn) (first cap : Array Value) (w : World), (Instr.makeFunc fn first cap).run Tryz.prog w = .ok (.func fn first cap) w := fun _ _ _ _ => rfl
 go_enter_defers Tryz.func21, Tryz.ntmps21
 go_wp2_with fail
 refine (Read_any s _).mono ?_
 intro e w1 hT
 have hw0 : F0 w (((w.alloc (.cells #[.pointer none] 26)).alloc (.cells #[.int .i64 0] 47)).alloc (.cells #[.int .i64 0] 3)) := (((Fr.refl _ _).alloc _).alloc _).alloc _
 have q0 : (((w.alloc (.cells #[.pointer none] 26)).alloc (.cells #[.int .i64 0] 47)).alloc (.cells #[.int .i64 0] 3)).heap[w.heap.size]? = some (.cells #[.pointer none] 26) := (((Fr.refl (fun _ => False) _).alloc _).alloc _).whole (heap_alloc_new w _) (by simp)
 have q1 : (((w.alloc (.cells #[.pointer none] 26)).alloc (.cells #[.int .i64 0] 47)).alloc (.cells #[.int .i64 0] 3)).heap[w.heap.size + 1]? = some (.cells #[.int .i64 0] 47) := ((Fr.refl (fun _ => False) _).alloc _).whole (by have := heap_alloc_new (w.alloc (.cells #[.pointer none] 26)) (.cells #[.int .i64 0] 47); simpa using this) (by simp)
 have q2 : (((w.alloc (.cells #[.pointer none] 26)).alloc (.cells #[.int .i64 0] 47)).alloc (.cells #[.int .i64 0] 3)).heap[w.heap.size + 1 + 1]? = some (.cells #[.int .i64 0] 3) := by have := heap_alloc_new ((w.alloc (.cells #[.pointer none] 26)).alloc (.cells #[.int .i64 0] 47)) (.cells #[.int .i64 0] 3); simpa using this
 have hsz : w.heap.size <= (((w.alloc (.cells #[.pointer none] 26)).alloc (.cells #[.int .i64 0] 47)).alloc (.cells #[.int .i64 0] 3)).heap.size := hw0.size
 generalize ((w.alloc (.cells #[.pointer none] 26)).alloc (.cells #[.int .i64 0] 47)).alloc (.cells #[.int .i64 0] 3) = w0 at *
 cases hR : readM s with
 | error f =>
  obtain ⟨he, hf⟩ := (RPost.err hR).1 hT
  unfold faultE at he
  subst he
  have hfr : F0 w0 w1 := Fr.of_below hf
  refine leaves_cons (f := 43) (args := #[.pointer (some ⟨w.heap.size, 0, none⟩), .pointer (some ⟨w.heap.size + 1, 0, none⟩), .pointer (some ⟨w.heap.size + 1 + 1, 0, none⟩)]) (by simp) (by simp [go_sem]) ?_
  refine (catch_panicking w.heap.size (w.heap.size + 1) (w.heap.size + 1 + 1) f.1 f.2 _ _ _ w1 (block_cell (hfr.whole q0 (by simp)) 0 _ rfl) (block_cell (hfr.whole q1 (by simp)) 0 _ rfl) (block_cell (hfr.whole q2 (by simp)) 0 _ rfl) (block_frozen (hfr.whole q0 (by simp)) 0) (block_frozen (hfr.whole q1 (by simp)) 0) (block_frozen (hfr.whole q2 (by simp)) 0) (by omega) (by omega) (by omega) (by omega) (by omega) (by omega)).mono ?_
  rintro e u' w2 ⟨rfl, rfl, a0, a1, a2, hf2⟩
  have hB : Below w.heap.size w w2 := (hw0.trans hfr).below (Nat.le_refl _) (by simp) |>.trans (hf2.below (Nat.le_trans hsz hfr.size) (fun k hk => by omega))
  simp [Leaves, settle, results, Tryz.results21, go_sem, a0, a1, a2]
  exact (CPost.err rfl).2 ⟨rfl, hB⟩
 | ok p =>
  obtain ⟨⟨B, vr, vl, xs, rfl, hB, hk⟩, hf⟩ := (RPost.ok hR).1 hT
  have hfr : F0 w0 w1 := Fr.of_below hf
  have HGR := hid (Grow_book w1 B vr vl p.1 p.2 xs w0.heap.size hk (readM_book hR) hB)
  have HK := hid hk
  have HF0 := hid hfr
  have HW0 := hid hw0
  have HQ0 := hid q0
  have HQ1 := hid q1
  have HQ2 := hid q2
  have HBs := hid hB
  have HR := hid hR
  clear hk hfr hf hw0 q0 q1 q2 hsz hB hT hR
  go_wp2_with fail
  refine HGR.o.mono ?_
  rintro e w2 ⟨⟨TT, rfl, hTT, hTr⟩, hf12⟩
  have hfr2 : F0 w0 w2 := HF0.o.trans hf12
  have hn1 : w.heap.size + 1 + 1 < w2.heap.size := Nat.lt_of_lt_of_le (Array.getElem?_eq_some_iff.1 HQ2.o).1 hfr2.size
  have hfa : F0 w0 (w2.alloc (.cells #[.pointer (some ⟨B, 0, none⟩), .pointer (some ⟨TT, 0, none⟩)] 63)) := hfr2.alloc _
  have c0 := block_cell (hfa.whole HQ0.o (by simp)) 0 _ rfl
  have c1 := block_cell (hfa.whole HQ1.o (by simp)) 0 _ rfl
  have c2 := block_cell (hfa.whole HQ2.o (by simp)) 0 _ rfl
  have z0 := block_frozen (hfa.whole HQ0.o (by simp)) 0
  have z1 := block_frozen (hfa.whole HQ1.o (by simp)) 0
  have z2 := block_frozen (hfa.whole HQ2.o (by simp)) 0
  have HK2 : Hid (Bk w2 B vr vl p.1 p.2 xs /\ TreeAt w0.heap.size w2 TT vr p.2 (stageF (rankF p.2) p.2.length)) := ⟨HK.o.fr hf12 (by simp), hTr⟩
  have HF := hid (HW0.o.trans hfr2)
  have H0 : Hid (w.heap.size + 1 + 1 < w0.heap.size /\ w.heap.size <= w0.heap.size) := ⟨(Array.getElem?_eq_some_iff.1 HQ2.o).1, HW0.o.size⟩
  clear hfa hfr2 hf12 hTr hTT
  go_wp2_with fail
  have oth : ∀ (v : World) (x y o : Nat) (u : Value), ¬ x = y -> (v.setCell ⟨x, 0, none⟩ u).cell? ⟨y, o, none⟩ = v.cell? ⟨y, o, none⟩ := fun v x y o u h => World.cell?_setCell_other _ _ _ _ (fun e => h (by injection e))
  have hT := block_cell (heap_alloc_new w2 (.cells #[.pointer (some ⟨B, 0, none⟩), .pointer (some ⟨TT, 0, none⟩)] 63)) 0 _ rfl
  have hT1 := block_cell (heap_alloc_new w2 (.cells #[.pointer (some ⟨B, 0, none⟩), .pointer (some ⟨TT, 0, none⟩)] 63)) 1 _ rfl
  have HW : Fr (fun j => j = w.heap.size \/ j = w.heap.size + 1 \/ j = w.heap.size + 1 + 1) w2 ((((w2.alloc (.cells #[.pointer (some ⟨B, 0, none⟩), .pointer (some ⟨TT, 0, none⟩)] 63)).setCell ⟨w.heap.size, 0, none⟩ (.pointer (some ⟨w2.heap.size, 0, none⟩))).setCell ⟨w.heap.size + 1, 0, none⟩ (.int .i64 0)).setCell ⟨w.heap.size + 1 + 1, 0, none⟩ (.int .i64 0)) := ((((Fr.refl _ _).alloc _).setCell (Or.inl (Or.inl rfl)) _).setCell (Or.inl (Or.inr (Or.inl rfl))) _).setCell (Or.inl (Or.inr (Or.inr rfl))) _
  have d0 := (oth _ (w.heap.size + 1 + 1) w.heap.size 0 (.int .i64 0) (by omega)).trans ((oth _ (w.heap.size + 1) w.heap.size 0 (.int .i64 0) (by omega)).trans (World.cell?_setCell_same _ _ (.pointer (some ⟨w2.heap.size, 0, none⟩)) c0))
  have d1 := (oth _ (w.heap.size + 1 + 1) (w.heap.size + 1) 0 (.int .i64 0) (by omega)).trans (World.cell?_setCell_same _ _ (.int .i64 0) ((oth _ w.heap.size (w.heap.size + 1) 0 (.pointer (some ⟨w2.heap.size, 0, none⟩)) (by omega)).trans c1))
  have d2 := World.cell?_setCell_same _ _ (.int .i64 0) ((oth _ (w.heap.size + 1) (w.heap.size + 1 + 1) 0 (.int .i64 0) (by omega)).trans ((oth _ w.heap.size (w.heap.size + 1 + 1) 0 (.pointer (some ⟨w2.heap.size, 0, none⟩)) (by omega)).trans c2))
  have dT := (oth _ (w.heap.size + 1 + 1) w2.heap.size 0 (.int .i64 0) (by omega)).trans ((oth _ (w.heap.size + 1) w2.heap.size 0 (.int .i64 0) (by omega)).trans ((oth _ w.heap.size w2.heap.size 0 (.pointer (some ⟨w2.heap.size, 0, none⟩)) (by omega)).trans hT))
  have dT1 := (oth _ (w.heap.size + 1 + 1) w2.heap.size 1 (.int .i64 0) (by omega)).trans ((oth _ (w.heap.size + 1) w2.heap.size 1 (.int .i64 0) (by omega)).trans ((oth _ w.heap.size w2.heap.size 1 (.pointer (some ⟨w2.heap.size, 0, none⟩)) (by omega)).trans hT1))
  generalize ((((w2.alloc (.cells #[.pointer (some ⟨B, 0, none⟩), .pointer (some ⟨TT, 0, none⟩)] 63)).setCell ⟨w.heap.size, 0, none⟩ (.pointer (some ⟨w2.heap.size, 0, none⟩))).setCell ⟨w.heap.size + 1, 0, none⟩ (.int .i64 0)).setCell ⟨w.heap.size + 1 + 1, 0, none⟩ (.int .i64 0)) = W at *
  refine leaves_cons (f := 43) (args := #[.pointer (some ⟨w.heap.size, 0, none⟩), .pointer (some ⟨w.heap.size + 1, 0, none⟩), .pointer (some ⟨w.heap.size + 1 + 1, 0, none⟩)]) (by simp) (by simp [go_sem]) ?_
  refine (catch_idle w.heap.size (w.heap.size + 1) (w.heap.size + 1 + 1) W).mono ?_
  rintro e u' w3 ⟨rfl, rfl, hf2⟩
  have a0 := (hf2.cell (p := ⟨w.heap.size, 0, none⟩) (World.block_lt_of_cell? W _ d0) (by simp)).trans d0
  have a1 := (hf2.cell (p := ⟨w.heap.size + 1, 0, none⟩) (World.block_lt_of_cell? W _ d1) (by simp)).trans d1
  have a2 := (hf2.cell (p := ⟨w.heap.size + 1 + 1, 0, none⟩) (World.block_lt_of_cell? W _ d2) (by simp)).trans d2
  have aT := (hf2.cell (p := ⟨w2.heap.size, 0, none⟩) (World.block_lt_of_cell? W _ dT) (by simp)).trans dT
  have aT1 := (hf2.cell (p := ⟨w2.heap.size, 1, none⟩) (World.block_lt_of_cell? W _ dT1) (by simp)).trans dT1
  obtain ⟨h0, h00⟩ := H0.o
  have hb := HBs.o
  have hk2 := (HK2.o.1.fr HW (fun k hk => by omega)).fr hf2 (by simp)
  have htt := ((HK2.o.2.fr HW (fun k hk => by omega)).fr hf2 (by simp)).less h00
  have hb2 : Below w.heap.size w w3 := (HF.o.below (Nat.le_refl _) (by simp)).trans ((HW.below (by omega) (fun k hk => by omega)).trans (hf2.below (by have := HW.size; omega) (by simp)))
  simp [Leaves, settle, results, Tryz.results21, go_sem, a0, a1, a2]
  exact (CPost.ok HR.o).2 ⟨⟨_, _, _, _, _, _, rfl, by omega, aT, aT1, by omega, hk2, htt⟩, hb2⟩
end Go.Proofs.YtccikgogjfbpeabGreatDoor
