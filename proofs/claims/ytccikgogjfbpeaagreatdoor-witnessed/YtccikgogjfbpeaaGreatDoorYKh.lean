/- Rules of raw numbers, one above them, one below: what is read and what is decided; plain. The rule above all, and the one below: what is decided; plain. Texts put together are read, whatever blanks and remarks stand between; plain. The plain text of rules of raw numbers, and the text with blanks and remarks put in: what is read; plain. -/
import Derived.Test.YtccikgogjfbpeaaGreatDoorYKg
namespace Go.Proofs.YtccikgogjfbpeaaGreatDoor
theorem dig1 {k : Nat} (h : k < 10) : digL k 1 = [UInt8.ofNat (48 + k)] := by
 rw [digL_step (by omega), show k / 10 = 0 from by omega, show 1 - 1 = 0 from rfl, digL_zero, show k % 10 = k from by omega]
 rfl
def rN (i : Nat) : List UInt8 := 114 :: digL i 1
theorem rN_NmL {i : Nat} (h : i < 8) : NmL (rN i) := by
 unfold rN
 rw [dig1 (by omega)]
 have : i = 0 ∨ i = 1 ∨ i = 2 ∨ i = 3 ∨ i = 4 ∨ i = 5 ∨ i = 6 ∨ i = 7 := by omega
 rcases this with rfl | rfl | rfl | rfl | rfl | rfl | rfl | rfl <;> exact nmL_of rfl (by decide) (by decide) (by decide) (by decide)
theorem rN_ne {i j : Nat} (h : i ≠ j) : ((bs (rN j)).toList == (bs (rN i)).toList) = false := by
 rw [bs_toList, bs_toList]
 cases he : (rN j == rN i) with
 | false => rfl
 | true =>
  have e := eq_of_beq he
  unfold rN at e
  injection e with _ e
  have := congrArg numOf e
  rw [tx_num, tx_num] at this
  omega
theorem act_ok {k : Nat} (h : k < 6) : (∀ w, w ∈ actR k → NmL w) ∧ ((actD k = true ∧ actC k = false ∧ actR k = []) ∨ (actD k = false ∧ actR k ≠ [])) := by
 have nb : NmL [98] := nmL_of rfl (by decide) (by decide) (by decide) (by decide)
 have nc : NmL [99] := nmL_of rfl (by decide) (by decide) (by decide) (by decide)
 have na := nm_a
 have : k = 0 ∨ k = 1 ∨ k = 2 ∨ k = 3 ∨ k = 4 ∨ k = 5 := by omega
 rcases this with rfl | rfl | rfl | rfl | rfl | rfl
 ·exact ⟨fun w hw => (by cases hw), .inl ⟨rfl, rfl, rfl⟩⟩
 all_goals
  refine ⟨fun w hw => ?_, .inr ⟨by decide, by simp [actR]⟩⟩
  simp [actR] at hw
 ·subst hw; exact na
 ·rcases hw with rfl | rfl <;> assumption
 ·rcases hw with rfl | rfl | rfl <;> assumption
 ·rcases hw with rfl | rfl <;> assumption
 ·rcases hw with rfl | rfl | rfl <;> assumption
theorem rlK_lt (c : Int) : rlK c < 6 := pickK_lt _ 6 (by decide)
theorem rlX_ok {i : Nat} (h : i < 8) (c : Int) : (rlX i c).Ok :=
 gd_ok (rN_NmL h) (tx_DgL (by have := pickK_lt (c.tdiv 41) 3 (by decide); omega)) (act_ok (rlK_lt c)).1 (act_ok (rlK_lt c)).2
theorem rlX_fit (i : Nat) (c : Int) : (rlX i c).Fit := gd_fit (by rw [tx_num]; have := pickK_lt (c.tdiv 41) 3 (by decide); omega)
def rlM (i : Nat) (c : Int) : RuleM := (rlX i c).rl (actP (rlK c)) 3
theorem hasName_app (nm : ByteArray) : ∀ (a b : List RuleM), hasName nm (a ++ b) = (hasName nm a || hasName nm b)
 | [], b => by simp [hasName]
 | r :: a, b => by
  simp only [List.cons_append, hasName]
  split
  ·rfl
  ·exact hasName_app nm a b
def rsX (l : List Int) (i : Nat) : Nat → List RuX
 | 0 => []
 | k + 1 => rlX i (rawK l i) :: rsX l (i + 1) k
def rsM (l : List Int) (i : Nat) : Nat → List RuleM
 | 0 => []
 | k + 1 => rlM i (rawK l i) :: rsM l (i + 1) k
def rsE (l : List Int) (line i : Nat) : Nat → List EntE
 | 0 => []
 | k + 1 => .rule ((rlX i (rawK l i)).ent line) :: rsE l (line + 1) (i + 1) k
def rsT (l : List Int) (i : Nat) : Nat → List UInt8
 | 0 => []
 | k + 1 => rlT i (rawK l i) ++ rsT l (i + 1) k
theorem rs_tx (l : List Int) {t : List UInt8} {xs : List EntE} : ∀ (k i line : Nat), i + k ≤ 8 → TxL t (line + k) xs → TxL (rsT l i k ++ t) line (rsE l line i k ++ xs)
 | 0, _, _, _, h => h
 | k + 1, i, line, hk, h => by
  have ih := rs_tx l k (i + 1) (line + 1) (by omega) (by rw [show line + 1 + k = line + (k + 1) from by omega]; exact h)
  have := tx_rule (rlX_ok (i := i) (by omega) (rawK l i)) (tx_nl ih)
  simpa [rsT, rlT, rsE] using this
theorem rs_under (l : List Int) {xs : List EntE} : ∀ (k i line : Nat) (rls : List RuleM), rls.length + k ≤ 8 → (∀ j, i ≤ j → j < i + k → hasName (bs (rN j)) rls = false) → underM rts3 rls (rsE l line i k ++ xs) = underM rts3 (rls ++ rsM l i k) xs
 | 0, _, _, rls, _, _ => by simp [rsE, rsM]
 | k + 1, i, line, rls, hk, hn => by
  have ih := rs_under l (xs := xs) k (i + 1) (line + 1) (rls ++ [rlM i (rawK l i)]) (by simp; omega) (fun j h1 h2 => by
   rw [hasName_app, hn j (by omega) (by omega)]
   show hasName _ [rlM i (rawK l i)] = false
   have e := rN_ne (i := j) (j := i) (by omega)
   simp only [hasName]
   rw [show (rlM i (rawK l i)).name = bs (rN i) from rfl, if_neg (by rw [e]; decide)])
  simp only [rsE, List.cons_append]
  rw [under_rule (r := rlX i (rawK l i)) (ps := actP (rlK (rawK l i))) (by omega) (hn i (by omega) (by omega)) (rlX_fit i _) (pls3 (rlK_lt _))]
  show underM rts3 (rls ++ [rlM i (rawK l i)]) _ = _
  rw [ih, List.append_assoc]
  rfl
theorem rsT_len (l : List Int) : ∀ (k i : Nat), i + k ≤ 100 → (rsT l i k).length ≤ 90 * k
 | 0, _, _ => by simp [rsT]
 | k + 1, i, h => by
  have h1 := rsT_len l k (i + 1) (by omega)
  have h2 := rlT_len (i := i) (by omega) (rawK l i)
  simp only [rsT, List.length_append]
  omega
theorem rsT_flat (l : List Int) : ∀ (k i : Nat), rsT l i k = ((List.range' i k).map fun j => bs (rlT j (rawK l j))).flatMap fun b => b.data.toList
 | 0, _ => rfl
 | k + 1, i => by
  rw [List.range'_succ]
  simp only [rsT, List.map_cons, List.flatMap_cons]
  rw [rsT_flat l k (i + 1)]
theorem whT_rl (l : List Int) (m : Nat) : whT (rlL l m) = routes3 ++ rsT l 0 m := by
 unfold whT rlL
 rw [rsT_flat, List.range_eq_range']
def seX (c : Int) (nm rk : List UInt8) : RuX := gdR c nm rk false false [[97]]
def seM (c : Int) (nm rk : List UInt8) : RuleM := (seX c nm rk).rl [0] 3
def ovN : List UInt8 := [111, 118, 101, 114]
def unN : List UInt8 := [117, 110, 100, 101, 114]
theorem rsM_len (l : List Int) : ∀ (k i : Nat), (rsM l i k).length = k
 | 0, _ => rfl
 | k + 1, i => by simp [rsM, rsM_len l k (i + 1)]
theorem base_read (l : List Int) (m : Nat) (hm : m ≤ 8) : readM (bs (whT (rlL l m))) = .ok (rts3, rsM l 0 m) := by
 have h := tx_routes3 (rs_tx l m 0 2 (by omega) (tx_nil _))
 have e : whT (rlL l m) = routes3 ++ (rsT l 0 m ++ []) := by rw [whT_rl, List.append_nil]
 have hl := rsT_len l m 0 (by omega)
 rw [e, readM_of h (by simp [routes3]; omega), under_routes3, rs_under l m 0 2 [] (by simp; omega) (fun j _ _ => rfl)]
 rfl
end Go.Proofs.YtccikgogjfbpeaaGreatDoor

namespace Go.Proofs.YtccikgogjfbpeaaGreatDoor
def meet1 (r : RuleM) (p : PayM) (c : Nat) : Bool := decide (r.lo ≤ c / 10 ^ (6 - r.digits)) && (decide (c / 10 ^ (6 - r.digits) ≤ r.hi) && meetG r p)
theorem meetC_of {R : List RuleM} {p : PayM} {c i : Nat} {r : RuleM} (h : R[i]? = some r) : meetC R p c i = meet1 r p c := by
 unfold meetC
 rw [h]
 rfl
def IsB (rk : Nat → Nat) (meets : Nat → Bool) (n : Nat) : Option Nat → Prop
 | none => ∀ j, j < n → meets j = false
 | some b => b < n ∧ meets b = true ∧ ∀ j, j < n → meets j = true → j ≠ b → Ahead rk b j
theorem isB_best (rk : Nat → Nat) (meets : Nat → Bool) (n : Nat) : IsB rk meets n (bestR rk meets n) := by
 have h := bestR_ok rk meets n
 cases hb : bestR rk meets n with
 | none => rw [hb] at h; exact h
 | some b => rw [hb] at h; exact h
theorem isB_unique {rk : Nat → Nat} {meets : Nat → Bool} {n : Nat} {a b : Option Nat} (h1 : IsB rk meets n a) (h2 : IsB rk meets n b) : a = b := by
 cases a with
 | none =>
  cases b with
  | none => rfl
  | some y => have := h1 y h2.1; rw [h2.2.1] at this; cases this
 | some x =>
  cases b with
  | none => have := h2 x h1.1; rw [h1.2.1] at this; cases this
  | some y =>
   by_cases e : x = y
   ·rw [e]
   ·have a1 := h1.2.2 y h2.1 h2.2.1 (fun h => e h.symm)
    have a2 := h2.2.2 x h1.1 h1.2.1 e
    unfold Ahead at a1 a2
    omega
def decO (rts : List RouteM) (R : List RuleM) (p : PayM) (dn : Nat → Bool) : Option Nat → Nat × ByteArray × ByteArray
 | none => (2, ByteArray.empty, ByteArray.empty)
 | some i => match R[i]? with
  | none => (2, ByteArray.empty, ByteArray.empty)
  | some r => outM rts r dn p.am
theorem decM_of {rts : List RouteM} {R : List RuleM} {p : PayM} {dn : Nat → Bool} (hp : payOk p = true) {o : Option Nat} (ho : IsB (rankF R) (meetC R p (card6 p.pan)) R.length o) : decM rts R p dn = decO rts R p dn o := by
 have e := isB_unique (isB_best (rankF R) (meetC R p (card6 p.pan)) R.length) ho
 unfold decM
 rw [if_pos hp, e]
 cases o <;> rfl
theorem rankF_of {R : List RuleM} {i : Nat} {r : RuleM} (h : R[i]? = some r) : rankF R i = r.rank := by simp [rankF, h]
theorem out_kind (rts : List RouteM) (r : RuleM) (dn : Nat → Bool) (am : Int) : (outM rts r dn am).1 ≠ 2 := by
 unfold outM
 split
 ·simp
 ·split <;> simp
theorem dec_cases {rts : List RouteM} {R : List RuleM} {p : PayM} {dn : Nat → Bool} (hp : payOk p = true) :
  (IsB (rankF R) (meetC R p (card6 p.pan)) R.length none ∧ decM rts R p dn = (2, ByteArray.empty, ByteArray.empty)) ∨ (∃ b r, R[b]? = some r ∧ IsB (rankF R) (meetC R p (card6 p.pan)) R.length (some b) ∧ decM rts R p dn = outM rts r dn p.am) := by
 have h := isB_best (rankF R) (meetC R p (card6 p.pan)) R.length
 cases hb : bestR (rankF R) (meetC R p (card6 p.pan)) R.length with
 | none => rw [hb] at h; exact .inl ⟨h, decM_of hp h⟩
 | some b =>
  rw [hb] at h
  have hr := List.getElem?_eq_getElem h.1
  refine .inr ⟨b, _, hr, h, ?_⟩
  rw [decM_of hp h]
  simp only [decO, hr]
theorem dec_over {rts : List RouteM} {R : List RuleM} {v : RuleM} {p : PayM} {dn : Nat → Bool} (hp : payOk p = true) (hrk : ∀ r, r ∈ R → r.rank < v.rank) : decM rts (v :: R) p dn = if meet1 v p (card6 p.pan) = true then outM rts v dn p.am else decM rts R p dn := by
 have m0 : meetC (v :: R) p (card6 p.pan) 0 = meet1 v p (card6 p.pan) := meetC_of rfl
 have ms : ∀ j, meetC (v :: R) p (card6 p.pan) (j + 1) = meetC R p (card6 p.pan) j := fun j => by unfold meetC; rw [List.getElem?_cons_succ]
 have r0 : rankF (v :: R) 0 = v.rank := rankF_of rfl
 have rs : ∀ j, rankF (v :: R) (j + 1) = rankF R j := fun j => by unfold rankF; rw [List.getElem?_cons_succ]
 have lt : ∀ j, j < R.length → rankF R j < v.rank := fun j hj => by rw [rankF_of (List.getElem?_eq_getElem hj)]; exact hrk _ (List.getElem_mem _)
 by_cases hm : meet1 v p (card6 p.pan) = true
 ·rw [if_pos hm, decM_of hp (o := some 0)]
  ·rfl
  ·refine ⟨by simp, by rw [m0]; exact hm, fun j hj _ hne => ?_⟩
   obtain ⟨j', rfl⟩ : ∃ j', j = j' + 1 := ⟨j - 1, by omega⟩
   left
   rw [r0, rs]
   exact lt j' (by simpa using hj)
 ·rw [if_neg hm]
  rcases dec_cases (rts := rts) (R := R) (dn := dn) hp with ⟨h1, h2⟩ | ⟨b, r, hr, h1, h2⟩
  ·rw [h2, decM_of hp (o := none)]
   ·rfl
   ·intro j hj
    cases j with
    | zero => rw [m0]; simpa using hm
    | succ j => rw [ms]; exact h1 j (by simpa using hj)
  ·rw [h2, decM_of hp (o := some (b + 1))]
   ·simp only [decO, List.getElem?_cons_succ, hr]
   ·refine ⟨by have := h1.1; simp; omega, by rw [ms]; exact h1.2.1, fun j hj hmj hne => ?_⟩
    cases j with
    | zero => rw [m0] at hmj; exact absurd hmj hm
    | succ j =>
     rw [ms] at hmj
     have := h1.2.2 j (by simpa using hj) hmj (by omega)
     unfold Ahead at this ⊢
     rw [rs, rs]
     omega
theorem dec_under {rts : List RouteM} {R : List RuleM} {u : RuleM} {p : PayM} {dn : Nat → Bool} (hp : payOk p = true) (hrk : u.rank = 0) : ((decM rts R p dn).1 = 2 ∧ meet1 u p (card6 p.pan) = true → decM rts (R ++ [u]) p dn = outM rts u dn p.am) ∧ (¬ ((decM rts R p dn).1 = 2 ∧ meet1 u p (card6 p.pan) = true) → decM rts (R ++ [u]) p dn = decM rts R p dn) := by
 have ml : meetC (R ++ [u]) p (card6 p.pan) R.length = meet1 u p (card6 p.pan) := meetC_of (by simp)
 have ms : ∀ j, j < R.length → meetC (R ++ [u]) p (card6 p.pan) j = meetC R p (card6 p.pan) j := fun j hj => by unfold meetC; rw [List.getElem?_append_left hj]
 have rl : rankF (R ++ [u]) R.length = 0 := by rw [rankF_of (r := u) (by simp), hrk]
 have rs : ∀ j, j < R.length → rankF (R ++ [u]) j = rankF R j := fun j hj => by unfold rankF; rw [List.getElem?_append_left hj]
 have hlen : (R ++ [u]).length = R.length + 1 := by simp
 rcases dec_cases (rts := rts) (R := R) (dn := dn) hp with ⟨h1, h2⟩ | ⟨b, r, hr, h1, h2⟩
 ·refine ⟨fun h => ?_, fun h => ?_⟩
  ·rw [decM_of hp (o := some R.length)]
   ·simp [decO]
   ·refine ⟨by simp, by rw [ml]; exact h.2, fun j hj hmj hne => ?_⟩
    have hj' : j < R.length := by rw [hlen] at hj; omega
    rw [ms j hj', h1 j hj'] at hmj
    cases hmj
  ·have hm : meet1 u p (card6 p.pan) = false := by
    cases hu : meet1 u p (card6 p.pan) with
    | false => rfl
    | true => exact absurd ⟨by rw [h2], hu⟩ h
   rw [h2, decM_of hp (o := none)]
   ·rfl
   ·intro j hj
    by_cases e : j < R.length
    ·rw [ms j e]; exact h1 j e
    ·have : j = R.length := by rw [hlen] at hj; omega
     rw [this, ml, hm]
 ·have hk : ¬ (decM rts R p dn).1 = 2 := by rw [h2]; exact out_kind _ _ _ _
  refine ⟨fun h => absurd h.1 hk, fun _ => ?_⟩
  have hb := h1.1
  rw [h2, decM_of hp (o := some b)]
  ·simp only [decO, List.getElem?_append_left hb, hr]
  ·refine ⟨by rw [hlen]; omega, by rw [ms b hb]; exact h1.2.1, fun j hj hmj hne => ?_⟩
   by_cases e : j < R.length
   ·rw [ms j e] at hmj
    have := h1.2.2 j e hmj hne
    unfold Ahead at this ⊢
    rw [rs b hb, rs j e]
    exact this
   ·have : j = R.length := by rw [hlen] at hj; omega
    subst this
    unfold Ahead
    rw [rl]
    omega
theorem rsM_rank (l : List Int) : ∀ (k i : Nat) (r : RuleM), r ∈ rsM l i k → r.rank < 3
 | 0, _, r, h => by cases h
 | k + 1, i, r, h => by
  rcases List.mem_cons.1 h with rfl | h
  ·show numOf (digL _ 1) < 3
   rw [tx_num]
   exact pickK_lt _ 3 (by decide)
  ·exact rsM_rank l k (i + 1) r h
theorem se_out (c : Int) (nm rk : List UInt8) (am : Int) : outM rts3 (seM c nm rk) (dnF rts3 []) am = (0, bs nm, bs [97]) := rfl
theorem se_meet (c : Int) (nm rk nm' rk' : List UInt8) (p : PayM) (d : Nat) : meet1 (seM c nm rk) p d = meet1 (seM c nm' rk') p d := rfl
structure Four (M : Bool) (ob oo om ou : Nat × ByteArray × ByteArray) : Prop where
 one : om = if M then (0, bs [120], bs [97]) else (2, ByteArray.empty, ByteArray.empty)
 over : oo = if M then (0, bs ovN, bs [97]) else ob
 under : ou = if ob.1 = 2 ∧ M = true then (0, bs unN, bs [97]) else ob
theorem four {l : List Int} {m : Nat} {c : Int} {p : PayM} (hp : payOk p = true) :
  Four (meet1 (seM c [120] [49]) p (card6 p.pan)) (decM rts3 (rsM l 0 m) p (dnF rts3 [])) (decM rts3 (seM c ovN [49, 48, 48, 48] :: rsM l 0 m) p (dnF rts3 [])) (decM rts3 [(alX c).rl [0] 3] p (dnF rts3 [])) (decM rts3 (rsM l 0 m ++ [seM c unN [48]]) p (dnF rts3 [])) := by
 refine ⟨?_, ?_, ?_⟩
 ·show decM rts3 [seM c [120] [49]] p _ = _
  rw [dec_one hp, meetC_of (r := seM c [120] [49]) rfl, se_out]
 ·have h1 : numOf [49, 48, 48, 48] = 1000 := by decide
  have h2 : ∀ r, r ∈ rsM l 0 m → r.rank < (seM c ovN [49, 48, 48, 48]).rank := fun r hr => by
   have h3 := rsM_rank l m 0 r hr
   show r.rank < numOf [49, 48, 48, 48]
   omega
  rw [dec_over hp h2, se_out]
  rw [se_meet c ovN [49, 48, 48, 48] [120] [49]]
 ·have h := dec_under (rts := rts3) (R := rsM l 0 m) (u := seM c unN [48]) (dn := dnF rts3 []) hp rfl
  rw [se_meet c unN [48] [120] [49], se_out] at h
  by_cases e : (decM rts3 (rsM l 0 m) p (dnF rts3 [])).1 = 2 ∧ meet1 (seM c [120] [49]) p (card6 p.pan) = true
  ·rw [if_pos e]; exact h.1 e
  ·rw [if_neg e]; exact h.2 e
end Go.Proofs.YtccikgogjfbpeaaGreatDoor

namespace Go.Proofs.YtccikgogjfbpeaaGreatDoor
section
variable {L : List UInt8 → Nat → List Tk → Prop}
end
end Go.Proofs.YtccikgogjfbpeaaGreatDoor

namespace Go.Proofs.YtccikgogjfbpeaaGreatDoor
theorem dg_of {w : List UInt8} (h9 : w.length ≤ 9) (h : ∀ x, x ∈ w → 48 ≤ x.toNat ∧ x.toNat ≤ 57) : Dg (bs w) := by
 refine ⟨h9, fun k hk => ?_⟩
 have hk' : k < w.length := hk
 have := h _ (List.getElem_mem hk')
 unfold bAt
 rw [bs_data, List.getD_eq_getElem?_getD, List.getElem?_eq_getElem hk']
 simp
 omega
theorem padL_eq {n w : Nat} (h : n < 10 ^ w) (h1 : 1 ≤ w) (h9 : w ≤ 9) : padL n w = digL n w := by
 have hl := digL_len w n h
 have e := (pad_val (dT (digL n w) 0) (dg_of (by omega) (digL_dg _ n w rfl)) (by show 1 ≤ (digL n w).length; omega)).1
 rw [valOf_dT, digL_num _ n w rfl] at e
 unfold padL decN
 rw [show (dT (digL n w) 0).text.size = w from hl] at e
 exact e
end Go.Proofs.YtccikgogjfbpeaaGreatDoor
