/- Dead rules, plainly: without them all is decided the same, and none is dead. The keep Dead, plainly: the rules that it puts together, and what is left of them. -/
import Derived.Test.YtccikgogjfbpeaaGreatUMk
import Derived.Test.YtccikgogjfbpeaaGreatUKh
import Derived.Test.YtccikgogjfbpeaaGreatUKx
namespace Go.Proofs.YtccikgogjfbpeaaGreat

/-- Those of a list whose places are good, among the first k. -/
def selL {α : Type} (b : Nat → Bool) (xs : List α) : Nat → List α
 | 0 => []
 | k + 1 => selL b xs k ++ (match xs[k]? with | some x => if b k then [x] else [] | none => [])
theorem selL_map {α β : Type} (b : Nat → Bool) (f : α → β) (xs : List α) : ∀ k, (selL b xs k).map f = selL b (xs.map f) k
 | 0 => rfl
 | k + 1 => by
  unfold selL
  rw [List.map_append, selL_map b f xs k, List.getElem?_map]
  congr 1
  cases xs[k]? with
  | none => rfl
  | some x =>
   dsimp only [Option.map_some]
   split <;> rfl
theorem selL_step {α : Type} {b : Nat → Bool} {xs : List α} {k : Nat} {x : α} (h : xs[k]? = some x) : selL b xs (k + 1) = selL b xs k ++ (if b k then [x] else []) := by
 conv => lhs; unfold selL; rw [h]
theorem selL_len {α : Type} (b : Nat → Bool) (xs : List α) : ∀ k, (selL b xs k).length ≤ k
 | 0 => Nat.le_refl _
 | k + 1 => by
  have := selL_len b xs k
  unfold selL
  rw [List.length_append]
  split
  ·split <;> simp <;> omega
  ·simp; omega
theorem sel_idx {α : Type} (b : Nat → Bool) (xs : List α) : ∀ k, ∃ ι : Nat → Nat, (∀ j, j < (selL b xs k).length → ι j < k ∧ b (ι j) = true ∧ (selL b xs k)[j]? = xs[ι j]?) ∧ (∀ i j, i < j → j < (selL b xs k).length → ι i < ι j) ∧ (∀ j, j < k → j < xs.length → b j = true → ∃ j', j' < (selL b xs k).length ∧ ι j' = j)
 | 0 => ⟨id, fun j h => by simp [selL] at h, fun i j _ h => by simp [selL] at h, fun j h => by omega⟩
 | k + 1 => by
  obtain ⟨ι, h1, h2, h3⟩ := sel_idx b xs k
  cases hx : xs[k]? with
  | none =>
   have e : selL b xs (k + 1) = selL b xs k := by
    show selL b xs k ++ _ = _
    rw [hx]
    simp
   rw [e]
   refine ⟨ι, fun j hj => ?_, h2, fun j hj hl hb => ?_⟩
   ·obtain ⟨a1, a2⟩ := h1 j hj
    exact ⟨by omega, a2⟩
   ·have : k ≠ j := fun e => by subst e; rw [List.getElem?_eq_none_iff] at hx; omega
    exact h3 j (by omega) hl hb
  | some x =>
   rw [selL_step hx]
   cases hb : b k with
   | false =>
    simp only [Bool.false_eq_true, if_false, List.append_nil]
    refine ⟨ι, fun j hj => ?_, h2, fun j hj hl hbj => ?_⟩
    ·obtain ⟨a1, a2⟩ := h1 j hj
     exact ⟨by omega, a2⟩
    ·have : k ≠ j := fun e => by subst e; rw [hb] at hbj; cases hbj
     exact h3 j (by omega) hl hbj
   | true =>
    simp only [if_true]
    have hl : (selL b xs k ++ [x]).length = (selL b xs k).length + 1 := by simp
    refine ⟨fun j => if j < (selL b xs k).length then ι j else k, fun j hj => ?_, fun i j hij hj => ?_, fun j hj hlt hbj => ?_⟩
    ·by_cases h : j < (selL b xs k).length
     ·obtain ⟨a1, a2, a3⟩ := h1 j h
      simp only [if_pos h]
      exact ⟨by omega, a2, by rw [List.getElem?_append_left h]; exact a3⟩
     ·simp only [if_neg h]
      have : j = (selL b xs k).length := by omega
      exact ⟨by omega, hb, by rw [this, List.getElem?_append_right (Nat.le_refl _), Nat.sub_self, hx]; rfl⟩
    ·by_cases h : j < (selL b xs k).length
     ·simp only [if_pos h, if_pos (show i < (selL b xs k).length by omega)]
      exact h2 i j hij h
     ·simp only [if_neg h, if_pos (show i < (selL b xs k).length by omega)]
      exact (h1 i (by omega)).1
    ·by_cases h : j < k
     ·obtain ⟨j', a1, a2⟩ := h3 j h hlt hbj
      exact ⟨j', by omega, by simp only [if_pos a1]; exact a2⟩
     ·obtain rfl : j = k := by omega
      exact ⟨(selL b xs j).length, by omega, by simp⟩
/-- A number's digits ahead lie in a range. -/
theorem card_in (d lo hi n : Nat) : inSp (cardsM d lo hi) n = (decide (lo ≤ n / 10 ^ (6 - d)) && decide (n / 10 ^ (6 - d) ≤ hi)) := by
 have hq : 0 < 10 ^ (6 - d) := Nat.pow_pos (by decide)
 unfold inSp cardsM
 dsimp only
 have h1 : (lo * 10 ^ (6 - d) ≤ n) ↔ (lo ≤ n / 10 ^ (6 - d)) := (Nat.le_div_iff_mul_le hq).symm
 have h2 : (n ≤ (hi + 1) * 10 ^ (6 - d) - 1) ↔ (n / 10 ^ (6 - d) ≤ hi) := by
  have e : n / 10 ^ (6 - d) < hi + 1 ↔ n < (hi + 1) * 10 ^ (6 - d) := Nat.div_lt_iff_lt_mul hq
  have : 0 < (hi + 1) * 10 ^ (6 - d) := Nat.mul_pos (by omega) hq
  omega
 congr 1
 ·exact decide_eq_decide.2 h1
 ·exact decide_eq_decide.2 h2
theorem list_in {l : List Nat} {m : Nat} {v : Int} (h0 : 0 ≤ v) (hm : v ≤ m) : ((listM2 l m).any fun s => inSp s v.toNat) = (decide (l = []) || inL l v) := by
 unfold listM2 inL
 split
 ·rename_i e
  subst e
  simp [inSp]
  omega
 ·rename_i e
  have : decide (l = []) = false := by simp [e]
  rw [this, Bool.false_or, List.any_map]
  congr 1
  funext x
  unfold inSp
  dsimp only [Function.comp]
  rw [Bool.eq_iff_iff]
  simp
  omega
theorem meet_all (r : RuleM) (p : PayM) (c : Nat) (hp : payOk p = true) : allB (arR r) 4 ⟨c, p.mcc.toNat, p.am.toNat, p.cur.toNat⟩ = meet1 r p c := by
 unfold payOk at hp
 simp only [Bool.and_eq_true, decide_eq_true_eq] at hp
 obtain ⟨⟨_, h1, h2⟩, ⟨h3, h4⟩, h5, h6⟩ := hp
 have a0 : hasM (arR r) 0 c = (decide (r.lo ≤ c / 10 ^ (6 - r.digits)) && decide (c / 10 ^ (6 - r.digits) ≤ r.hi)) := by
  show ([cardsM r.digits r.lo r.hi].any fun s => inSp s c) = _
  rw [List.any_cons, card_in]
  simp
 have a1 : hasM (arR r) 1 p.mcc.toNat = (decide (r.mcc = []) || inL r.mcc p.mcc) := list_in h1 h2
 have a3 : hasM (arR r) 3 p.cur.toNat = (decide (r.cur = []) || inL r.cur p.cur) := list_in h5 h6
 have a2 : hasM (arR r) 2 p.am.toNat = amOk r p := by
  show ([if r.am.isSome = true then ((r.am.getD (0, 0)).1, (r.am.getD (0, 0)).2) else (0, 1000000000)].any fun s => inSp s p.am.toNat) = _
  unfold amOk inSp
  cases r.am with
  | none => simp; omega
  | some ab =>
   simp only [Option.isSome_some, if_true, Option.getD_some, List.any_cons, List.any_nil, Bool.or_false]
   congr 1 <;> exact decide_eq_decide.2 (by omega)
 show (hasM (arR r) 0 c && (hasM (arR r) 1 p.mcc.toNat && (hasM (arR r) 2 p.am.toNat && (hasM (arR r) 3 p.cur.toNat && true)))) = _
 rw [a0, a1, a2, a3]
 unfold meet1 meetG
 simp only [Bool.and_true, Bool.and_assoc]
theorem rlv_iff {rts : List RouteM} {R : List RuleM} (hb : BookOk rts R) (ha : ∀ r, r ∈ R → ArOk r) {j : Nat} {r : RuleM} (hj : R[j]? = some r) : livB R j = true ↔ ∃ p, allB (arR r) 4 p = true ∧ ∀ i q, R[i]? = some q → (r.rank < q.rank ∨ (q.rank = r.rank ∧ i < j)) → allB (arR q) 4 p = false := by
 have hr := List.mem_of_getElem? hj
 unfold livB
 rw [hj]
 dsimp only
 rw [decA_iff (fun i s hs => (arR_at (hb.rl r hr) (ha r hr) i s hs).1)]
 constructor
 ·rintro ⟨p, h1, h2⟩
  refine ⟨p, h1, fun i q hq hh => h2 _ ((ahdM_mem R j _ R.length).2 ⟨i, q, (List.getElem?_eq_some_iff.1 hq).1, hq, ?_, rfl⟩)⟩
  unfold ahdB
  rw [hq, hj]
  simpa using hh
 ·rintro ⟨p, h1, h2⟩
  refine ⟨p, h1, fun B hB => ?_⟩
  obtain ⟨i, q, _, hq, hh, rfl⟩ := (ahdM_mem R j _ R.length).1 hB
  refine h2 i q hq ?_
  unfold ahdB at hh
  rw [hq, hj] at hh
  simpa using hh
/-- What is left. -/
def lefR (R : List RuleM) : List RuleM := selL (livB R) R R.length
theorem left_dead {rts : List RouteM} {R : List RuleM} (hb : BookOk rts R) (ha : ∀ r, r ∈ R → ArOk r) (hb' : BookOk rts (lefR R)) (ha' : ∀ r, r ∈ lefR R → ArOk r) : dedN (lefR R) = [] := by
 obtain ⟨ι, h1, h2, _⟩ := sel_idx (livB R) R R.length
 have live : ∀ j, j < (lefR R).length → livB (lefR R) j = true := fun j hj => by
  obtain ⟨a1, a2, a3⟩ := h1 j hj
  have hr := List.getElem?_eq_getElem (show ι j < R.length from a1)
  obtain ⟨p, b1, b2⟩ := (rlv_iff hb ha hr).1 a2
  refine (rlv_iff hb' ha' (show (lefR R)[j]? = _ from a3.trans hr)).2 ⟨p, b1, fun i q hq hh => ?_⟩
  have hi := (List.getElem?_eq_some_iff.1 hq).1
  obtain ⟨c1, c2, c3⟩ := h1 i hi
  have hq' : R[ι i]? = some q := by rw [← c3]; exact hq
  refine b2 (ι i) q hq' (hh.imp id (fun h => ⟨h.1, h2 i j h.2 hj⟩))
 have : ∀ k, k ≤ (lefR R).length → dedL (lefR R) k = [] := fun k => by
  induction k with
  | zero => intro _; rfl
  | succ k ih =>
   intro hk
   unfold dedL
   rw [ih (by omega), List.getElem?_eq_getElem (show k < (lefR R).length by omega), live k (by omega)]
   rfl
 exact this _ (Nat.le_refl _)
theorem left_dec {rts : List RouteM} {R : List RuleM} (hb : BookOk rts R) (ha : ∀ r, r ∈ R → ArOk r) (p : PayM) (dn : Nat → Bool) (hp : payOk p = true) : decM rts (lefR R) p dn = decM rts R p dn := by
 obtain ⟨ι, h1, h2, h3⟩ := sel_idx (livB R) R R.length
 have hm : ∀ j, j < (lefR R).length → meetC (lefR R) p (card6 p.pan) j = meetC R p (card6 p.pan) (ι j) ∧ rankF (lefR R) j = rankF R (ι j) := fun j hj => by
  obtain ⟨_, _, a3⟩ := h1 j hj
  have a3 : (lefR R)[j]? = R[ι j]? := a3
  unfold meetC rankF
  rw [a3]
  exact ⟨rfl, rfl⟩
 rcases dec_cases (rts := rts) (R := R) (dn := dn) hp with ⟨g1, g2⟩ | ⟨b, r, hr, g1, g2⟩
 ·rw [g2, decM_of hp (o := none)]
  ·rfl
  ·intro j hj
   rw [(hm j hj).1]
   exact g1 (ι j) (h1 j hj).1
 ·have lv : livB R b = true := by
   refine (rlv_iff hb ha hr).2 ⟨⟨card6 p.pan, p.mcc.toNat, p.am.toNat, p.cur.toNat⟩, ?_, fun i q hq hh => ?_⟩
   ·rw [meet_all r p _ hp, ← meetC_of hr]
    exact g1.2.1
   ·rw [meet_all q p _ hp, ← meetC_of hq]
    cases hx : meetC R p (card6 p.pan) i with
    | false => rfl
    | true =>
     have hne : i ≠ b := by
      rintro rfl
      rw [hr] at hq
      cases hq
      omega
     have := g1.2.2 i (List.getElem?_eq_some_iff.1 hq).1 hx hne
     unfold Ahead at this
     rw [rankF_of hr, rankF_of hq] at this
     omega
  obtain ⟨b', e1, e2⟩ := h3 b g1.1 g1.1 lv
  have hl : (lefR R)[b']? = some r := by
   have := (h1 b' e1).2.2
   rw [e2, hr] at this
   exact this
  have hB : IsB (rankF (lefR R)) (meetC (lefR R) p (card6 p.pan)) (lefR R).length (some b') := by
   refine ⟨e1, by rw [(hm b' e1).1, e2]; exact g1.2.1, fun j hj hmj hne => ?_⟩
   rw [(hm j hj).1] at hmj
   have hlt : ∀ i j, i < (lefR R).length → j < (lefR R).length → ι i < ι j → i < j := fun i j hi hj h => by
    rcases Nat.lt_trichotomy i j with h' | h' | h'
    ·exact h'
    ·subst h'; omega
    ·have := h2 j i h' hi; omega
   have hne' : ι j ≠ b := fun e => by
    rcases Nat.lt_trichotomy j b' with h' | h' | h'
    ·have := h2 j b' h' e1; omega
    ·exact hne h'
    ·have := h2 b' j h' hj; omega
   have := g1.2.2 (ι j) (h1 j hj).1 hmj hne'
   unfold Ahead at this ⊢
   rw [(hm j hj).2, (hm b' e1).2, e2]
   refine this.imp id (fun h => ⟨h.1, hlt b' j e1 hj (by omega)⟩)
  rw [g2, decM_of hp hB]
  simp only [decO, hl]
end Go.Proofs.YtccikgogjfbpeaaGreat

namespace Go.Proofs.YtccikgogjfbpeaaGreat

/-- A line: a rule's words, and the places of its routes. -/
structure LnX where
 x : RuX
 ps : List Nat
def LnX.M (l : LnX) : RuleM := l.x.rl l.ps 3
def LnX.T (l : LnX) : List UInt8 := l.x.text ++ [10]
def LnX.B (l : LnX) : ByteArray := bs l.T
structure LnX.Ok (l : LnX) : Prop where
 ok : l.x.Ok
 fit : l.x.Fit
 pl : ∀ line, plsFrom rts3 0 (l.x.rts.map fun w => nT w line) = .ok l.ps
 sz : l.T.length ≤ 100
theorem hasName_lines {nm : List UInt8} : ∀ (ds : List LnX), nm ∉ ds.map (fun l => l.x.nm) → hasName (bs nm) (ds.map LnX.M) = false
 | [], _ => rfl
 | d :: r, h => by
  simp only [List.map_cons, List.mem_cons, not_or] at h
  simp only [List.map_cons, hasName]
  rw [if_neg, hasName_lines r h.2]
  show ¬ ((bs d.x.nm).toList == (bs nm).toList) = true
  rw [bs_toList, bs_toList]
  intro e
  exact h.1 (eq_of_beq e).symm
theorem un_lines {t : List UInt8} {res : Except (Nat × Nat) (List RouteM × List RuleM)} : ∀ (ls ds : List LnX), (∀ l, l ∈ ls → l.Ok) → ds.length + ls.length ≤ 8 → ((ds ++ ls).map fun l => l.x.nm).Nodup → UnG LexL t rts3 ((ds ++ ls).map LnX.M) res → UnG LexL (ls.flatMap LnX.T ++ t) rts3 (ds.map LnX.M) res
 | [], ds, _, _, _, h => by simpa using h
 | l :: r, ds, ho, hl, hn, h => by
  have ih := un_lines (t := t) (res := res) r (ds ++ [l]) (fun x hx => ho x (by simp [hx])) (by simp at hl ⊢; omega) (by simpa using hn) (by simpa using h)
  have h0 := ho l (by simp)
  have hnm : l.x.nm ∉ ds.map (fun l => l.x.nm) := by
   rw [List.map_append, List.nodup_append] at hn
   intro hm
   exact hn.2.2 _ hm _ (by simp) rfl
  have := un_rule lxL_plain h0.ok (by simp at hl ⊢; omega) (hasName_lines ds hnm) h0.fit h0.pl (l := 10 :: (r.flatMap LnX.T ++ t)) (res := res) (by
   refine un_nl lxL_plain ?_
   rw [List.map_append] at ih
   exact ih)
  rw [List.flatMap_cons]
  show UnG LexL ((l.x.text ++ [10]) ++ r.flatMap LnX.T ++ t) rts3 (ds.map LnX.M) res
  simpa using this
theorem read_lines (ls : List LnX) (ho : ∀ l, l ∈ ls → l.Ok) (hl : ls.length ≤ 8) (hn : (ls.map fun l => l.x.nm).Nodup) : readM (bs (whT (ls.map LnX.B))) = .ok (rts3, ls.map LnX.M) := by
 have h := un_three lxL_plain 32 (.inl rfl) (t := ls.flatMap LnX.T ++ []) (un_lines ls [] ho (by simpa using hl) (by simpa using hn) (un_nil lxL_plain rts3 (([] ++ ls).map LnX.M)))
 have e : whT (ls.map LnX.B) = rtX [97] [49, 48] [50] ++ (32 :: (rtX [98] [53, 48, 48] [48] ++ (32 :: (rtX [99] [48] [57] ++ (10 :: (ls.flatMap LnX.T ++ [])))))) := by
  unfold whT
  rw [List.flatMap_map, List.append_nil, show (fun a => (LnX.B a).data.toList) = LnX.T from by funext a; unfold LnX.B; rw [bs_data]]
  simp [routes3, rtX]
 have hs := whT_len (ls.map LnX.B) (fun b hb => by
  obtain ⟨l, h1, rfl⟩ := List.mem_map.1 hb
  unfold LnX.B
  rw [bs_size]
  exact (ho l h1).sz)
 rw [List.length_map] at hs
 refine read_un ?_ (by omega)
 rw [e]
 exact h
theorem selL_sub {α : Type} (b : Nat → Bool) (xs : List α) : ∀ k, (selL b xs k).Sublist (xs.take k)
 | 0 => by simp [selL]
 | k + 1 => by
  have ih := selL_sub b xs k
  rw [List.take_add_one]
  unfold selL
  refine ih.append ?_
  cases xs[k]? with
  | none => exact List.Sublist.refl _
  | some x =>
   dsimp only
   split
   ·exact List.Sublist.refl _
   ·exact List.nil_sublist _
/-- The lines of Dead. -/
def agN : List UInt8 := [97, 103, 97, 105, 110]
def agX (c : Int) : RuX := gdR c agN [49, 48, 48, 48] false false [[98]]
def ovL (c : Int) : LnX := ⟨seX c ovN [49, 48, 48, 48], [0]⟩
def agL (c : Int) : LnX := ⟨agX c, [1]⟩
def rlN (l : List Int) (i : Nat) : LnX := ⟨rlX i (rawK l i), actP (rlK (rawK l i))⟩
def deLs (l : List Int) (m : Nat) (c : Int) : List LnX := ovL c :: ((List.range m).map (rlN l) ++ [agL c])
theorem ag_text (c : Int) : (agX c).text = [114, 117, 108, 101, 32] ++ (agN ++ (32 :: ([49, 48, 48, 48] ++ (58 :: 32 :: (g3 c ++ [32, 45, 62, 32, 98, 59]))))) := by
 have g : gX (agX c) = g3 c := by rw [g3_eq]; rfl
 unfold RuX.text
 rw [g]
 simp [agX, gdR, acX, commaX]
theorem nm_b : NmL [98] := nmL_of rfl (by decide) (by decide) (by decide) (by decide)
theorem pl_b (line : Nat) : plsFrom rts3 0 ([[98]].map fun w => nT w line) = .ok [1] := by
 have pb : placeFrom (bs [98]) 0 rts3 = 1 := by unfold rts3; rw [place_ne (by decide), place_eq (by decide)]; rfl
 simp [plsFrom, nT, pb]
theorem ov_ok (c : Int) : (ovL c).Ok :=
 ⟨seX_ok (nmL_of rfl (by decide) (by decide) (by decide) (by decide)) (dgL_of (by decide) (by decide) (by decide)), gd_fit (show numOf [49, 48, 48, 48] ≤ 1000 by decide), fun _ => pls3 (k := 1) (by decide), by
  have h3 := g3_len c
  show ((seX c ovN [49, 48, 48, 48]).text ++ [10]).length ≤ 100
  rw [se_text]
  simp [ovN]
  omega⟩
theorem ag_ok (c : Int) : (agL c).Ok :=
 ⟨gd_ok (nmL_of rfl (by decide) (by decide) (by decide) (by decide)) (dgL_of (by decide) (by decide) (by decide)) (fun w hw => by simp at hw; subst hw; exact nm_b) (.inr ⟨rfl, by simp⟩), gd_fit (show numOf [49, 48, 48, 48] ≤ 1000 by decide), pl_b, by
  have h3 := g3_len c
  show ((agX c).text ++ [10]).length ≤ 100
  rw [ag_text]
  simp [agN]
  omega⟩
theorem rlN_ok (l : List Int) {i : Nat} (h : i < 8) : (rlN l i).Ok :=
 ⟨rlX_ok h _, rlX_fit i _, fun _ => pls3 (rlK_lt _), Nat.le_trans (rlT_len (by omega) _) (by decide)⟩
theorem deLs_len (l : List Int) (m : Nat) (c : Int) : (deLs l m c).length = m + 2 := by simp [deLs]
theorem deLs_ok (l : List Int) {m : Nat} (hm : m ≤ 6) (c : Int) : ∀ x, x ∈ deLs l m c → x.Ok := by
 intro x hx
 simp only [deLs, List.mem_cons, List.mem_append, List.mem_map, List.mem_range, List.not_mem_nil, or_false] at hx
 rcases hx with rfl | ⟨i, hi, rfl⟩ | rfl
 ·exact ov_ok c
 ·exact rlN_ok l (by omega)
 ·exact ag_ok c
theorem deLs_nd (l : List Int) (m : Nat) (c : Int) : ((deLs l m c).map fun x => x.x.nm).Nodup := by
 have e : (deLs l m c).map (fun x => x.x.nm) = ovN :: ((List.range m).map rN ++ [agN]) := by
  simp only [deLs, List.map_cons, List.map_append, List.map_map, List.map_nil]
  rfl
 have hr : ∀ i (nm : List UInt8), nm.head? ≠ some 114 → rN i ≠ nm := fun i nm h e => by rw [← e] at h; exact h rfl
 rw [e, List.nodup_cons, List.nodup_append]
 refine ⟨?_, ?_, by simp, ?_⟩
 ·simp only [List.mem_append, List.mem_map, List.mem_range, List.mem_singleton, not_or, not_exists, not_and]
  exact ⟨fun i _ h => hr i ovN (by decide) h, by decide⟩
 ·refine List.pairwise_map.2 (List.nodup_range.imp ?_)
  intro i j hne h
  apply hne
  unfold rN at h
  injection h with _ h
  have := congrArg numOf h
  rw [tx_num, tx_num] at this
  exact this
 ·intro a ha b hb
  obtain ⟨i, _, rfl⟩ := List.mem_map.1 ha
  rw [List.mem_singleton.1 hb]
  exact hr i agN (by decide)
/-- The rules. -/
def deR (l : List Int) (m : Nat) (c : Int) : List RuleM := (deLs l m c).map LnX.M
theorem deR_read (l : List Int) {m : Nat} (hm : m ≤ 6) (c : Int) : readM (bs (whT ((deLs l m c).map LnX.B))) = .ok (rts3, deR l m c) :=
 read_lines _ (deLs_ok l hm c) (by rw [deLs_len]; omega) (deLs_nd l m c)
theorem deR_len (l : List Int) (m : Nat) (c : Int) : (deR l m c).length = m + 2 := by rw [deR, List.length_map, deLs_len]
def lefLs (l : List Int) (m : Nat) (c : Int) : List LnX := selL (livB (deR l m c)) (deLs l m c) (m + 2)
theorem left_read (l : List Int) {m : Nat} (hm : m ≤ 6) (c : Int) : readM (bs (whT ((lefLs l m c).map LnX.B))) = .ok (rts3, lefR (deR l m c)) := by
 have hsub : (lefLs l m c).Sublist (deLs l m c) := (selL_sub _ _ _).trans (List.take_sublist _ _)
 rw [read_lines (lefLs l m c) (fun x hx => deLs_ok l hm c x (hsub.subset hx)) (by have := hsub.length_le; rw [deLs_len] at this; omega) ((hsub.map _).nodup (deLs_nd l m c))]
 congr 2
 unfold lefLs lefR
 rw [selL_map, deR_len]
 rfl
theorem area_some {A : ArM} (h : ∀ i, A.at i ≠ []) (h2 : ∀ i s, s ∈ A.at i → s.1 ≤ s.2) : ∃ p, allB A 4 p = true := by
 have one : ∀ i, ∃ n, hasM A i n = true := fun i => by
  obtain ⟨s, r, e⟩ := List.exists_cons_of_ne_nil (h i)
  have hs := h2 i s (by rw [e]; simp)
  refine ⟨s.1, ?_⟩
  unfold hasM
  rw [e]
  simp [inSp, hs]
 obtain ⟨a, ha⟩ := one 0
 obtain ⟨b, hb⟩ := one 1
 obtain ⟨c, hc⟩ := one 2
 obtain ⟨d, hd⟩ := one 3
 refine ⟨⟨a, b, c, d⟩, ?_⟩
 show (hasM A 0 a && (hasM A 1 b && (hasM A 2 c && (hasM A 3 d && true)))) = true
 rw [ha, hb, hc, hd]
 rfl
theorem deR_rank (l : List Int) {m : Nat} (hm : m ≤ 6) (c : Int) : ∀ r, r ∈ deR l m c → r.rank ≤ 1000 := by
 intro r hr
 obtain ⟨x, hx, rfl⟩ := List.mem_map.1 hr
 exact (deLs_ok l hm c x hx).fit.rk
theorem deR_0 (l : List Int) (m : Nat) (c : Int) : (deR l m c)[0]? = some (ovL c).M := rfl
theorem deR_last (l : List Int) (m : Nat) (c : Int) : (deR l m c)[m + 1]? = some (agL c).M := by
 unfold deR deLs
 rw [List.map_cons, List.getElem?_cons_succ, List.map_append, List.getElem?_append_right (by simp)]
 simp
theorem deR_live0 (l : List Int) {m : Nat} (hm : m ≤ 6) (c : Int) : livB (deR l m c) 0 = true := by
 have hb := readM_book (deR_read l hm c)
 have ha := readM_ar (deR_read l hm c)
 have hr := List.mem_of_getElem? (deR_0 l m c)
 obtain ⟨p, hp⟩ := area_some (A := arR (ovL c).M) (area_ne _ _ _ _ _ _ _ _) (fun i s hs => (arR_at (hb.rl _ hr) (ha _ hr) i s hs).1)
 refine (rlv_iff hb ha (deR_0 l m c)).2 ⟨p, hp, fun i q hq hh => ?_⟩
 have h1 := deR_rank l hm c q (List.mem_of_getElem? hq)
 have h2 : (ovL c).M.rank = 1000 := rfl
 omega
theorem deR_liveL (l : List Int) {m : Nat} (hm : m ≤ 6) (c : Int) : livB (deR l m c) (m + 1) = false := by
 have hb := readM_book (deR_read l hm c)
 have ha := readM_ar (deR_read l hm c)
 cases hx : livB (deR l m c) (m + 1) with
 | false => rfl
 | true =>
  obtain ⟨p, h1, h2⟩ := (rlv_iff hb ha (deR_last l m c)).1 hx
  have h3 := h2 0 _ (deR_0 l m c) (.inr ⟨rfl, by omega⟩)
  have h4 : allB (arR (agL c).M) 4 p = allB (arR (ovL c).M) 4 p := rfl
  rw [h4, h3] at h1
  cases h1
theorem ded_mem (R : List RuleM) (n : ByteArray) : ∀ k, n ∈ dedL R k ↔ ∃ j r, j < k ∧ R[j]? = some r ∧ livB R j = false ∧ n = r.name
 | 0 => by simp [dedL]
 | k + 1 => by
  have ih := ded_mem R n k
  unfold dedL
  rw [List.mem_append, ih]
  constructor
  ·rintro (⟨j, r, h1, h2, h3, h4⟩ | h)
   ·exact ⟨j, r, by omega, h2, h3, h4⟩
   ·split at h
    ·rename_i r hr
     split at h
     ·cases h
     ·rename_i hb
      exact ⟨k, r, by omega, hr, by simpa using hb, by simpa using h⟩
    ·cases h
  ·rintro ⟨j, r, h1, h2, h3, h4⟩
   by_cases e : j < k
   ·exact .inl ⟨j, r, e, h2, h3, h4⟩
   ·obtain rfl : j = k := by omega
    right
    rw [h2]
    simp [h3, h4]
/-- A rule's name is among the dead just if it is dead. -/
theorem de_out (l : List Int) (m : Nat) (c : Int) {i : Nat} {x : LnX} (hx : (deLs l m c)[i]? = some x) : ((dedN (deR l m c)).any fun n => n.toList == (bs x.x.nm).toList) = !livB (deR l m c) i := by
 have hi : i < m + 2 := by have := (List.getElem?_eq_some_iff.1 hx).1; rw [deLs_len] at this; exact this
 have hM : (deR l m c)[i]? = some x.M := by unfold deR; rw [List.getElem?_map, hx]; rfl
 rw [Bool.eq_iff_iff]
 constructor
 ·intro h
  obtain ⟨n, hn, he⟩ := List.any_eq_true.1 h
  unfold dedN at hn
  obtain ⟨j, r, h1, h2, h3, rfl⟩ := (ded_mem _ _ _).1 hn
  have hj : j < (deLs l m c).length := by rw [deR_len] at h1; rw [deLs_len]; exact h1
  have hy := List.getElem?_eq_getElem hj
  have hM2 : (deR l m c)[j]? = some ((deLs l m c)[j]).M := by unfold deR; rw [List.getElem?_map, hy]; rfl
  rw [hM2] at h2
  injection h2 with h2
  rw [← h2] at he
  have e1 : ((deLs l m c)[j]).x.nm = x.x.nm := by
   have : ((bs ((deLs l m c)[j]).x.nm).toList == (bs x.x.nm).toList) = true := he
   rw [bs_toList, bs_toList] at this
   exact eq_of_beq this
  have hnd := deLs_nd l m c
  have e2 : j = i := by
   have a1 : ((deLs l m c).map fun x => x.x.nm)[j]? = some x.x.nm := by rw [List.getElem?_map, hy]; simp [e1]
   have a2 : ((deLs l m c).map fun x => x.x.nm)[i]? = some x.x.nm := by rw [List.getElem?_map, hx]; rfl
   exact (List.getElem?_inj (by rw [List.length_map]; exact hj) hnd).1 (a1.trans a2.symm)
  subst e2
  rw [h3]
  rfl
 ·intro h
  refine List.any_eq_true.2 ⟨x.M.name, ?_, by show ((bs x.x.nm).toList == (bs x.x.nm).toList) = true; simp⟩
  unfold dedN
  exact (ded_mem _ _ _).2 ⟨i, x.M, by rw [deR_len]; exact hi, hM, by simpa using h, rfl⟩
end Go.Proofs.YtccikgogjfbpeaaGreat
