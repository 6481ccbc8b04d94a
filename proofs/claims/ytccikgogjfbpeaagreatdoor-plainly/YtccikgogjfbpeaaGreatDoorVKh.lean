/- Rules of raw numbers, one above them, one below: what is read and what is decided; plain. -/
import Derived.Test.YtccikgogjfbpeaaGreatDoorVKg
namespace Go.Proofs.YtccikgogjfbpeaaGreatDoor

theorem dig1 {k : Nat} (h : k < 10) : digL k 1 = [UInt8.ofNat (48 + k)] := by
 rw [digL_step (by omega), show k / 10 = 0 from by omega, show 1 - 1 = 0 from rfl, digL_zero, show k % 10 = k from by omega]
 rfl
def rN (i : Nat) : List UInt8 := 114 :: digL i 1
theorem rN_NmL {i : Nat} (h : i < 8) : NmL (rN i) := by
 unfold rN
 rw [dig1 (by omega)]
 have : i = 0 ∨ i = 1 ∨ i = 2 ∨ i = 3 ∨ i = 4 ∨ i = 5 ∨ i = 6 ∨ i = 7 := by omega
 rcases this with rfl | rfl | rfl | rfl | rfl | rfl | rfl | rfl <;> exact nmL_of rfl (by decide) (by decide) (by decide) (by decide)
theorem rN_ne {i j : Nat} (h : i ≠ j) : ((bs (rN j)).toList == (bs (rN i)).toList) = false := by
 rw [bs_toList, bs_toList]
 cases he : (rN j == rN i) with
 | false => rfl
 | true =>
  have e := eq_of_beq he
  unfold rN at e
  injection e with _ e
  have := congrArg numOf e
  rw [tx_num, tx_num] at this
  omega
theorem act_ok {k : Nat} (h : k < 6) : (∀ w, w ∈ actR k → NmL w) ∧ ((actD k = true ∧ actC k = false ∧ actR k = []) ∨ (actD k = false ∧ actR k ≠ [])) := by
 have nb : NmL [98] := nmL_of rfl (by decide) (by decide) (by decide) (by decide)
 have nc : NmL [99] := nmL_of rfl (by decide) (by decide) (by decide) (by decide)
 have na := nm_a
 have : k = 0 ∨ k = 1 ∨ k = 2 ∨ k = 3 ∨ k = 4 ∨ k = 5 := by omega
 rcases this with rfl | rfl | rfl | rfl | rfl | rfl
 ·exact ⟨fun w hw => (by cases hw), .inl ⟨rfl, rfl, rfl⟩⟩
 all_goals
  refine ⟨fun w hw => ?_, .inr ⟨by decide, by simp [actR]⟩⟩
  simp [actR] at hw
 ·subst hw; exact na
 ·rcases hw with rfl | rfl <;> assumption
 ·rcases hw with rfl | rfl | rfl <;> assumption
 ·rcases hw with rfl | rfl <;> assumption
 ·rcases hw with rfl | rfl | rfl <;> assumption
theorem rlK_lt (c : Int) : rlK c < 6 := pickK_lt _ 6 (by decide)
theorem rlX_ok {i : Nat} (h : i < 8) (c : Int) : (rlX i c).Ok :=
 gd_ok (rN_NmL h) (tx_DgL (by have := pickK_lt (c.tdiv 41) 3 (by decide); omega)) (act_ok (rlK_lt c)).1 (act_ok (rlK_lt c)).2
theorem rlX_fit (i : Nat) (c : Int) : (rlX i c).Fit := gd_fit (by rw [tx_num]; have := pickK_lt (c.tdiv 41) 3 (by decide); omega)
def rlM (i : Nat) (c : Int) : RuleM := (rlX i c).rl (actP (rlK c)) 3
theorem hasName_app (nm : ByteArray) : ∀ (a b : List RuleM), hasName nm (a ++ b) = (hasName nm a || hasName nm b)
 | [], b => by simp [hasName]
 | r :: a, b => by
  simp only [List.cons_append, hasName]
  split
  ·rfl
  ·exact hasName_app nm a b
/-- Rules from the i-th on, k of them. -/
def rsX (l : List Int) (i : Nat) : Nat → List RuX
 | 0 => []
 | k + 1 => rlX i (rawK l i) :: rsX l (i + 1) k
def rsM (l : List Int) (i : Nat) : Nat → List RuleM
 | 0 => []
 | k + 1 => rlM i (rawK l i) :: rsM l (i + 1) k
def rsE (l : List Int) (line i : Nat) : Nat → List EntE
 | 0 => []
 | k + 1 => .rule ((rlX i (rawK l i)).ent line) :: rsE l (line + 1) (i + 1) k
def rsT (l : List Int) (i : Nat) : Nat → List UInt8
 | 0 => []
 | k + 1 => rlT i (rawK l i) ++ rsT l (i + 1) k
theorem rs_tx (l : List Int) {t : List UInt8} {xs : List EntE} : ∀ (k i line : Nat), i + k ≤ 8 → TxL t (line + k) xs → TxL (rsT l i k ++ t) line (rsE l line i k ++ xs)
 | 0, _, _, _, h => h
 | k + 1, i, line, hk, h => by
  have ih := rs_tx l k (i + 1) (line + 1) (by omega) (by rw [show line + 1 + k = line + (k + 1) from by omega]; exact h)
  have := tx_rule (rlX_ok (i := i) (by omega) (rawK l i)) (tx_nl ih)
  simpa [rsT, rlT, rsE] using this
theorem rs_under (l : List Int) {xs : List EntE} : ∀ (k i line : Nat) (rls : List RuleM), rls.length + k ≤ 8 → (∀ j, i ≤ j → j < i + k → hasName (bs (rN j)) rls = false) → underM rts3 rls (rsE l line i k ++ xs) = underM rts3 (rls ++ rsM l i k) xs
 | 0, _, _, rls, _, _ => by simp [rsE, rsM]
 | k + 1, i, line, rls, hk, hn => by
  have ih := rs_under l (xs := xs) k (i + 1) (line + 1) (rls ++ [rlM i (rawK l i)]) (by simp; omega) (fun j h1 h2 => by
   rw [hasName_app, hn j (by omega) (by omega)]
   show hasName _ [rlM i (rawK l i)] = false
   have e := rN_ne (i := j) (j := i) (by omega)
   simp only [hasName]
   rw [show (rlM i (rawK l i)).name = bs (rN i) from rfl, if_neg (by rw [e]; decide)])
  simp only [rsE, List.cons_append]
  rw [under_rule (r := rlX i (rawK l i)) (ps := actP (rlK (rawK l i))) (by omega) (hn i (by omega) (by omega)) (rlX_fit i _) (pls3 (rlK_lt _))]
  show underM rts3 (rls ++ [rlM i (rawK l i)]) _ = _
  rw [ih, List.append_assoc]
  rfl
theorem rsT_len (l : List Int) : ∀ (k i : Nat), i + k ≤ 100 → (rsT l i k).length ≤ 90 * k
 | 0, _, _ => by simp [rsT]
 | k + 1, i, h => by
  have h1 := rsT_len l k (i + 1) (by omega)
  have h2 := rlT_len (i := i) (by omega) (rawK l i)
  simp only [rsT, List.length_append]
  omega
theorem rsT_flat (l : List Int) : ∀ (k i : Nat), rsT l i k = ((List.range' i k).map fun j => bs (rlT j (rawK l j))).flatMap fun b => b.data.toList
 | 0, _ => rfl
 | k + 1, i => by
  rw [List.range'_succ]
  simp only [rsT, List.map_cons, List.flatMap_cons]
  rw [rsT_flat l k (i + 1)]
theorem whT_rl (l : List Int) (m : Nat) : whT (rlL l m) = routes3 ++ rsT l 0 m := by
 unfold whT rlL
 rw [rsT_flat, List.range_eq_range']
/-- A rule that sends by a, of a name and a rank. -/
def seX (c : Int) (nm rk : List UInt8) : RuX := gdR c nm rk false false [[97]]
def seM (c : Int) (nm rk : List UInt8) : RuleM := (seX c nm rk).rl [0] 3
theorem seX_ok {c : Int} {nm rk : List UInt8} (h1 : NmL nm) (h2 : DgL rk) : (seX c nm rk).Ok := gd_ok h1 h2 (fun w hw => by simp at hw; subst hw; exact nm_a) (.inr ⟨rfl, by simp⟩)
theorem se_text (c : Int) (nm rk : List UInt8) : (seX c nm rk).text = [114, 117, 108, 101, 32] ++ (nm ++ (32 :: (rk ++ (58 :: 32 :: (g3 c ++ [32, 45, 62, 32, 97, 59]))))) := by
 have g : gX (seX c nm rk) = g3 c := by rw [g3_eq]; rfl
 unfold RuX.text
 rw [g]
 simp [seX, gdR, acX, commaX]
def ovN : List UInt8 := [111, 118, 101, 114]
def unN : List UInt8 := [117, 110, 100, 101, 114]
theorem name_far {nm : List UInt8} {c : UInt8} {v : List UInt8} (h : nm = c :: v) (hc : c ≠ 114) (i : Nat) : ((bs nm).toList == (bs (rN i)).toList) = false := by
 subst h
 rw [bs_toList, bs_toList]
 unfold rN
 simp [hc]
theorem hasName_rs {nm : List UInt8} {c : UInt8} {v : List UInt8} (h : nm = c :: v) (hc : c ≠ 114) (l : List Int) : ∀ (k i : Nat), hasName (bs nm) (rsM l i k) = false
 | 0, _ => rfl
 | k + 1, i => by
  have e := name_far h hc i
  have ih := hasName_rs h hc l k (i + 1)
  simp only [rsM, hasName]
  rw [show (rlM i (rawK l i)).name = bs (rN i) from rfl, if_neg ?_, ih]
  intro h2
  rw [Bool.beq_comm] at h2
  rw [e] at h2
  cases h2
theorem rsM_len (l : List Int) : ∀ (k i : Nat), (rsM l i k).length = k
 | 0, _ => rfl
 | k + 1, i => by simp [rsM, rsM_len l k (i + 1)]
theorem base_read (l : List Int) (m : Nat) (hm : m ≤ 8) : readM (bs (whT (rlL l m))) = .ok (rts3, rsM l 0 m) := by
 have h := tx_routes3 (rs_tx l m 0 2 (by omega) (tx_nil _))
 have e : whT (rlL l m) = routes3 ++ (rsT l 0 m ++ []) := by rw [whT_rl, List.append_nil]
 have hl := rsT_len l m 0 (by omega)
 rw [e, readM_of h (by simp [routes3]; omega), under_routes3, rs_under l m 0 2 [] (by simp; omega) (fun j _ _ => rfl)]
 rfl
theorem over_read (l : List Int) (m : Nat) (hm : m ≤ 7) (c : Int) : readM (bs (routes3 ++ ((seX c ovN [49, 48, 48, 48]).text ++ rsT l 0 m))) = .ok (rts3, seM c ovN [49, 48, 48, 48] :: rsM l 0 m) := by
 have h := tx_routes3 (tx_rule (seX_ok (c := c) (nm := ovN) (rk := [49, 48, 48, 48]) (nmL_of rfl (by decide) (by decide) (by decide) (by decide)) (dgL_of (by decide) (by decide) (by decide))) (rs_tx l m 0 2 (by omega) (tx_nil _)))
 have hl := rsT_len l m 0 (by omega)
 have h3 := g3_len c
 have hs : (seX c ovN [49, 48, 48, 48]).text.length ≤ 100 := by rw [se_text]; simp [ovN]; omega
 rw [show routes3 ++ ((seX c ovN [49, 48, 48, 48]).text ++ rsT l 0 m) = routes3 ++ ((seX c ovN [49, 48, 48, 48]).text ++ (rsT l 0 m ++ [])) from by rw [List.append_nil], readM_of h (by simp [routes3]; omega), under_routes3,
  under_rule (r := seX c ovN [49, 48, 48, 48]) (ps := [0]) (by decide) rfl (gd_fit (show numOf [49, 48, 48, 48] ≤ 1000 by decide)) (pls3 (k := 1) (by decide)), rs_under l m 0 2 _ (by simp; omega) (fun j _ _ => by
   have e := name_far (nm := ovN) rfl (by decide) j
   show hasName (bs (rN j)) [seM c ovN [49, 48, 48, 48]] = false
   simp only [hasName]
   rw [show (seM c ovN [49, 48, 48, 48]).name = bs ovN from rfl, if_neg (by rw [e]; decide)])]
 rfl
theorem under_read (l : List Int) (m : Nat) (hm : m ≤ 7) (c : Int) : readM (bs (routes3 ++ (rsT l 0 m ++ (seX c unN [48]).text))) = .ok (rts3, rsM l 0 m ++ [seM c unN [48]]) := by
 have h := tx_routes3 (rs_tx l m 0 2 (by omega) (tx_rule (line := 2 + m) (seX_ok (c := c) (nm := unN) (rk := [48]) (nmL_of rfl (by decide) (by decide) (by decide) (by decide)) (dgL_of (by decide) (by decide) (by decide))) (tx_nil _)))
 have hl := rsT_len l m 0 (by omega)
 have h3 := g3_len c
 have hs : (seX c unN [48]).text.length ≤ 100 := by rw [se_text]; simp [unN]; omega
 rw [show routes3 ++ (rsT l 0 m ++ (seX c unN [48]).text) = routes3 ++ (rsT l 0 m ++ ((seX c unN [48]).text ++ [])) from by rw [List.append_nil], readM_of h (by simp [routes3]; omega), under_routes3, rs_under l m 0 2 [] (by simp; omega) (fun j _ _ => rfl), List.nil_append,
  under_rule (r := seX c unN [48]) (ps := [0]) (by rw [rsM_len]; omega) (hasName_rs (nm := unN) rfl (by decide) l m 0) (gd_fit (show numOf [48] ≤ 1000 by decide)) (pls3 (k := 1) (by decide))]
 rfl
end Go.Proofs.YtccikgogjfbpeaaGreatDoor
