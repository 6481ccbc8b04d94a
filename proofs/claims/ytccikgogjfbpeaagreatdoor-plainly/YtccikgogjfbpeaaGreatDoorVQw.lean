/- Where the tokens of entries stand; plain, over the parser. -/
import Derived.Test.YtccikgogjfbpeaaGreatDoorVQo
namespace Go.Proofs.YtccikgogjfbpeaaGreatDoor

section
variable {body : List Tk} {en : Tk}
/-- A token that is not the end stands in the body. -/
theorem tk_body (he : en.sort = 3) {i : Nat} (h : (tkAt (body ++ [en]) i).sort ≠ 3) : body[i]? = some (tkAt (body ++ [en]) i) := by
 unfold tkAt at h ⊢
 rw [List.getD_eq_getElem?_getD] at h ⊢
 by_cases hi : i < body.length
 ·rw [List.getElem?_append_left hi, List.getElem?_eq_getElem hi]
  rfl
 ·exfalso
  apply h
  rw [List.getElem?_append_right (by omega)]
  by_cases h0 : i - body.length = 0
  ·rw [h0]; exact he
  ·rw [List.getElem?_eq_none (by simp; omega)]; rfl
theorem take_at (he : en.sort = 3) {i want : Nat} {t : Tk} {k : Nat} (hw : want ≠ 3) (h : takeM (body ++ [en]) i want = .ok (t, k)) : body[i]? = some t ∧ t.sort = want ∧ k = i + 1 := by
 obtain ⟨rfl, h2, h3⟩ := takeM_ok h
 exact ⟨tk_body he (by rw [h2]; exact hw), h2, h3⟩
theorem fix_at (he : en.sort = 3) {i : Nat} {m : ByteArray} (h : isFix (tkAt (body ++ [en]) i) m = true) : ∃ t, body[i]? = some t ∧ (t.text.toList == m.data.toList) = true ∧ t.sort = 2 := by
 simp only [isFix, Bool.and_eq_true, decide_eq_true_eq] at h
 exact ⟨_, tk_body he (by rw [h.1]; decide), by rw [← ByteArray.toList_eq m]; exact h.2, h.1⟩
theorem expect_at (he : en.sort = 3) {i : Nat} {m : ByteArray} {u : Unit} {k : Nat} (h : expectM (body ++ [en]) i m = .ok (u, k)) : (∃ t, body[i]? = some t ∧ (t.text.toList == m.data.toList) = true ∧ t.sort = 2) ∧ k = i + 1 := by
 refine ⟨?_, expectM_ok h⟩
 unfold expectM at h
 split at h
 ·rename_i hf; exact fix_at he hf
 ·cases h
/-- The token at a place is not this one. -/
theorem nofix_at (he : en.sort = 3) (hl : ∀ t, t ∈ body → LitTk t) {i : Nat} {m : ByteArray} (hm : m ∈ lits) (hx : (tkAt (body ++ [en]) i).sort ≠ 3) (h : ¬ isFix (tkAt (body ++ [en]) i) m = true) : ∃ t, body[i]? = some t ∧ (t.text.toList == m.data.toList) = false := by
 have hb := tk_body he hx
 refine ⟨_, hb, ?_⟩
 have hL := hl _ (List.mem_of_getElem? hb) m hm
 rw [← ByteArray.toList_eq m, ← hL]
 simpa using h
theorem some_sort (hs : ∀ t, t ∈ body → t.sort ≠ 3) {i : Nat} {t : Tk} (h : body[i]? = some t) : (tkAt (body ++ [en]) i).sort ≠ 3 := by
 have hi := (List.getElem?_eq_some_iff.1 h).1
 have e : tkAt (body ++ [en]) i = t := by
  unfold tkAt
  rw [List.getD_eq_getElem?_getD, List.getElem?_append_left hi, h]
  rfl
 rw [e]
 exact hs t (List.mem_of_getElem? h)

theorem rest_at (he : en.sort = 3) {want : Nat} (hw : want ≠ 3) : ∀ (m i : Nat) (acc l : List Tk) (k : Nat), (body ++ [en]).length - i = m → restM (body ++ [en]) i want acc = .ok (l, k) →
  ∃ r, l = acc ++ r ∧ (∀ j t, r[j]? = some t → body[i + 1 + 2 * j]? = some t) ∧ (∀ j, j < r.length → ∃ t, body[i + 2 * j]? = some t ∧ (t.text.toList == [44]) = true) ∧ k = i + 2 * r.length ∧ ¬ isFix (tkAt (body ++ [en]) k) mComma = true := by
 intro m
 induction m using Nat.strongRecOn with
 | ind m ih =>
  intro i acc l k hm hr
  rw [restM] at hr
  split at hr
  ·rename_i hq
   have hlt := isFix_lt hq
   split at hr
   ·cases hr
   ·rename_i t i' ht
    obtain ⟨h1, h2, h3⟩ := take_at he hw ht
    obtain ⟨r, e1, e2, e3, e4, e5⟩ := ih ((body ++ [en]).length - i') (by omega) i' _ l k rfl hr
    obtain ⟨tc, c1, c2, _⟩ := fix_at he hq
    refine ⟨t :: r, by rw [e1, List.append_assoc]; rfl, fun j u hj => ?_, fun j hj => ?_, by simp only [List.length_cons]; omega, e5⟩
    ·cases j with
     | zero => simp at hj; subst hj; exact h1
     | succ j =>
      have := e2 j u (by simpa using hj)
      rw [show i + 1 + 2 * (j + 1) = i' + 1 + 2 * j from by omega]
      exact this
    ·cases j with
     | zero => exact ⟨tc, c1, c2⟩
     | succ j =>
      obtain ⟨u, u1, u2⟩ := e3 j (by simpa using hj)
      rw [show i + 2 * (j + 1) = i' + 2 * j from by omega]
      exact ⟨u, u1, u2⟩
  ·rename_i hq
   injection hr with hr
   injection hr with h1 h2
   subst h1 h2
   exact ⟨[], by simp, fun j t hj => by simp at hj, fun j hj => by simp at hj, by simp, hq⟩
theorem mComma_lit : mComma ∈ lits := by simp [lits]
/-- A list, its keyword (or whatever stands ahead) at i. -/
theorem list_at (he : en.sort = 3) (hl : ∀ t, t ∈ body → LitTk t) {i want : Nat} (hw : want ≠ 3) {l : List Tk} {k : Nat} (h : listM (body ++ [en]) (i + 1) want = .ok (l, k)) (hx : (tkAt (body ++ [en]) k).sort ≠ 3) : LAt body i l ∧ k = i + 2 * l.length := by
 unfold listM at h
 split at h
 ·cases h
 ·rename_i t i1 ht
  obtain ⟨h1, h2, h3⟩ := take_at he hw ht
  obtain ⟨r, e1, e2, e3, e4, e5⟩ := rest_at he hw _ i1 [t] l k rfl h
  have el : l = t :: r := e1
  subst el
  have ek : k = i + 2 * (t :: r).length := by simp only [List.length_cons]; omega
  refine ⟨⟨fun j u hj => ?_, fun j hj1 hj2 => ?_, ?_, by simp⟩, ek⟩
  ·cases j with
   | zero => simp at hj; subst hj; exact h1
   | succ j =>
    have := e2 j u (by simpa using hj)
    rw [show i + 1 + 2 * (j + 1) = i1 + 1 + 2 * j from by omega]
    exact this
  ·cases j with
   | zero => omega
   | succ j =>
    obtain ⟨u, u1, u2⟩ := e3 j (by simpa using hj2)
    rw [show i + 2 * (j + 1) = i1 + 2 * j from by omega]
    exact ⟨u, u1, u2⟩
  ·rw [← ek]
   exact nofix_at he hl mComma_lit hx e5
theorem optList_at (he : en.sort = 3) (hl : ∀ t, t ∈ body → LitTk t) (hs : ∀ t, t ∈ body → t.sort ≠ 3) {i : Nat} {kw : ByteArray} (hkw : kw ∈ lits) {l : List Tk} {k : Nat} (h : optList (body ++ [en]) i kw = .ok (l, k)) (hx : (tkAt (body ++ [en]) k).sort ≠ 3) : OptL body i kw.data.toList l ∧ k = i + 2 * l.length ∧ (tkAt (body ++ [en]) i).sort ≠ 3 := by
 unfold optList at h
 split at h
 ·rename_i hf
  obtain ⟨t, h1, h2, _⟩ := fix_at he hf
  obtain ⟨a, b⟩ := list_at he hl (by decide) h hx
  exact ⟨⟨t, h1, Or.inl ⟨h2, a⟩⟩, b, some_sort hs h1⟩
 ·rename_i hf
  injection h with h
  injection h with h1 h2
  subst h1 h2
  obtain ⟨t, h1, h2⟩ := nofix_at he hl hkw hx hf
  exact ⟨⟨t, h1, Or.inr ⟨h2, rfl⟩⟩, by simp, hx⟩
theorem optPair_at (he : en.sort = 3) (hl : ∀ t, t ∈ body → LitTk t) (hs : ∀ t, t ∈ body → t.sort ≠ 3) {i : Nat} {o : Option (Tk × Tk)} {k : Nat} (h : optPair (body ++ [en]) i kwAmount = .ok (o, k)) (hx : (tkAt (body ++ [en]) k).sort ≠ 3) : OptA body i [97, 109, 111, 117, 110, 116] o ∧ k = i + amLen o ∧ (tkAt (body ++ [en]) i).sort ≠ 3 := by
 unfold optPair at h
 split at h
 ·rename_i hf
  obtain ⟨t, h1, h2, _⟩ := fix_at he hf
  obtain ⟨ab, j, hp, e⟩ := bindM_inv h
  injection e with e
  injection e with e1 e2
  subst e1 e2
  rw [pairM_bind] at hp
  obtain ⟨a, j1, g1, hp⟩ := bindM_inv hp
  obtain ⟨_, j2, g2, hp⟩ := bindM_inv hp
  obtain ⟨b, j3, g3, hp⟩ := bindM_inv hp
  injection hp with hp
  injection hp with hp1 hp2
  obtain ⟨a1, a2, a3⟩ := take_at he (by decide) g1
  have a4 := (expect_at he g2).2
  obtain ⟨b1, b2, b3⟩ := take_at he (by decide) g3
  subst hp1
  refine ⟨⟨t, h1, h2, a1, ?_⟩, by simp only [amLen]; omega, some_sort hs h1⟩
  rw [show i + 3 = j2 from by omega]
  exact b1
 ·rename_i hf
  injection h with h
  injection h with h1 h2
  subst h1 h2
  obtain ⟨t, h1, h2⟩ := nofix_at he hl (m := kwAmount) (by simp [lits]) hx hf
  exact ⟨⟨t, h1, h2⟩, rfl, hx⟩
theorem action_at (he : en.sort = 3) (hl : ∀ t, t ∈ body → LitTk t) (hs : ∀ t, t ∈ body → t.sort ≠ 3) {ia : Nat} {a : ActE} {k : Nat} (h : actionM (body ++ [en]) (ia + 1) = .ok (a, k)) (hx : (tkAt (body ++ [en]) k).sort ≠ 3) : ActAt body ia a k := by
 unfold actionM at h
 split at h
 ·rename_i hf
  obtain ⟨t, h1, h2, _⟩ := fix_at he hf
  injection h with h
  injection h with e1 e2
  subst e1 e2
  exact ⟨t, h1, Or.inl ⟨rfl, h2, rfl⟩⟩
 ·rename_i hf
  split at h
  ·rename_i hf2
   obtain ⟨t, h1, h2, _⟩ := fix_at he hf2
   obtain ⟨l, j, g, e⟩ := bindM_inv h
   injection e with e
   injection e with e1 e2
   subst e1 e2
   obtain ⟨c, d⟩ := list_at he hl (by decide) g hx
   obtain ⟨t', u1, u2⟩ := nofix_at he hl (m := kwDecline) (by simp [lits]) (some_sort hs h1) hf
   rw [h1] at u1
   injection u1 with u1
   subst u1
   exact ⟨t, h1, Or.inr ⟨rfl, u2, h2, ia + 1, rfl, c, d⟩⟩
  ·rename_i hf2
   obtain ⟨l, j, g, e⟩ := bindM_inv h
   injection e with e
   injection e with e1 e2
   subst e1 e2
   have hx1 : (tkAt (body ++ [en]) (ia + 1)).sort ≠ 3 := by
    unfold listM at g
    split at g
    ·cases g
    ·rename_i t i1 ht
     exact some_sort hs (take_at he (by decide) ht).1
   obtain ⟨c, d⟩ := list_at he hl (by decide) g hx
   obtain ⟨t, h1, u2⟩ := nofix_at he hl (m := kwDecline) (by simp [lits]) hx1 hf
   obtain ⟨t', u3, u4⟩ := nofix_at he hl (m := kwCheapest) (by simp [lits]) hx1 hf2
   rw [h1] at u3
   injection u3 with u3
   subst u3
   exact ⟨t, h1, Or.inr ⟨rfl, u2, u4, ia, rfl, c, d⟩⟩
/-- A rule's tokens, by the parser. -/
theorem rule_at (he : en.sort = 3) (hl : ∀ t, t ∈ body → LitTk t) (hs : ∀ t, t ∈ body → t.sort ≠ 3) {i : Nat} {r : RuleE} {k : Nat} (h : ruleM (body ++ [en]) (i + 1) = .ok (r, k)) (hx : (tkAt (body ++ [en]) k).sort ≠ 3) (ho : EntOk (.rule r)) : RuleAt body i r k := by
 unfold ruleM at h
 obtain ⟨nm, j1, g1, h⟩ := bindM_inv h
 obtain ⟨rk, j2, g2, h⟩ := bindM_inv h
 obtain ⟨_, j3, g3, h⟩ := bindM_inv h
 obtain ⟨_, j4, g4, h⟩ := bindM_inv h
 obtain ⟨bn, j5, g5, h⟩ := bindM_inv h
 obtain ⟨mc, j6, g6, h⟩ := bindM_inv h
 obtain ⟨am, j7, g7, h⟩ := bindM_inv h
 obtain ⟨cu, j8, g8, h⟩ := bindM_inv h
 obtain ⟨_, j9, g9, h⟩ := bindM_inv h
 obtain ⟨ac, j10, g10, h⟩ := bindM_inv h
 injection h with h
 injection h with e1 e2
 subst e1 e2
 obtain ⟨a1, a2, a3⟩ := take_at he (by decide) g1
 obtain ⟨b1, b2, b3⟩ := take_at he (by decide) g2
 obtain ⟨_, c3⟩ := expect_at he g3
 obtain ⟨_, c4⟩ := expect_at he g4
 rw [pairM_bind] at g5
 obtain ⟨p1, q1, d1, g5⟩ := bindM_inv g5
 obtain ⟨_, q2, d2, g5⟩ := bindM_inv g5
 obtain ⟨p2, q3, d3, g5⟩ := bindM_inv g5
 injection g5 with g5
 injection g5 with f1 f2
 subst f1
 obtain ⟨x1, x2, x3⟩ := take_at he (by decide) d1
 have x4 := (expect_at he d2).2
 obtain ⟨y1, y2, y3⟩ := take_at he (by decide) d3
 obtain ⟨⟨ta, z1, _, _⟩, z2⟩ := expect_at he g9
 obtain ⟨u1, u2, u3⟩ := optList_at he hl hs (kw := kwCur) (by simp [lits]) g8 (some_sort hs z1)
 obtain ⟨v1, v2, v3⟩ := optPair_at he hl hs g7 u3
 obtain ⟨w1, w2, w3⟩ := optList_at he hl hs (kw := kwMcc) (by simp [lits]) g6 v3
 have k5 : j5 = i + 8 := by omega
 subst k5
 rw [z2] at g10
 have hA := action_at he hl hs g10 hx
 rw [w2] at v1
 have k7 : j7 = i + 8 + 2 * mc.length + amLen am := by omega
 rw [k7] at u1
 have k8 : j8 = i + 8 + 2 * mc.length + amLen am + 2 * cu.length := by omega
 rw [k8] at hA
 refine ⟨a1, ?_, ?_, ?_, w1, v1, u1, hA, ho.2.1, ho.2.2.1, ho.2.2.2.1, ho.2.2.2.2.1, ho.2.2.2.2.2.1, ho.2.2.2.2.2.2.1⟩
 ·rw [show i + 2 = j1 from by omega]; exact b1
 ·rw [show i + 5 = j4 from by omega]; exact x1
 ·rw [show i + 7 = q2 from by omega]; exact y1
end
end Go.Proofs.YtccikgogjfbpeaaGreatDoor
