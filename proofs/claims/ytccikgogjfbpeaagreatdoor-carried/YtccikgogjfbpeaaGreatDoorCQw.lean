/- Where the tokens of entries stand; plain, over the parser. -/
import Derived.Test.YtccikgogjfbpeaaGreatDoorCQo
namespace Go.Proofs.YtccikgogjfbpeaaGreatDoor
section
variable {body : List Tk} {en : Tk}
theorem tk_body (he : en.sort = 3) {i : Nat} (h : (tkAt (body ++ [en]) i).sort ≠ 3) : body[i]? = some (tkAt (body ++ [en]) i) := by
 unfold tkAt at h ⊢
 rw [List.getD_eq_getElem?_getD] at h ⊢
 by_cases hi : i < body.length
 ·rw [List.getElem?_append_left hi, List.getElem?_eq_getElem hi]
  rfl
 ·exfalso
  apply h
  rw [List.getElem?_append_right (by omega)]
  by_cases h0 : i - body.length = 0
  ·rw [h0]; exact he
  ·rw [List.getElem?_eq_none (by simp; omega)]; rfl
theorem take_at (he : en.sort = 3) {i want : Nat} {t : Tk} {k : Nat} (hw : want ≠ 3) (h : takeM (body ++ [en]) i want = .ok (t, k)) : body[i]? = some t ∧ t.sort = want ∧ k = i + 1 := by
 obtain ⟨rfl, h2, h3⟩ := takeM_ok h
 exact ⟨tk_body he (by rw [h2]; exact hw), h2, h3⟩
theorem fix_at (he : en.sort = 3) {i : Nat} {m : ByteArray} (h : isFix (tkAt (body ++ [en]) i) m = true) : ∃ t, body[i]? = some t ∧ (t.text.toList == m.data.toList) = true ∧ t.sort = 2 := by
 simp only [isFix, Bool.and_eq_true, decide_eq_true_eq] at h
 exact ⟨_, tk_body he (by rw [h.1]; decide), by rw [← ByteArray.toList_eq m]; exact h.2, h.1⟩
theorem expect_at (he : en.sort = 3) {i : Nat} {m : ByteArray} {u : Unit} {k : Nat} (h : expectM (body ++ [en]) i m = .ok (u, k)) : (∃ t, body[i]? = some t ∧ (t.text.toList == m.data.toList) = true ∧ t.sort = 2) ∧ k = i + 1 := by
 refine ⟨?_, expectM_ok h⟩
 unfold expectM at h
 split at h
 ·rename_i hf; exact fix_at he hf
 ·cases h
theorem rest_at (he : en.sort = 3) {want : Nat} (hw : want ≠ 3) : ∀ (m i : Nat) (acc l : List Tk) (k : Nat), (body ++ [en]).length - i = m → restM (body ++ [en]) i want acc = .ok (l, k) →
  ∃ r, l = acc ++ r ∧ (∀ j t, r[j]? = some t → body[i + 1 + 2 * j]? = some t) ∧ (∀ j, j < r.length → ∃ t, body[i + 2 * j]? = some t ∧ (t.text.toList == [44]) = true) ∧ k = i + 2 * r.length ∧ ¬ isFix (tkAt (body ++ [en]) k) mComma = true := by
 intro m
 induction m using Nat.strongRecOn with
 | ind m ih =>
  intro i acc l k hm hr
  rw [restM] at hr
  split at hr
  ·rename_i hq
   have hlt := isFix_lt hq
   split at hr
   ·cases hr
   ·rename_i t i' ht
    obtain ⟨h1, h2, h3⟩ := take_at he hw ht
    obtain ⟨r, e1, e2, e3, e4, e5⟩ := ih ((body ++ [en]).length - i') (by omega) i' _ l k rfl hr
    obtain ⟨tc, c1, c2, _⟩ := fix_at he hq
    refine ⟨t :: r, by rw [e1, List.append_assoc]; rfl, fun j u hj => ?_, fun j hj => ?_, by simp only [List.length_cons]; omega, e5⟩
    ·cases j with
     | zero => simp at hj; subst hj; exact h1
     | succ j =>
      have := e2 j u (by simpa using hj)
      rw [show i + 1 + 2 * (j + 1) = i' + 1 + 2 * j from by omega]
      exact this
    ·cases j with
     | zero => exact ⟨tc, c1, c2⟩
     | succ j =>
      obtain ⟨u, u1, u2⟩ := e3 j (by simpa using hj)
      rw [show i + 2 * (j + 1) = i' + 2 * j from by omega]
      exact ⟨u, u1, u2⟩
  ·rename_i hq
   injection hr with hr
   injection hr with h1 h2
   subst h1 h2
   exact ⟨[], by simp, fun j t hj => by simp at hj, fun j hj => by simp at hj, by simp, hq⟩
end
end Go.Proofs.YtccikgogjfbpeaaGreatDoor
