/- What every token of a text is like, on: keywords and marks; the line of the end. -/
import Derived.Test.YtccikgogjfbpeabGreatDoorWQk
import Derived.Test.YtccikgogjfbpeabGreatDoorWQa
namespace Go.Proofs.YtccikgogjfbpeabGreatDoor
def lits : List ByteArray := [kwRoute, kwRule, kwBin, kwMcc, kwAmount, kwCur, kwDecline, kwCheapest, mSemi, mColon, mComma, mDots, mArrow]
def LitTk (t : Tk) : Prop := ∀ m, m ∈ lits -> isFix t m = (t.text.toList == m.toList)
theorem bAt_toList {a b : ByteArray} (h : (a.toList == b.toList) = true) (k : Nat) : bAt a k = bAt b k := by
 have e : a.toList = b.toList := by simpa using h
 rw [ByteArray.toList_eq, ByteArray.toList_eq] at e
 unfold bAt
 rw [e]
theorem isKwB_data (m : ByteArray) : isKwB m = kws.contains m.data.toList := by unfold isKwB; rw [ByteArray.toList_eq]
theorem lits_head0 : ∀ m, m ∈ lits -> (isSmallB (bAt m 0) = true /\ kws.contains m.data.toList = true) \/ (bAt m 0 = 59 \/ bAt m 0 = 58 \/ bAt m 0 = 44 \/ bAt m 0 = 46 \/ bAt m 0 = 45) := by decide
theorem lits_head (m : ByteArray) (h : m ∈ lits) : (isSmallB (bAt m 0) = true /\ isKwB m = true) \/ (bAt m 0 = 59 \/ bAt m 0 = 58 \/ bAt m 0 = 44 \/ bAt m 0 = 46 \/ bAt m 0 = 45) := by
 rw [isKwB_data]; exact lits_head0 m h
theorem isKwB_eq {a b : ByteArray} (h : (a.toList == b.toList) = true) : isKwB a = isKwB b := by
 have e : a.toList = b.toList := by simpa using h
 unfold isKwB
 rw [e]
theorem lit_of_sort2 (x : ByteArray) (l : Nat) : LitTk ⟨2, x, l⟩ := fun m _ => by simp [isFix]
theorem lit_of_name {x : ByteArray} {l : Nat} (h : isSmallB (bAt x 0) = true) (hk : isKwB x = false) : LitTk ⟨0, x, l⟩ := by
 intro m hm
 simp only [isFix]
 cases hq : (x.toList == m.toList) with
 | false => simp
 | true =>
  exfalso
  rcases lits_head m hm with ⟨_, h2⟩ | h2
  ·rw [<- isKwB_eq hq, hk] at h2; cases h2
  ·rw [<- bAt_toList hq 0] at h2
   simp [isSmallB] at h
   omega
theorem lit_of_int {x : ByteArray} {l : Nat} (h : isDigitB (bAt x 0) = true) : LitTk ⟨1, x, l⟩ := by
 intro m hm
 simp only [isFix]
 cases hq : (x.toList == m.toList) with
 | false => simp
 | true =>
  exfalso
  simp [isDigitB] at h
  rcases lits_head m hm with ⟨h2, _⟩ | h2
  ·rw [<- bAt_toList hq 0] at h2
   simp [isSmallB] at h2
   omega
  ·rw [<- bAt_toList hq 0] at h2
   omega
theorem bAt_extract0 (s : ByteArray) (k n : Nat) (h : 1 <= n) : bAt (s.extract k (k + n)) 0 = bAt s k := by
 rw [bAt_extract s k (k + n) 0 (by omega)]
 rfl
def TkLit (t : Tk) : Prop := LitTk t /\ (t.sort = 1 -> 1 <= t.text.size) /\ t.sort ≠ 3 /\ (t.sort = 0 -> t.text.size <= 8) /\ bAt t.text 0 ≠ 78 /\ bAt t.text 0 ≠ 73
theorem extract_size (s : ByteArray) (k n : Nat) (h : k + n <= s.size) : (s.extract k (k + n)).size = n := by
 rw [ByteArray.size_extract]; omega
theorem lexStep_lit {s : ByteArray} {k line k' : Nat} {t : Tk} (h : k < s.size) (hs : lexStep s k line = .tok t k') : TkLit t := by
 unfold lexStep at hs
 split at hs
 ·contradiction
 split at hs
 ·contradiction
 split at hs
 ·contradiction
 split at hs
 ·rename_i h4
  have hp := runAt_pos inWordB s k h (by simp [inWordB, h4])
  have hle := runAt_le inWordB s k (by omega)
  have hw : bAt (s.extract k (k + runAt inWordB s k)) 0 ≠ 78 /\ bAt (s.extract k (k + runAt inWordB s k)) 0 ≠ 73 := by
   rw [bAt_extract0 _ _ _ hp]
   simp [isSmallB] at h4
   omega
  split at hs
  ·injection hs with h1 h2; subst h1; exact ⟨lit_of_sort2 _ _, fun e => by simp at e, by simp, fun e => by simp at e, hw⟩
  split at hs
  ·contradiction
  ·rename_i hk h8
   injection hs with h1 h2; subst h1
   exact ⟨lit_of_name (by rw [bAt_extract0 _ _ _ hp]; exact h4) (by simpa using hk), fun e => by simp at e, by simp, fun _ => by show (s.extract _ _).size <= 8; rw [extract_size _ _ _ hle]; omega, hw⟩
 split at hs
 ·rename_i h5
  have hp := runAt_pos isDigitB s k h h5
  have hle := runAt_le isDigitB s k (by omega)
  split at hs
  ·contradiction
  ·injection hs with h1 h2
   subst h1
   exact ⟨lit_of_int (by rw [bAt_extract0 _ _ _ hp]; exact h5), fun _ => by show 1 <= (s.extract _ _).size; rw [extract_size _ _ _ hle]; exact hp, by simp, fun e => by simp at e, by show bAt (s.extract _ _) 0 ≠ 78 /\ _; rw [bAt_extract0 _ _ _ hp]; simp [isDigitB] at h5; omega⟩
 split at hs
 ·rename_i h6
  injection hs with h1 h2; subst h1
  exact ⟨lit_of_sort2 _ _, fun e => by simp at e, by simp, fun e => by simp at e, by show bAt (s.extract _ _) 0 ≠ 78 /\ _; rw [bAt_extract0 _ _ _ (by omega)]; omega⟩
 split at hs
 ·rename_i h7
  injection hs with h1 h2; subst h1
  simp only [Bool.or_eq_true] at h7
  exact ⟨lit_of_sort2 _ _, fun e => by simp at e, by simp, fun e => by simp at e, by
   show bAt (s.extract _ _) 0 ≠ 78 /\ _
   rw [bAt_extract0 _ _ _ (by omega)]
   simp [two] at h7
   omega⟩
 ·contradiction
def nls (l : List UInt8) : Nat := l.count 10
theorem nls_cons (c : UInt8) (r : List UInt8) : nls (c :: r) = nls r + (if (c.toNat : Int) = 10 then 1 else 0) := by
 unfold nls
 rw [List.count_cons]
 have e : (c == 10) = decide ((c.toNat : Int) = 10) := by
  rw [Bool.eq_iff_iff]
  simp only [beq_iff_eq, decide_eq_true_eq]
  rw [<- UInt8.toNat_inj]
  have : (10 : UInt8).toNat = 10 := rfl
  omega
 rw [e]
 simp
theorem nls_run (p : Int -> Bool) (hp : p 10 = false) : ∀ (l : List UInt8), nls (l.drop (runLen p l)) = nls l
 | [] => rfl
 | c :: r => by
  simp only [runLen]
  split
  ·rename_i hc
   rw [List.drop_succ_cons, nls_run p hp r, nls_cons, if_neg (fun e => by rw [e, hp] at hc; cases hc)]
   rfl
  ·rfl
theorem nls_runAt (p : Int -> Bool) (hp : p 10 = false) (s : ByteArray) (k : Nat) : nls (s.data.toList.drop (k + runAt p s k)) = nls (s.data.toList.drop k) := by
 unfold runAt
 rw [<- nls_run p hp (s.data.toList.drop k), List.drop_drop]
theorem nls_step (s : ByteArray) (k : Nat) (h : k < s.size) : nls (s.data.toList.drop k) = nls (s.data.toList.drop (k + 1)) + (if bAt s k = 10 then 1 else 0) := by
 rw [List.drop_eq_getElem_cons (by simpa using h), nls_cons, bAt_of s k h]
 rfl
theorem nls_other (s : ByteArray) (k : Nat) (h : k < s.size) (hb : bAt s k ≠ 10) : nls (s.data.toList.drop (k + 1)) = nls (s.data.toList.drop k) := by
 rw [nls_step s k h, if_neg hb]
 rfl
theorem lexStep_nls_skip {s : ByteArray} {k line k' l' : Nat} (h : k < s.size) (hs : lexStep s k line = .skip k' l') : l' + nls (s.data.toList.drop k') = line + nls (s.data.toList.drop k) := by
 unfold lexStep at hs
 split at hs
 ·rename_i h1
  injection hs with e1 e2; subst e1 e2
  rw [nls_step s k h, if_pos h1]
  omega
 split at hs
 ·rename_i h1 h2
  injection hs with e1 e2; subst e1 e2
  rw [nls_other s k h h1]
 split at hs
 ·injection hs with e1 e2; subst e1 e2
  rw [nls_runAt inRemarkB rfl]
 repeat' (split at hs)
 all_goals contradiction
theorem two_at {s : ByteArray} {k : Nat} {a b : Int} (h : two s k a b = true) : bAt s k = a /\ bAt s (k + 1) = b /\ k + 2 <= s.size := by
 simp [two] at h
 exact ⟨h.1.2, h.2, h.1.1⟩
theorem lexStep_nls_tok {s : ByteArray} {k line k' : Nat} {t : Tk} (h : k < s.size) (hs : lexStep s k line = .tok t k') : nls (s.data.toList.drop k') = nls (s.data.toList.drop k) := by
 unfold lexStep at hs
 split at hs
 ·contradiction
 rename_i hn
 split at hs
 ·contradiction
 split at hs
 ·contradiction
 split at hs
 ·split at hs
  ·injection hs with h1 h2; subst h2; exact nls_runAt inWordB rfl s k
  split at hs
  ·contradiction
  ·injection hs with h1 h2; subst h2; exact nls_runAt inWordB rfl s k
 split at hs
 ·split at hs
  ·contradiction
  ·injection hs with h1 h2; subst h2; exact nls_runAt isDigitB rfl s k
 split at hs
 ·injection hs with h1 h2; subst h2; exact nls_other s k h hn
 split at hs
 ·rename_i h7
  injection hs with h1 h2; subst h2
  simp only [Bool.or_eq_true] at h7
  have h8 : bAt s (k + 1) ≠ 10 /\ k + 2 <= s.size := by
   rcases h7 with h7 | h7
   ·have := two_at h7; omega
   ·have := two_at h7; omega
  rw [show k + 2 = (k + 1) + 1 from rfl, nls_other s (k + 1) (by omega) h8.1, nls_other s k h hn]
 ·contradiction
theorem lexFrom_lit {s : ByteArray} : ∀ (n k line : Nat) (acc ts : List Tk), s.size - k = n -> (∀ t, t ∈ acc -> TkLit t) -> lexFrom s k line acc = .ok ts ->
  ∃ body, ts = body ++ [⟨3, ByteArray.empty, line + nls (s.data.toList.drop k)⟩] /\ ∀ t, t ∈ body -> TkLit t := by
 intro n
 induction n using Nat.strongRecOn with
 | ind n ih =>
  intro k line acc ts hn hacc h
  by_cases hk : k < s.size
  ·cases hL : lexStep s k line with
   | skip k' l' =>
    rw [lexFrom_skip hk hL] at h
    have := lexStep_skip hk hL
    have hl := lexStep_nls_skip hk hL
    obtain ⟨body, e, hb⟩ := ih (s.size - k') (by omega) k' l' acc ts rfl hacc h
    exact ⟨body, by rw [e, hl], hb⟩
   | tok t k' =>
    rw [lexFrom_tok hk hL] at h
    have := lexStep_tok hk hL
    have hl := lexStep_nls_tok hk hL
    obtain ⟨body, e, hb⟩ := ih (s.size - k') (by omega) k' line (acc ++ [t]) ts rfl (fun u hu => by
     rcases List.mem_append.1 hu with hu | hu
     ·exact hacc u hu
     ·simp at hu; subst hu; exact lexStep_lit hk hL) h
    exact ⟨body, by rw [e, hl], hb⟩
   | bad => rw [lexFrom_bad hk hL] at h; cases h
  ·rw [lexFrom_end hk] at h
   injection h with h
   subst h
   refine ⟨acc, ?_, hacc⟩
   rw [List.drop_of_length_le (by simpa using hk)]
   rfl
end Go.Proofs.YtccikgogjfbpeabGreatDoor
