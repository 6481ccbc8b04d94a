/- Texts put together are read token by token; plain. Tokens of entries are parsed as those entries; plain. Texts of routes and rules, put together of words, are read as those; plain. Rules put together of words: what the book holds, and numbers as digits; plain. -/
import Derived.Test.YtccikgogjfbpeabGreatDoorWQl
import Derived.Test.YtccikgogjfbpeabGreatDoorWQm
namespace Go.Proofs.YtccikgogjfbpeabGreatDoor
abbrev bs (l : List UInt8) : ByteArray := ⟨l.toArray⟩
theorem bs_data (l : List UInt8) : (bs l).data.toList = l := rfl
theorem bs_size (l : List UInt8) : (bs l).size = l.length := rfl
theorem bs_toList (l : List UInt8) : (bs l).toList = l := by rw [ByteArray.toList_eq]
theorem bs_append (a b : List UInt8) : bs a ++ bs b = bs (a ++ b) := by
 apply ByteArray.ext
 rw [ByteArray.data_append]
 simp
theorem bs_mid (pre w l : List UInt8) : (bs (pre ++ (w ++ l))).extract pre.length (pre.length + w.length) = bs w := by
 apply ByteArray.ext
 apply Array.toList_inj.1
 rw [Lib.extract_data]
 simp
theorem bAt_mid (pre : List UInt8) (c : UInt8) (l : List UInt8) : bAt (bs (pre ++ c :: l)) pre.length = (c.toNat : Int) := by
 unfold bAt
 rw [bs_data]
 simp
theorem bAt_mid1 (pre : List UInt8) (b c : UInt8) (l : List UInt8) : bAt (bs (pre ++ b :: c :: l)) (pre.length + 1) = (c.toNat : Int) := by
 have := bAt_mid (pre ++ [b]) c l
 simpa using this
theorem runAt_mid (p : Int -> Bool) (pre l : List UInt8) : runAt p (bs (pre ++ l)) pre.length = runLen p l := by
 unfold runAt
 rw [bs_data]
 simp
def Stops (p : Int -> Bool) : List UInt8 -> Prop
 | [] => True
 | c :: _ => p (c.toNat : Int) = false
theorem runLen_app (p : Int -> Bool) {l : List UInt8} (hl : Stops p l) : ∀ (w : List UInt8), (∀ c, c ∈ w -> p (c.toNat : Int) = true) -> runLen p (w ++ l) = w.length
 | [], _ => by
  cases l with
  | nil => rfl
  | cons c r => simp only [List.nil_append, runLen, List.length_nil]; rw [if_neg (by rw [hl]; decide)]
 | c :: w, h => by
  simp only [List.cons_append, runLen, List.length_cons]
  rw [if_pos (h c (by simp)), runLen_app p hl w (fun x hx => h x (by simp [hx]))]
def LexL (l : List UInt8) (line : Nat) (ts : List Tk) : Prop := ∀ (pre : List UInt8) (acc : List Tk), lexFrom (bs (pre ++ l)) pre.length line acc = .ok (acc ++ ts)
theorem lexL_nil (line : Nat) : LexL [] line [⟨3, ByteArray.empty, line⟩] := by
 intro pre acc
 rw [lexFrom, dif_neg (by simp [bs_size])]
theorem lexL_blank {l : List UInt8} {line : Nat} {ts : List Tk} (h : LexL l line ts) : LexL (32 :: l) line ts := by
 intro pre acc
 have e := bAt_mid pre 32 l
 rw [lexFrom_skip (k' := pre.length + 1) (l' := line) (by simp [bs_size]) (by unfold lexStep; rw [e]; rfl)]
 have := h (pre ++ [32]) acc
 simpa using this
theorem lexL_nl {l : List UInt8} {line : Nat} {ts : List Tk} (h : LexL l (line + 1) ts) : LexL (10 :: l) line ts := by
 intro pre acc
 have e := bAt_mid pre 10 l
 rw [lexFrom_skip (k' := pre.length + 1) (l' := line + 1) (by simp [bs_size]) (by unfold lexStep; rw [e]; rfl)]
 have := h (pre ++ [10]) acc
 simpa using this
theorem lexL_tok {w l : List UInt8} {line : Nat} {ts : List Tk} {t : Tk} (hw : w ≠ []) (h : LexL l line ts) (hs : ∀ pre, lexStep (bs (pre ++ (w ++ l))) pre.length line = .tok t (pre.length + w.length)) : LexL (w ++ l) line (t :: ts) := by
 intro pre acc
 have : 0 < w.length := List.length_pos_iff.2 hw
 rw [lexFrom_tok (by simp [bs_size]; omega) (hs pre)]
 have := h (pre ++ w) (acc ++ [t])
 simpa using this
theorem isSmallB_not {c : Int} (h : isSmallB c = true) : c ≠ 10 /\ ¬ (c = 32 \/ c = 9) /\ c ≠ 35 := by
 unfold isSmallB at h
 have := of_decide_eq_true h
 omega
theorem isDigitB_not {c : Int} (h : isDigitB c = true) : c ≠ 10 /\ ¬ (c = 32 \/ c = 9) /\ c ≠ 35 /\ isSmallB c = false := by
 unfold isDigitB at h
 have := of_decide_eq_true h
 refine ⟨by omega, by omega, by omega, ?_⟩
 unfold isSmallB
 exact decide_eq_false (by omega)
theorem lexL_kw {c : UInt8} {w l : List UInt8} {line : Nat} {ts : List Tk} (hc : isSmallB (c.toNat : Int) = true) (hw : ∀ x, x ∈ c :: w -> inWordB (x.toNat : Int) = true) (hk : kws.contains (c :: w) = true) (hl : Stops inWordB l) (h : LexL l line ts) : LexL ((c :: w) ++ l) line (⟨2, bs (c :: w), line⟩ :: ts) := by
 refine lexL_tok (by simp) h fun pre => ?_
 have e : bAt (bs (pre ++ ((c :: w) ++ l))) pre.length = (c.toNat : Int) := bAt_mid pre c (w ++ l)
 have r : runAt inWordB (bs (pre ++ ((c :: w) ++ l))) pre.length = (c :: w).length := by rw [runAt_mid, runLen_app _ hl _ hw]
 obtain ⟨h1, h2, h3⟩ := isSmallB_not hc
 unfold lexStep
 rw [e, if_neg h1, if_neg h2, if_neg h3, if_pos hc, r, bs_mid, if_pos (by unfold isKwB; rw [bs_toList]; exact hk)]
theorem lexL_name {c : UInt8} {w l : List UInt8} {line : Nat} {ts : List Tk} (hc : isSmallB (c.toNat : Int) = true) (hw : ∀ x, x ∈ c :: w -> inWordB (x.toNat : Int) = true) (hk : kws.contains (c :: w) = false) (h8 : (c :: w).length <= 8) (hl : Stops inWordB l) (h : LexL l line ts) : LexL ((c :: w) ++ l) line (⟨0, bs (c :: w), line⟩ :: ts) := by
 refine lexL_tok (by simp) h fun pre => ?_
 have e : bAt (bs (pre ++ ((c :: w) ++ l))) pre.length = (c.toNat : Int) := bAt_mid pre c (w ++ l)
 have r : runAt inWordB (bs (pre ++ ((c :: w) ++ l))) pre.length = (c :: w).length := by rw [runAt_mid, runLen_app _ hl _ hw]
 obtain ⟨h1, h2, h3⟩ := isSmallB_not hc
 unfold lexStep
 rw [e, if_neg h1, if_neg h2, if_neg h3, if_pos hc, r, bs_mid, if_neg (by unfold isKwB; rw [bs_toList, hk]; decide), if_neg (by omega)]
theorem lexL_num {w l : List UInt8} {line : Nat} {ts : List Tk} (hn : w ≠ []) (hw : ∀ x, x ∈ w -> isDigitB (x.toNat : Int) = true) (h9 : w.length <= 9) (hl : Stops isDigitB l) (h : LexL l line ts) : LexL (w ++ l) line (⟨1, bs w, line⟩ :: ts) := by
 refine lexL_tok hn h fun pre => ?_
 obtain ⟨c, v, rfl⟩ := List.exists_cons_of_ne_nil hn
 have e : bAt (bs (pre ++ ((c :: v) ++ l))) pre.length = (c.toNat : Int) := bAt_mid pre c (v ++ l)
 have r : runAt isDigitB (bs (pre ++ ((c :: v) ++ l))) pre.length = (c :: v).length := by rw [runAt_mid, runLen_app _ hl _ hw]
 have hc := hw c (by simp)
 obtain ⟨h1, h2, h3, h4⟩ := isDigitB_not hc
 unfold lexStep
 rw [e, if_neg h1, if_neg h2, if_neg h3, h4, if_neg (by decide), if_pos hc, r, bs_mid, if_neg (by omega)]
theorem lexL_sign {c : UInt8} {l : List UInt8} {line : Nat} {ts : List Tk} (hc : c = 59 \/ c = 58 \/ c = 44) (h : LexL l line ts) : LexL (c :: l) line (⟨2, bs [c], line⟩ :: ts) := by
 refine lexL_tok (w := [c]) (by simp) h fun pre => ?_
 have e : bAt (bs (pre ++ ([c] ++ l))) pre.length = (c.toNat : Int) := bAt_mid pre c l
 have x := bs_mid pre [c] l
 unfold lexStep
 rw [e]
 rcases hc with rfl | rfl | rfl <;> (simp only [List.length_singleton] at x; rw [x]; rfl)
theorem lexL_two {a b : UInt8} {l : List UInt8} {line : Nat} {ts : List Tk} (hc : (a = 46 /\ b = 46) \/ (a = 45 /\ b = 62)) (h : LexL l line ts) : LexL (a :: b :: l) line (⟨2, bs [a, b], line⟩ :: ts) := by
 refine lexL_tok (w := [a, b]) (by simp) h fun pre => ?_
 have e : bAt (bs (pre ++ ([a, b] ++ l))) pre.length = (a.toNat : Int) := bAt_mid pre a (b :: l)
 have e1 : bAt (bs (pre ++ ([a, b] ++ l))) (pre.length + 1) = (b.toNat : Int) := bAt_mid1 pre a b l
 have x := bs_mid pre [a, b] l
 have z : pre.length + 2 <= (bs (pre ++ ([a, b] ++ l))).size := by simp [bs_size]
 unfold lexStep two
 rw [e, e1, decide_eq_true z]
 rcases hc with ⟨rfl, rfl⟩ | ⟨rfl, rfl⟩ <;> (simp only [List.length_cons, List.length_nil, Nat.zero_add, Nat.reduceAdd] at x; rw [x]; rfl)
end Go.Proofs.YtccikgogjfbpeabGreatDoor

namespace Go.Proofs.YtccikgogjfbpeabGreatDoor
def At (ts : List Tk) (i : Nat) (l : List Tk) : Prop := ts.drop i = l
theorem At.step {ts : List Tk} {i : Nat} {t : Tk} {l : List Tk} (h : At ts i (t :: l)) : tkAt ts i = t /\ At ts (i + 1) l := by
 unfold At at *
 have hg : ts[i]? = some t := by
  have := congrArg (·[0]?) h
  simpa using this
 refine ⟨?_, ?_⟩
 ·unfold tkAt
  rw [List.getD_eq_getElem?_getD, hg]
  rfl
 ·rw [<- List.drop_drop, h]
  rfl
theorem At.more {ts : List Tk} {i : Nat} {a l : List Tk} (h : At ts i (a ++ l)) : At ts (i + a.length) l := by
 unfold At at *
 rw [<- List.drop_drop, h]
 simp
theorem takeK {ts : List Tk} {i want : Nat} {t : Tk} {l : List Tk} (h : At ts i (t :: l)) (hs : t.sort = want) : takeM ts i want = .ok (t, i + 1) := by
 unfold takeM
 rw [h.step.1, if_pos hs]
theorem expectK {ts : List Tk} {i : Nat} {m : ByteArray} {t : Tk} {l : List Tk} (h : At ts i (t :: l)) (hs : isFix t m = true) : expectM ts i m = .ok ((), i + 1) := by
 unfold expectM
 rw [h.step.1, if_pos hs]
def kt (m : ByteArray) (line : Nat) : Tk := ⟨2, m, line⟩
theorem isFix_kt (m : ByteArray) (line : Nat) : isFix (kt m line) m = true := by simp [isFix, kt]
theorem isFix_sort {t : Tk} {m : ByteArray} (h : t.sort ≠ 2) : isFix t m = false := by simp [isFix, h]
theorem isFix_other {a m : ByteArray} {line : Nat} (h : (a.data.toList == m.data.toList) = false) : isFix (kt a line) m = false := by
 unfold isFix kt
 rw [ByteArray.toList_eq, ByteArray.toList_eq, h]
 simp
theorem pairK {ts : List Tk} {i : Nat} {a b : Tk} {line : Nat} {l : List Tk} (h : At ts i (a :: kt mDots line :: b :: l)) (ha : a.sort = 1) (hb : b.sort = 1) : pairM ts i = .ok ((a, b), i + 3) := by
 have h1 := h.step.2
 have h2 := h1.step.2
 unfold pairM
 rw [takeK h ha]
 dsimp only
 rw [expectK h1 (isFix_kt _ _)]
 dsimp only
 rw [takeK h2 hb]
def moreT (line : Nat) (l : List Tk) : List Tk := l.flatMap fun t => [kt mComma line, t]
theorem moreT_length (line : Nat) (l : List Tk) : (moreT line l).length = 2 * l.length := by
 induction l with
 | nil => rfl
 | cons t r ih => simp [moreT, List.flatMap_cons] at *; omega
def NoFix (m : ByteArray) : List Tk -> Prop
 | [] => False
 | t :: _ => isFix t m = false
theorem restK {want line : Nat} {r : List Tk} (hr : NoFix mComma r) : ∀ (l : List Tk) (ts : List Tk) (i : Nat) (acc : List Tk), At ts i (moreT line l ++ r) -> (∀ t, t ∈ l -> t.sort = want) -> restM ts i want acc = .ok (acc ++ l, i + 2 * l.length)
 | [], ts, i, acc, h, _ => by
  cases r with
  | nil => exact hr.elim
  | cons t r =>
   have h : At ts i (t :: r) := h
   have hr : isFix t mComma = false := hr
   rw [restM, dif_neg (by rw [h.step.1, hr]; decide)]
   simp
 | t :: l, ts, i, acc, h, hs => by
  have h : At ts i (kt mComma line :: t :: (moreT line l ++ r)) := h
  have h1 := h.step.2
  have h2 := h1.step.2
  have ih := restK hr l ts (i + 1 + 1) (acc ++ [t]) h2 (fun x hx => hs x (by simp [hx]))
  have ht := takeK h1 (hs t (by simp))
  rw [restM, dif_pos (by rw [h.step.1]; exact isFix_kt _ _)]
  split
  ·rename_i e; rw [ht] at e; cases e
  ·rename_i e
   rw [ht] at e
   injection e with e
   injection e with e1 e2
   subst e1 e2
   rw [ih]
   simp
   omega
def listT (line : Nat) : List Tk -> List Tk
 | [] => []
 | t :: r => t :: moreT line r
theorem listK {want line : Nat} {r : List Tk} (hr : NoFix mComma r) {t : Tk} {l : List Tk} {ts : List Tk} {i : Nat} (h : At ts i (listT line (t :: l) ++ r)) (hs : ∀ x, x ∈ t :: l -> x.sort = want) : listM ts i want = .ok (t :: l, i + (listT line (t :: l)).length) := by
 have h : At ts i (t :: (moreT line l ++ r)) := h
 unfold listM
 rw [takeK h (hs t (by simp))]
 dsimp only
 rw [restK hr l ts (i + 1) [t] h.step.2 (fun x hx => hs x (by simp [hx]))]
 simp [listT, moreT_length]
 omega
def gdT (kw : ByteArray) (line : Nat) (l : List Tk) : List Tk := if l = [] then [] else kt kw line :: listT line l
def amT (line : Nat) : Option (Tk × Tk) -> List Tk
 | none => []
 | some ab => [kt kwAmount line, ab.1, kt mDots line, ab.2]
def acT (line : Nat) (a : ActE) : List Tk := if a.decline then [kt kwDecline line] else (if a.cheapest then [kt kwCheapest line] else []) ++ listT line a.routes
theorem optListK {kw : ByteArray} {line : Nat} {l r : List Tk} (hk : NoFix kw r) (hr : NoFix mComma r) {ts : List Tk} {i : Nat} (h : At ts i (gdT kw line l ++ r)) (hs : ∀ x, x ∈ l -> x.sort = 1) : optList ts i kw = .ok (l, i + (gdT kw line l).length) := by
 unfold optList
 cases l with
 | nil =>
  cases r with
  | nil => exact hr.elim
  | cons t r =>
   have h : At ts i (t :: r) := h
   have hk : isFix t kw = false := hk
   rw [h.step.1, if_neg (by rw [hk]; decide)]
   simp [gdT]
 | cons t l =>
  have h : At ts i (kt kw line :: (listT line (t :: l) ++ r)) := by simpa [gdT] using h
  rw [h.step.1, if_pos (isFix_kt _ _), listK hr h.step.2 hs]
  simp [gdT]
  omega
theorem optPairK {line : Nat} {o : Option (Tk × Tk)} {r : List Tk} (hk : NoFix kwAmount r) {ts : List Tk} {i : Nat} (h : At ts i (amT line o ++ r)) (hs : ∀ ab, o = some ab -> ab.1.sort = 1 /\ ab.2.sort = 1) : optPair ts i kwAmount = .ok (o, i + (amT line o).length) := by
 unfold optPair
 cases o with
 | none =>
  cases r with
  | nil => exact hk.elim
  | cons t r =>
   have h : At ts i (t :: r) := h
   have hk : isFix t kwAmount = false := hk
   rw [h.step.1, if_neg (by rw [hk]; decide)]
   simp [amT]
 | some ab =>
  have h : At ts i (kt kwAmount line :: ab.1 :: kt mDots line :: ab.2 :: r) := h
  rw [h.step.1, if_pos (isFix_kt _ _), bindM_ok (pairK h.step.2 (hs ab rfl).1 (hs ab rfl).2)]
  simp [amT]
theorem actionK {line : Nat} {a : ActE} {r : List Tk} (hr : NoFix mComma r) {ts : List Tk} {i : Nat} (h : At ts i (acT line a ++ r)) (ha : a = ⟨true, false, []⟩ \/ (a.decline = false /\ a.routes ≠ [] /\ ∀ t, t ∈ a.routes -> t.sort = 0)) : actionM ts i = .ok (a, i + (acT line a).length) := by
 unfold actionM
 rcases ha with rfl | ⟨hd, hn, hs⟩
 ·have h : At ts i (kt kwDecline line :: r) := h
  rw [h.step.1, if_pos (isFix_kt _ _)]
  rfl
 ·obtain ⟨d, ch, rs⟩ := a
  dsimp only at hd hn hs
  subst hd
  obtain ⟨t, l, rfl⟩ := List.exists_cons_of_ne_nil hn
  cases ch with
  | true =>
   have h : At ts i (kt kwCheapest line :: (listT line (t :: l) ++ r)) := h
   rw [h.step.1, isFix_other (by decide), isFix_kt, if_neg (by decide), if_pos rfl, bindM_ok (listK hr h.step.2 hs)]
   simp [acT]
   omega
  | false =>
   have h' : At ts i (t :: (moreT line l ++ r)) := h
   have h : At ts i (listT line (t :: l) ++ r) := h
   have h0 := hs t (by simp)
   rw [h'.step.1, isFix_sort (by omega), isFix_sort (by omega), if_neg (by decide), if_neg (by decide), bindM_ok (listK hr h hs)]
   simp [acT]
structure RuT (r : RuleE) : Prop where
 nm : r.name.sort = 0
 rk : r.rank.sort = 1
 bn : r.bin.1.sort = 1 /\ r.bin.2.sort = 1
 mc : ∀ t, t ∈ r.mcc -> t.sort = 1
 am : ∀ ab, r.amount = some ab -> ab.1.sort = 1 /\ ab.2.sort = 1
 cu : ∀ t, t ∈ r.cur -> t.sort = 1
 ac : r.act = ⟨true, false, []⟩ \/ (r.act.decline = false /\ r.act.routes ≠ [] /\ ∀ t, t ∈ r.act.routes -> t.sort = 0)
def ruT (line : Nat) (r : RuleE) : List Tk :=
 kt kwRule line :: r.name :: r.rank :: kt mColon line :: kt kwBin line :: r.bin.1 :: kt mDots line :: r.bin.2 :: (gdT kwMcc line r.mcc ++ (amT line r.amount ++ (gdT kwCur line r.cur ++ (kt mArrow line :: acT line r.act))))
def rtT (line : Nat) (r : RouteE) : List Tk := [kt kwRoute line, r.name, r.base, r.rate]
theorem noFix_gd {kw m : ByteArray} {line : Nat} {l r : List Tk} (h : NoFix m r) (h1 : (kw.data.toList == m.data.toList) = false) : NoFix m (gdT kw line l ++ r) := by
 unfold gdT
 split
 ·exact h
 ·exact isFix_other h1
theorem noFix_am {m : ByteArray} {line : Nat} {o : Option (Tk × Tk)} {r : List Tk} (h : NoFix m r) (h1 : (kwAmount.data.toList == m.data.toList) = false) : NoFix m (amT line o ++ r) := by
 cases o with
 | none => exact h
 | some ab => exact isFix_other h1
theorem ruleK {line : Nat} {r : RuleE} {l : List Tk} (hl : NoFix mComma l) {ts : List Tk} {i : Nat} (h : At ts i (ruT line r ++ l)) (hr : RuT r) : entryM ts i = .ok (.rule r, i + (ruT line r).length) := by
 obtain ⟨nm, rk, bn, mcc, am, cur, act⟩ := r
 have h0 : At ts i (kt kwRule line :: nm :: rk :: kt mColon line :: kt kwBin line :: bn.1 :: kt mDots line :: bn.2 :: (gdT kwMcc line mcc ++ (amT line am ++ (gdT kwCur line cur ++ (kt mArrow line :: (acT line act ++ l)))))) := by
  simpa [ruT] using h
 have h1 := h0.step.2
 have h2 := h1.step.2
 have h3 := h2.step.2
 have h4 := h3.step.2
 have h5 := h4.step.2
 have h8 := h5.step.2.step.2.step.2
 have h9 := h8.more
 have h10 := h9.more
 have h11 := h10.more
 have h12 := h11.step.2
 have n1 : ∀ m : ByteArray, (mArrow.data.toList == m.data.toList) = false -> NoFix m (kt mArrow line :: (acT line act ++ l)) := fun m hm => isFix_other hm
 unfold entryM
 rw [h0.step.1, isFix_other (by decide), if_neg (by decide), bindM_ok (expectK h0 (isFix_kt _ _))]
 unfold ruleM
 rw [bindM_ok (r := bindM (takeM ts (i + 1) 0) _) (a := (⟨nm, rk, bn, mcc, am, cur, act⟩ : RuleE)) (i := i + (ruT line ⟨nm, rk, bn, mcc, am, cur, act⟩).length)]
 rw [bindM_ok (takeK h1 hr.nm), bindM_ok (takeK h2 hr.rk), bindM_ok (expectK h3 (isFix_kt _ _)), bindM_ok (expectK h4 (isFix_kt _ _)), bindM_ok (pairK h5 hr.bn.1 hr.bn.2)]
 rw [bindM_ok (optListK (noFix_am (noFix_gd (n1 _ (by decide)) (by decide)) (by decide)) (noFix_am (noFix_gd (n1 _ (by decide)) (by decide)) (by decide)) h8 hr.mc)]
 rw [bindM_ok (optPairK (noFix_gd (n1 _ (by decide)) (by decide)) h9 hr.am)]
 rw [bindM_ok (optListK (n1 _ (by decide)) (n1 _ (by decide)) h10 hr.cu)]
 rw [bindM_ok (expectK h11 (isFix_kt _ _)), bindM_ok (actionK hl h12 hr.ac)]
 simp [ruT]
 omega
theorem routeK {line : Nat} {r : RouteE} {l : List Tk} {ts : List Tk} {i : Nat} (h : At ts i (rtT line r ++ l)) (hr : r.name.sort = 0 /\ r.base.sort = 1 /\ r.rate.sort = 1) : entryM ts i = .ok (.route r, i + (rtT line r).length) := by
 obtain ⟨nm, b, c⟩ := r
 have h0 : At ts i (kt kwRoute line :: nm :: b :: c :: l) := h
 have h1 := h0.step.2
 have h2 := h1.step.2
 have h3 := h2.step.2
 unfold entryM
 rw [h0.step.1, if_pos (isFix_kt _ _)]
 unfold routeM
 rw [bindM_ok (r := bindM (takeM ts (i + 1) 0) _) (a := (⟨nm, b, c⟩ : RouteE)) (i := i + 4)]
 ·rfl
 rw [bindM_ok (takeK h1 hr.1), bindM_ok (takeK h2 hr.2.1), bindM_ok (takeK h3 hr.2.2)]
def PrL (l : List Tk) (xs : List EntE) : Prop := ∀ (ts : List Tk) (i : Nat) (acc : List EntE), At ts i l -> ∃ k, parseFrom ts i acc = .ok (acc ++ xs, k)
theorem prL_end (line : Nat) : PrL [⟨3, ByteArray.empty, line⟩] [] := by
 intro ts i acc h
 exact ⟨i, by rw [parseFrom_end (by rw [h.step.1]), List.append_nil]⟩
theorem prL_ent {e : EntE} {tk l : List Tk} {line : Nat} {xs : List EntE} (hl : PrL l xs) (h3 : ∀ ts i, At ts i (tk ++ (kt mSemi line :: l)) -> entryM ts i = .ok (e, i + tk.length) /\ (tkAt ts i).sort ≠ 3) : PrL (tk ++ (kt mSemi line :: l)) (e :: xs) := by
 intro ts i acc h
 obtain ⟨he, hs⟩ := h3 ts i h
 have h' := h.more
 obtain ⟨k, hk⟩ := hl ts (i + tk.length + 1) (acc ++ [e]) h'.step.2
 exact ⟨k, by rw [parseFrom_ok hs he (expectK h' (isFix_kt _ _)), hk]; simp⟩
theorem prL_rule {r : RuleE} {l : List Tk} {line : Nat} {xs : List EntE} (hr : RuT r) (hl : PrL l xs) : PrL (ruT line r ++ (kt mSemi line :: l)) (.rule r :: xs) :=
 prL_ent hl fun ts i h => ⟨ruleK (l := kt mSemi line :: l) (show isFix (kt mSemi line) mComma = false from isFix_other (by decide)) h hr, by
  have h : At ts i (kt kwRule line :: _) := h
  rw [h.step.1]; simp [kt]⟩
theorem prL_route {r : RouteE} {l : List Tk} {line : Nat} {xs : List EntE} (hr : r.name.sort = 0 /\ r.base.sort = 1 /\ r.rate.sort = 1) (hl : PrL l xs) : PrL (rtT line r ++ (kt mSemi line :: l)) (.route r :: xs) :=
 prL_ent hl fun ts i h => ⟨routeK h hr, by
  have h : At ts i (kt kwRoute line :: _) := h
  rw [h.step.1]; simp [kt]⟩
def TxL (l : List UInt8) (line : Nat) (xs : List EntE) : Prop := ∃ ts, LexL l line ts /\ PrL ts xs
end Go.Proofs.YtccikgogjfbpeabGreatDoor

namespace Go.Proofs.YtccikgogjfbpeabGreatDoor
def DgL (w : List UInt8) : Prop := w ≠ [] /\ w.length <= 9 /\ ∀ x, x ∈ w -> isDigitB (x.toNat : Int) = true
def NmL (w : List UInt8) : Prop := (∃ c v, w = c :: v /\ isSmallB (c.toNat : Int) = true) /\ (∀ x, x ∈ w -> inWordB (x.toNat : Int) = true) /\ kws.contains w = false /\ w.length <= 8
def nT (w : List UInt8) (line : Nat) : Tk := ⟨0, bs w, line⟩
def dT (w : List UInt8) (line : Nat) : Tk := ⟨1, bs w, line⟩
theorem lexL_nm {w l : List UInt8} {line : Nat} {ts : List Tk} (hw : NmL w) (hl : Stops inWordB l) (h : LexL l line ts) : LexL (w ++ l) line (nT w line :: ts) := by
 obtain ⟨⟨c, v, rfl, hc⟩, h2, h3, h4⟩ := hw
 exact lexL_name hc h2 h3 h4 hl h
theorem lexL_dg {w l : List UInt8} {line : Nat} {ts : List Tk} (hw : DgL w) (hl : Stops isDigitB l) (h : LexL l line ts) : LexL (w ++ l) line (dT w line :: ts) := lexL_num hw.1 hw.2.2 hw.2.1 hl h
def commaX : List (List UInt8) -> List UInt8
 | [] => []
 | [w] => w
 | w :: v :: r => w ++ (44 :: 32 :: commaX (v :: r))
theorem commaX_dg {l : List UInt8} {line : Nat} {ts : List Tk} (hl : Stops isDigitB l) (h : LexL l line ts) : ∀ (ws : List (List UInt8)), (∀ w, w ∈ ws -> DgL w) -> LexL (commaX ws ++ l) line (listT line (ws.map fun w => dT w line) ++ ts)
 | [], _ => h
 | [w], hw => lexL_dg (hw w (by simp)) hl h
 | w :: v :: r, hw => by
  have ih := commaX_dg hl h (v :: r) (fun x hx => hw x (by simp [hx]))
  have := lexL_dg (hw w (by simp)) (l := 44 :: 32 :: (commaX (v :: r) ++ l)) (show isDigitB _ = false from by decide) (lexL_sign (.inr (.inr rfl)) (lexL_blank ih))
  simpa [commaX, listT, moreT, List.flatMap_cons, kt, mComma] using this
theorem commaX_nm {l : List UInt8} {line : Nat} {ts : List Tk} (hl : Stops inWordB l) (h : LexL l line ts) : ∀ (ws : List (List UInt8)), (∀ w, w ∈ ws -> NmL w) -> LexL (commaX ws ++ l) line (listT line (ws.map fun w => nT w line) ++ ts)
 | [], _ => h
 | [w], hw => lexL_nm (hw w (by simp)) hl h
 | w :: v :: r, hw => by
  have ih := commaX_nm hl h (v :: r) (fun x hx => hw x (by simp [hx]))
  have := lexL_nm (hw w (by simp)) (l := 44 :: 32 :: (commaX (v :: r) ++ l)) (show inWordB _ = false from by decide) (lexL_sign (.inr (.inr rfl)) (lexL_blank ih))
  simpa [commaX, listT, moreT, List.flatMap_cons, kt, mComma] using this
theorem lexL_word {m : ByteArray} {l : List UInt8} {line : Nat} {ts : List Tk} (hm : m ∈ [kwRoute, kwRule, kwBin, kwMcc, kwAmount, kwCur, kwDecline, kwCheapest]) (hl : Stops inWordB l) (h : LexL l line ts) : LexL (m.data.toList ++ l) line (kt m line :: ts) := by
 simp only [List.mem_cons, List.not_mem_nil, or_false] at hm
 rcases hm with rfl | rfl | rfl | rfl | rfl | rfl | rfl | rfl <;> exact lexL_kw (by decide) (by decide) (by decide) hl h
theorem lexL_dgc {w l : List UInt8} {c : UInt8} {line : Nat} {ts : List Tk} (hw : DgL w) (h : LexL (c :: l) line ts) (hc : isDigitB (c.toNat : Int) = false := by decide) : LexL (w ++ c :: l) line (dT w line :: ts) := lexL_dg hw hc h
theorem lexL_nmc {w l : List UInt8} {c : UInt8} {line : Nat} {ts : List Tk} (hw : NmL w) (h : LexL (c :: l) line ts) (hc : inWordB (c.toNat : Int) = false := by decide) : LexL (w ++ c :: l) line (nT w line :: ts) := lexL_nm hw hc h
theorem lexL_wordc {m : ByteArray} {l : List UInt8} {c : UInt8} {line : Nat} {ts : List Tk} (hm : m ∈ [kwRoute, kwRule, kwBin, kwMcc, kwAmount, kwCur, kwDecline, kwCheapest]) (h : LexL (c :: l) line ts) (hc : inWordB (c.toNat : Int) = false := by decide) : LexL (m.data.toList ++ c :: l) line (kt m line :: ts) := lexL_word hm hc h
def gdX (kw : ByteArray) (ws : List (List UInt8)) : List UInt8 := if ws = [] then [] else 32 :: (kw.data.toList ++ (32 :: commaX ws))
def amX : Option (List UInt8 × List UInt8) -> List UInt8
 | none => []
 | some ab => 32 :: (kwAmount.data.toList ++ (32 :: (ab.1 ++ (46 :: 46 :: ab.2))))
theorem gdX_lex {kw : ByteArray} (hk : kw ∈ [kwRoute, kwRule, kwBin, kwMcc, kwAmount, kwCur, kwDecline, kwCheapest]) {l : List UInt8} {line : Nat} {ts : List Tk} (hl : Stops isDigitB l) (h : LexL l line ts) {ws : List (List UInt8)} (hw : ∀ w, w ∈ ws -> DgL w) : LexL (gdX kw ws ++ l) line (gdT kw line (ws.map fun w => dT w line) ++ ts) := by
 cases ws with
 | nil => exact h
 | cons w r =>
  have := lexL_blank (lexL_word hk (l := 32 :: (commaX (w :: r) ++ l)) (show inWordB _ = false from by decide) (lexL_blank (commaX_dg hl h (w :: r) hw)))
  simpa [gdX, gdT] using this
theorem amX_lex {l : List UInt8} {line : Nat} {ts : List Tk} (hl : Stops isDigitB l) (h : LexL l line ts) {o : Option (List UInt8 × List UInt8)} (ho : ∀ ab, o = some ab -> DgL ab.1 /\ DgL ab.2) : LexL (amX o ++ l) line (amT line (o.map fun ab => (dT ab.1 line, dT ab.2 line)) ++ ts) := by
 cases o with
 | none => exact h
 | some ab =>
  obtain ⟨h1, h2⟩ := ho ab rfl
  have := lexL_blank (lexL_word (m := kwAmount) (by simp) (l := 32 :: (ab.1 ++ (46 :: 46 :: (ab.2 ++ l)))) (show inWordB _ = false from by decide) (lexL_blank (lexL_dg h1 (l := 46 :: 46 :: (ab.2 ++ l)) (show isDigitB _ = false from by decide) (lexL_two (.inl ⟨rfl, rfl⟩) (lexL_dg h2 hl h)))))
  simpa [amX, amT, kt, mDots] using this
theorem stops_gd {kw : ByteArray} {ws : List (List UInt8)} {l : List UInt8} (h : Stops isDigitB l) : Stops isDigitB (gdX kw ws ++ l) := by
 unfold gdX
 split
 ·exact h
 ·exact (show isDigitB _ = false from by decide)
theorem stops_am {o : Option (List UInt8 × List UInt8)} {l : List UInt8} (h : Stops isDigitB l) : Stops isDigitB (amX o ++ l) := by
 cases o with
 | none => exact h
 | some ab => exact (show isDigitB _ = false from by decide)
structure RuX where
 nm : List UInt8
 rk : List UInt8
 lo : List UInt8
 hi : List UInt8
 mcc : List (List UInt8)
 am : Option (List UInt8 × List UInt8)
 cur : List (List UInt8)
 dec : Bool
 ch : Bool
 rts : List (List UInt8)
structure RuX.Ok (r : RuX) : Prop where
 nm : NmL r.nm
 rk : DgL r.rk
 lo : DgL r.lo
 hi : DgL r.hi
 mcc : ∀ w, w ∈ r.mcc -> DgL w
 am : ∀ ab, r.am = some ab -> DgL ab.1 /\ DgL ab.2
 cur : ∀ w, w ∈ r.cur -> DgL w
 rts : ∀ w, w ∈ r.rts -> NmL w
 ac : (r.dec = true /\ r.ch = false /\ r.rts = []) \/ (r.dec = false /\ r.rts ≠ [])
def RuX.ent (r : RuX) (line : Nat) : RuleE :=
 ⟨nT r.nm line, dT r.rk line, (dT r.lo line, dT r.hi line), r.mcc.map fun w => dT w line, r.am.map fun ab => (dT ab.1 line, dT ab.2 line), r.cur.map fun w => dT w line, ⟨r.dec, r.ch, r.rts.map fun w => nT w line⟩⟩
def acX (r : RuX) : List UInt8 := if r.dec then kwDecline.data.toList else (if r.ch then kwCheapest.data.toList ++ [32] else []) ++ commaX r.rts
def gX (r : RuX) : List UInt8 := [98, 105, 110, 32] ++ (r.lo ++ (46 :: 46 :: (r.hi ++ (gdX kwMcc r.mcc ++ (amX r.am ++ gdX kwCur r.cur)))))
def RuX.text (r : RuX) : List UInt8 := [114, 117, 108, 101, 32] ++ (r.nm ++ (32 :: (r.rk ++ (58 :: 32 :: (gX r ++ ([32, 45, 62, 32] ++ (acX r ++ [59])))))))
theorem acX_lex {l : List UInt8} {line : Nat} {ts : List Tk} (hl : Stops inWordB l) (h : LexL l line ts) {r : RuX} (hr : r.Ok) : LexL (acX r ++ l) line (acT line (r.ent line).act ++ ts) := by
 unfold acX RuX.ent acT
 dsimp only
 cases hd : r.dec with
 | true => exact lexL_word (m := kwDecline) (by simp) hl h
 | false =>
  cases hc : r.ch with
  | true =>
   have := lexL_word (m := kwCheapest) (by simp) (l := 32 :: (commaX r.rts ++ l)) (show inWordB _ = false from by decide) (lexL_blank (commaX_nm hl h r.rts hr.rts))
   simpa using this
  | false => simpa using commaX_nm hl h r.rts hr.rts
theorem rule_lex {l : List UInt8} {line : Nat} {ts : List Tk} (h : LexL l line ts) {r : RuX} (hr : r.Ok) : LexL (r.text ++ l) line (ruT line (r.ent line) ++ (kt mSemi line :: ts)) := by
 have h1 := acX_lex (l := 59 :: l) (show inWordB _ = false from by decide) (lexL_sign (.inl rfl) h) hr
 have h2 := lexL_blank (lexL_two (a := 45) (b := 62) (.inr ⟨rfl, rfl⟩) (lexL_blank h1))
 have s2 : Stops isDigitB (32 :: 45 :: 62 :: 32 :: (acX r ++ 59 :: l)) := (show isDigitB _ = false from by decide)
 have h3 := gdX_lex (kw := kwCur) (by simp) s2 h2 hr.cur
 have h4 := amX_lex (stops_gd s2) h3 hr.am
 have h5 := gdX_lex (kw := kwMcc) (by simp) (stops_am (stops_gd s2)) h4 hr.mcc
 have h6 := lexL_two (a := 46) (b := 46) (.inl ⟨rfl, rfl⟩) (lexL_dg hr.hi (stops_gd (stops_am (stops_gd s2))) h5)
 have h7 := lexL_dgc hr.lo h6
 have h8 := lexL_wordc (m := kwBin) (by simp) (lexL_blank h7)
 have h9 := lexL_dgc hr.rk (lexL_sign (c := 58) (.inr (.inl rfl)) (lexL_blank h8))
 have h10 := lexL_nmc hr.nm (lexL_blank h9)
 have h11 := lexL_wordc (m := kwRule) (by simp) (lexL_blank h10)
 simpa [RuX.text, gX, ruT, RuX.ent, kt, mSemi, mColon, mDots, mArrow, kwRule, kwBin] using h11
theorem RuX.Ok.tk {r : RuX} (h : r.Ok) (line : Nat) : RuT (r.ent line) := by
 refine ⟨rfl, rfl, ⟨rfl, rfl⟩, fun t ht => ?_, fun ab hab => ?_, fun t ht => ?_, ?_⟩
 ·obtain ⟨w, _, rfl⟩ := List.mem_map.1 ht; rfl
 ·cases ha : r.am with
  | none => rw [show (r.ent line).amount = r.am.map _ from rfl, ha] at hab; cases hab
  | some cd => rw [show (r.ent line).amount = r.am.map _ from rfl, ha] at hab; cases hab; exact ⟨rfl, rfl⟩
 ·obtain ⟨w, _, rfl⟩ := List.mem_map.1 ht; rfl
 ·rcases h.ac with ⟨h1, h2, h3⟩ | ⟨h1, h2⟩
  ·left; simp [RuX.ent, h1, h2, h3]
  ·right
   refine ⟨h1, by simpa [RuX.ent] using h2, fun t ht => ?_⟩
   obtain ⟨w, _, rfl⟩ := List.mem_map.1 ht; rfl
theorem tx_rule {l : List UInt8} {line : Nat} {xs : List EntE} {r : RuX} (hr : r.Ok) (h : TxL l line xs) : TxL (r.text ++ l) line (.rule (r.ent line) :: xs) := by
 obtain ⟨ts, h1, h2⟩ := h
 exact ⟨_, rule_lex h1 hr, prL_rule (hr.tk line) h2⟩
def rtX (nm b c : List UInt8) : List UInt8 := [114, 111, 117, 116, 101, 32] ++ (nm ++ (32 :: (b ++ (32 :: (c ++ [59])))))
theorem tx_route {nm b c l : List UInt8} {line : Nat} {xs : List EntE} (hn : NmL nm) (hb : DgL b) (hc : DgL c) (h : TxL l line xs) : TxL (rtX nm b c ++ l) line (.route ⟨nT nm line, dT b line, dT c line⟩ :: xs) := by
 obtain ⟨ts, h1, h2⟩ := h
 refine ⟨_, ?_, prL_route (line := line) (r := ⟨nT nm line, dT b line, dT c line⟩) ⟨rfl, rfl, rfl⟩ h2⟩
 have h3 := lexL_dgc hc (lexL_sign (c := 59) (.inl rfl) h1)
 have h4 := lexL_dgc hb (lexL_blank h3)
 have h5 := lexL_nmc hn (lexL_blank h4)
 have h6 := lexL_wordc (m := kwRoute) (by simp) (lexL_blank h5)
 simpa [rtX, rtT, kt, mSemi, kwRoute] using h6
theorem tx_nil (line : Nat) : TxL [] line [] := ⟨_, lexL_nil line, prL_end line⟩
theorem tx_blank {l : List UInt8} {line : Nat} {xs : List EntE} (h : TxL l line xs) : TxL (32 :: l) line xs := by
 obtain ⟨ts, h1, h2⟩ := h
 exact ⟨ts, lexL_blank h1, h2⟩
theorem tx_nl {l : List UInt8} {line : Nat} {xs : List EntE} (h : TxL l (line + 1) xs) : TxL (10 :: l) line xs := by
 obtain ⟨ts, h1, h2⟩ := h
 exact ⟨ts, lexL_nl h1, h2⟩
theorem readM_of {l : List UInt8} {xs : List EntE} (h : TxL l 1 xs) (hs : l.length <= 3000) : readM (bs l) = underM [] [] xs := by
 obtain ⟨ts, h1, h2⟩ := h
 have e : lexFrom (bs l) 0 1 [] = .ok ts := by simpa using h1 [] []
 obtain ⟨k, hk⟩ := h2 ts 0 [] rfl
 unfold readM
 rw [if_neg (by rw [bs_size]; omega), e]
 dsimp only
 rw [hk]
 rfl
end Go.Proofs.YtccikgogjfbpeabGreatDoor

namespace Go.Proofs.YtccikgogjfbpeabGreatDoor
theorem valOf_dT (w : List UInt8) (line : Nat) : valOf (dT w line) = numOf w := rfl
theorem nums_ok (most line : Nat) : ∀ (ws : List (List UInt8)) (i : Nat), i + ws.length <= 4 -> (∀ w, w ∈ ws -> numOf w <= most) -> numsFrom most i (ws.map fun w => dT w line) = .ok (ws.map numOf)
 | [], _, _, _ => rfl
 | w :: r, i, h, hw => by
  have ih := nums_ok most line r (i + 1) (by simp at h; omega) (fun x hx => hw x (by simp [hx]))
  have h1 := hw w (by simp)
  have h2 : ¬ most < valOf (dT w line) := by rw [valOf_dT]; omega
  simp only [List.map_cons, numsFrom]
  rw [if_neg (by simp at h; omega), if_neg h2, ih]
  rfl
def RuX.rl (r : RuX) (ps : List Nat) (n : Nat) : RuleM :=
 ⟨bs r.nm, numOf r.rk, r.lo.length, numOf r.lo, numOf r.hi, r.mcc.map numOf, r.am.map fun ab => (numOf ab.1, numOf ab.2), r.cur.map numOf, r.dec, r.ch, ps, n⟩
structure RuX.Fit (r : RuX) : Prop where
 rk : numOf r.rk <= 1000
 lo : r.lo.length <= 6
 hi : r.hi.length = r.lo.length
 le : numOf r.lo <= numOf r.hi
 mcc : r.mcc.length <= 4 /\ ∀ w, w ∈ r.mcc -> numOf w <= 9999
 am : ∀ ab, r.am = some ab -> numOf ab.1 <= numOf ab.2
 cur : r.cur.length <= 4 /\ ∀ w, w ∈ r.cur -> numOf w <= 999
theorem add_ok {rts : List RouteM} {rls : List RuleM} {r : RuX} {line : Nat} {ps : List Nat} (h8 : rls.length < 8) (hn : hasName (bs r.nm) rls = false) (hf : r.Fit) (hp : plsFrom rts 0 (r.rts.map fun w => nT w line) = .ok ps) : addRuleM rts rls (r.ent line) = .ok (r.rl ps rts.length) := by
 have e1 : numsFrom 9999 0 (r.ent line).mcc = .ok (r.mcc.map numOf) := nums_ok 9999 line r.mcc 0 (by have := hf.mcc.1; omega) hf.mcc.2
 have e2 : numsFrom 999 0 (r.ent line).cur = .ok (r.cur.map numOf) := nums_ok 999 line r.cur 0 (by have := hf.cur.1; omega) hf.cur.2
 have e3 : plsFrom rts 0 (r.ent line).act.routes = .ok ps := hp
 have e4 : (r.ent line).amount.any (fun ab => decide (¬ valOf ab.1 <= valOf ab.2)) = false := by
  show (r.am.map _).any _ = false
  cases ha : r.am with
  | none => rfl
  | some ab =>
   have := hf.am ab ha
   show decide (¬ numOf ab.1 <= numOf ab.2) = false
   exact decide_eq_false (by omega)
 unfold addRuleM
 rw [if_neg (by omega), if_neg (by rw [show (r.ent line).name.text = bs r.nm from rfl, hn]; decide), if_neg (by have := hf.rk; show ¬ 1000 < numOf r.rk; omega), if_neg (by have := hf.lo; show ¬ 6 < r.lo.length; omega),
  if_neg (by have := hf.hi; show ¬ r.hi.length ≠ r.lo.length; omega), if_neg (by have := hf.le; show ¬ ¬ numOf r.lo <= numOf r.hi; omega), e1]
 dsimp only
 rw [e4, if_neg (by decide), e2]
 dsimp only
 rw [e3]
 show Except.ok _ = Except.ok _
 congr 1
 unfold RuX.rl RuX.ent
 congr 1
 cases r.am <;> rfl
theorem under_rule {rts : List RouteM} {rls : List RuleM} {r : RuX} {line : Nat} {ps : List Nat} {xs : List EntE} (h8 : rls.length < 8) (hn : hasName (bs r.nm) rls = false) (hf : r.Fit) (hp : plsFrom rts 0 (r.rts.map fun w => nT w line) = .ok ps) : underM rts rls (.rule (r.ent line) :: xs) = underM rts (rls ++ [r.rl ps rts.length]) xs :=
 underM_ok (p := (rts, rls ++ [r.rl ps rts.length])) (by simp only [addM, add_ok h8 hn hf hp])
theorem under_route {rts : List RouteM} {rls : List RuleM} {nm b c : List UInt8} {line : Nat} {xs : List EntE} (h6 : rts.length ≠ 6) (hn : placeFrom (bs nm) 0 rts < 0) (hb : numOf b <= 1000000) (hc : numOf c <= 1000) : underM rts rls (.route ⟨nT nm line, dT b line, dT c line⟩ :: xs) = underM (rts ++ [⟨bs nm, numOf b, numOf c⟩]) rls xs :=
 underM_ok (p := (rts ++ [⟨bs nm, numOf b, numOf c⟩], rls)) (by
  simp only [addM, addRouteM]
  rw [if_neg h6, if_neg (show ¬ 0 <= placeFrom (nT nm line).text 0 rts from (show ¬ 0 <= placeFrom (bs nm) 0 rts by omega)), if_neg (show ¬ 1000000 < valOf (dT b line) by rw [valOf_dT]; omega), if_neg (show ¬ 1000 < valOf (dT c line) by rw [valOf_dT]; omega)]
  rfl)
def digL (n w : Nat) : List UInt8 := if _h : n = 0 /\ w = 0 then [] else digL (n / 10) (w - 1) ++ [UInt8.ofNat (48 + n % 10)]
 termination_by n + w
 decreasing_by omega
theorem digL_zero : digL 0 0 = [] := by rw [digL, dif_pos ⟨rfl, rfl⟩]
theorem digL_step {n w : Nat} (h : ¬ (n = 0 /\ w = 0)) : digL n w = digL (n / 10) (w - 1) ++ [UInt8.ofNat (48 + n % 10)] := by rw [digL, dif_neg h]
theorem dig_toNat (n : Nat) : (UInt8.ofNat (48 + n % 10)).toNat = 48 + n % 10 := by
 rw [UInt8.toNat_ofNat']
 omega
theorem digL_dg : ∀ (m n w : Nat), n + w = m -> ∀ x, x ∈ digL n w -> 48 <= x.toNat /\ x.toNat <= 57 := by
 intro m
 induction m using Nat.strongRecOn with
 | ind m ih =>
  intro n w hm x hx
  by_cases h : n = 0 /\ w = 0
  ·rw [h.1, h.2, digL_zero] at hx; cases hx
  ·rw [digL_step h] at hx
   rcases List.mem_append.1 hx with hx | hx
   ·exact ih (n / 10 + (w - 1)) (by omega) _ _ rfl x hx
   ·have hx := List.mem_singleton.1 hx
    subst hx
    rw [dig_toNat]
    omega
theorem digL_num : ∀ (m n w : Nat), n + w = m -> numOf (digL n w) = n := by
 intro m
 induction m using Nat.strongRecOn with
 | ind m ih =>
  intro n w hm
  by_cases h : n = 0 /\ w = 0
  ·rw [h.1, h.2, digL_zero]; rfl
  ·rw [digL_step h, numOf_snoc, ih (n / 10 + (w - 1)) (by omega) _ _ rfl, dig_toNat]
   omega
theorem digL_len : ∀ (w n : Nat), n < 10 ^ w -> (digL n w).length = w
 | 0, n, h => by
  have : n = 0 := by simpa using h
  subst this
  rw [digL_zero]; rfl
 | w + 1, n, h => by
  have hn : n / 10 < 10 ^ w := by
   rw [Nat.pow_succ] at h
   omega
  rw [digL_step (by omega), List.length_append, show w + 1 - 1 = w from rfl, digL_len w (n / 10) hn]
  rfl
theorem digL_ge : ∀ (n w : Nat), w <= (digL n w).length
 | _, 0 => Nat.zero_le _
 | n, w + 1 => by
  have := digL_ge (n / 10) w
  rw [digL_step (by omega), List.length_append, show w + 1 - 1 = w from rfl]
  simp only [List.length_singleton]
  omega
theorem isDigitB_of {x : UInt8} (h : 48 <= x.toNat /\ x.toNat <= 57) : isDigitB (x.toNat : Int) = true := by
 unfold isDigitB
 exact decide_eq_true (by omega)
theorem digL_DgL {n w : Nat} (h : n < 10 ^ w) (h1 : 1 <= w) (h9 : w <= 9) : DgL (digL n w) := by
 have hl := digL_len w n h
 exact ⟨fun e => by rw [e] at hl; simp at hl; omega, by omega, fun x hx => isDigitB_of (digL_dg _ n w rfl x hx)⟩
def rts3 : List RouteM := [⟨bs [97], 10, 2⟩, ⟨bs [98], 500, 0⟩, ⟨bs [99], 0, 9⟩]
def routes3 : List UInt8 := [114, 111, 117, 116, 101, 32, 97, 32, 49, 48, 32, 50, 59, 32, 114, 111, 117, 116, 101, 32, 98, 32, 53, 48, 48, 32, 48, 59, 32, 114, 111, 117, 116, 101, 32, 99, 32, 48, 32, 57, 59, 10]
def ents3 : List EntE := [.route ⟨nT [97] 1, dT [49, 48] 1, dT [50] 1⟩, .route ⟨nT [98] 1, dT [53, 48, 48] 1, dT [48] 1⟩, .route ⟨nT [99] 1, dT [48] 1, dT [57] 1⟩]
theorem nmL_of {w : List UInt8} {c : UInt8} {v : List UInt8} (h : w = c :: v) (h1 : isSmallB (c.toNat : Int) = true) (h2 : ∀ x, x ∈ w -> inWordB (x.toNat : Int) = true) (h3 : kws.contains w = false) (h4 : w.length <= 8) : NmL w := ⟨⟨c, v, h, h1⟩, h2, h3, h4⟩
theorem dgL_of {w : List UInt8} (h1 : w ≠ []) (h2 : w.length <= 9) (h3 : ∀ x, x ∈ w -> isDigitB (x.toNat : Int) = true) : DgL w := ⟨h1, h2, h3⟩
theorem tx_routes3 {l : List UInt8} {xs : List EntE} (h : TxL l 2 xs) : TxL (routes3 ++ l) 1 (ents3 ++ xs) := by
 have h3 := tx_route (nm := [99]) (b := [48]) (c := [57]) (nmL_of rfl (by decide) (by decide) (by decide) (by decide)) (dgL_of (by decide) (by decide) (by decide)) (dgL_of (by decide) (by decide) (by decide)) (tx_nl (line := 1) h)
 have h2 := tx_route (nm := [98]) (b := [53, 48, 48]) (c := [48]) (nmL_of rfl (by decide) (by decide) (by decide) (by decide)) (dgL_of (by decide) (by decide) (by decide)) (dgL_of (by decide) (by decide) (by decide)) (tx_blank h3)
 exact tx_route (nm := [97]) (b := [49, 48]) (c := [50]) (nmL_of rfl (by decide) (by decide) (by decide) (by decide)) (dgL_of (by decide) (by decide) (by decide)) (dgL_of (by decide) (by decide) (by decide)) (tx_blank h2)
theorem place_ne {a b : List UInt8} {n m : Nat} {i : Nat} {r : List RouteM} (h : (b == a) = false) : placeFrom (bs a) i (⟨bs b, n, m⟩ :: r) = placeFrom (bs a) (i + 1) r := by
 simp only [placeFrom, bs_toList]
 rw [if_neg (by rw [h]; decide)]
theorem place_eq {a b : List UInt8} {n m : Nat} {i : Nat} {r : List RouteM} (h : (b == a) = true) : placeFrom (bs a) i (⟨bs b, n, m⟩ :: r) = (i : Int) := by
 simp only [placeFrom, bs_toList]
 rw [if_pos h]
theorem under_routes3 (xs : List EntE) : underM [] [] (ents3 ++ xs) = underM rts3 [] xs := by
 unfold ents3
 simp only [List.cons_append, List.nil_append]
 rw [under_route (by decide) (by decide) (by decide) (by decide), under_route (by decide) (by rw [List.nil_append, place_ne (by decide)]; decide) (by decide) (by decide),
  under_route (by decide) (by rw [List.nil_append, List.cons_append, place_ne (by decide), List.nil_append, place_ne (by decide)]; decide) (by decide) (by decide)]
 rfl
end Go.Proofs.YtccikgogjfbpeabGreatDoor
