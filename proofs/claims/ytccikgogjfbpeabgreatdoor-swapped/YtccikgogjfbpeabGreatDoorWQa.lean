/- The plain mathematics of reading rules: bytes, tokens; nothing of the program. The plain mathematics of the grammar: a parser over tokens; nothing of the program. The plain mathematics of the grammar, on: entries; nothing of the program. The plain mathematics of the grammar, on: the whole text; nothing of the program. The document's own grammar as a machine with a stack, plain; it answers as the parser does. -/
namespace Go.Proofs.YtccikgogjfbpeabGreatDoor
def isSmallB (c : Int) : Bool := decide (97 <= c /\ c <= 122)
def isDigitB (c : Int) : Bool := decide (48 <= c /\ c <= 57)
def inWordB (c : Int) : Bool := isSmallB c || isDigitB c
def inRemarkB (c : Int) : Bool := !decide (c = 10)
def bAt (s : ByteArray) (k : Nat) : Int := ((s.data.toList.getD k 0).toNat : Int)
theorem bAt_of (s : ByteArray) (k : Nat) (h : k < s.size) : bAt s k = (s[k].toNat : Int) := by
 unfold bAt
 rw [List.getD_eq_getElem?_getD, List.getElem?_eq_getElem (by simpa using h)]
 rfl
def runLen (p : Int -> Bool) : List UInt8 -> Nat
 | [] => 0
 | c :: r => if p (c.toNat : Int) then runLen p r + 1 else 0
theorem runLen_le (p : Int -> Bool) (l : List UInt8) : runLen p l <= l.length := by
 induction l with
 | nil => simp [runLen]
 | cons c r ih => simp only [runLen]; split <;> simp <;> omega
theorem runLen_end (p : Int -> Bool) (s : ByteArray) (k : Nat) (h : s.size <= k) : runLen p (s.data.toList.drop k) = 0 := by
 rw [List.drop_of_length_le (by simpa using h)]; rfl
theorem runLen_step (p : Int -> Bool) (s : ByteArray) (k : Nat) (h : k < s.size) :
  runLen p (s.data.toList.drop k) = if p (bAt s k) then runLen p (s.data.toList.drop (k + 1)) + 1 else 0 := by
 rw [List.drop_eq_getElem_cons (by simpa using h)]
 rw [bAt_of s k h]
 simp only [runLen]
 rfl
def runAt (p : Int -> Bool) (s : ByteArray) (k : Nat) : Nat := runLen p (s.data.toList.drop k)
theorem runAt_le (p : Int -> Bool) (s : ByteArray) (k : Nat) (h : k <= s.size) : k + runAt p s k <= s.size := by
 have := runLen_le p (s.data.toList.drop k)
 simp at this
 unfold runAt
 omega
theorem runAt_pos (p : Int -> Bool) (s : ByteArray) (k : Nat) (h : k < s.size) (hp : p (bAt s k) = true) : 1 <= runAt p s k := by
 unfold runAt
 rw [runLen_step p s k h, if_pos hp]
 omega
structure Tk where
 sort : Nat
 text : ByteArray
 line : Nat
def kws : List (List UInt8) :=
 [[114, 111, 117, 116, 101], [114, 117, 108, 101], [98, 105, 110], [109, 99, 99], [97, 109, 111, 117, 110, 116], [99, 117, 114], [100, 101, 99, 108, 105, 110, 101], [99, 104, 101, 97, 112, 101, 115, 116]]
def isKwB (t : ByteArray) : Bool := kws.contains t.toList
inductive Lx where
 | skip (at' line : Nat)
 | tok (t : Tk) (at' : Nat)
 | bad
def two (s : ByteArray) (k : Nat) (a b : Int) : Bool := decide (k + 2 <= s.size) && decide (bAt s k = a) && decide (bAt s (k + 1) = b)
def preB (t m : ByteArray) : Bool := decide (m.size <= t.size) && ((t.extract 0 m.size).toList == m.toList)
def lexStep (s : ByteArray) (k line : Nat) : Lx :=
 if bAt s k = 10 then .skip (k + 1) (line + 1)
 else if bAt s k = 32 \/ bAt s k = 9 then .skip (k + 1) line
 else if bAt s k = 35 then .skip (k + runAt inRemarkB s k) line
 else if isSmallB (bAt s k) then
  if isKwB (s.extract k (k + runAt inWordB s k)) then .tok ⟨2, s.extract k (k + runAt inWordB s k), line⟩ (k + runAt inWordB s k)
  else if 8 < runAt inWordB s k then .bad
  else .tok ⟨0, s.extract k (k + runAt inWordB s k), line⟩ (k + runAt inWordB s k)
 else if isDigitB (bAt s k) then
  if 9 < runAt isDigitB s k then .bad
  else .tok ⟨1, s.extract k (k + runAt isDigitB s k), line⟩ (k + runAt isDigitB s k)
 else if bAt s k = 59 \/ bAt s k = 58 \/ bAt s k = 44 then .tok ⟨2, s.extract k (k + 1), line⟩ (k + 1)
 else if two s k 46 46 || two s k 45 62 then .tok ⟨2, s.extract k (k + 2), line⟩ (k + 2)
 else .bad
theorem lexStep_skip {s : ByteArray} {k line k' l' : Nat} (h : k < s.size) (hs : lexStep s k line = .skip k' l') : k < k' /\ k' <= s.size /\ line <= l' /\ l' <= line + 1 := by
 unfold lexStep at hs
 split at hs
 ·injection hs; omega
 split at hs
 ·injection hs; omega
 split at hs
 ·rename_i h3
  have := runAt_le inRemarkB s k (by omega)
  have := runAt_pos inRemarkB s k h (by simp [inRemarkB, h3])
  injection hs; omega
 repeat' (split at hs)
 all_goals contradiction
theorem two_le {s : ByteArray} {k : Nat} {a b : Int} (h : two s k a b = true) : k + 2 <= s.size := by
 simp [two] at h
 exact h.1.1
theorem lexStep_tok {s : ByteArray} {k line k' : Nat} {t : Tk} (h : k < s.size) (hs : lexStep s k line = .tok t k') : k < k' /\ k' <= s.size := by
 unfold lexStep at hs
 split at hs
 ·contradiction
 split at hs
 ·contradiction
 split at hs
 ·contradiction
 split at hs
 ·rename_i h4
  have := runAt_le inWordB s k (by omega)
  have := runAt_pos inWordB s k h (by simp [inWordB, h4])
  split at hs
  ·injection hs; omega
  split at hs
  ·contradiction
  ·injection hs; omega
 split at hs
 ·rename_i h5
  have := runAt_le isDigitB s k (by omega)
  have := runAt_pos isDigitB s k h h5
  split at hs
  ·contradiction
  ·injection hs; omega
 split at hs
 ·injection hs; omega
 split at hs
 ·rename_i h7
  simp only [Bool.or_eq_true] at h7
  have : k + 2 <= s.size := by rcases h7 with h7 | h7 <;> exact two_le h7
  injection hs; omega
 ·contradiction
def lexFrom (s : ByteArray) (k line : Nat) (acc : List Tk) : Except Nat (List Tk) :=
 if h : k < s.size then
  match _hs : lexStep s k line with
  | .skip k' l' => lexFrom s k' l' acc
  | .tok t k' => lexFrom s k' line (acc ++ [t])
  | .bad => .error line
 else .ok (acc ++ [⟨3, ByteArray.empty, line⟩])
 termination_by s.size - k
 decreasing_by
  ·have := lexStep_skip h _hs; omega
  ·have := lexStep_tok h _hs; omega
end Go.Proofs.YtccikgogjfbpeabGreatDoor

namespace Go.Proofs.YtccikgogjfbpeabGreatDoor
def isFix (t : Tk) (m : ByteArray) : Bool := decide (t.sort = 2) && (t.text.toList == m.toList)
def tkAt (ts : List Tk) (i : Nat) : Tk := ts.getD i ⟨3, ByteArray.empty, 0⟩
def expectM (ts : List Tk) (i : Nat) (m : ByteArray) : Except Nat (Unit × Nat) := if isFix (tkAt ts i) m then .ok ((), i + 1) else .error (tkAt ts i).line
def takeM (ts : List Tk) (i want : Nat) : Except Nat (Tk × Nat) := if (tkAt ts i).sort = want then .ok (tkAt ts i, i + 1) else .error (tkAt ts i).line
def kwRoute : ByteArray := ⟨#[114, 111, 117, 116, 101]⟩
def kwRule : ByteArray := ⟨#[114, 117, 108, 101]⟩
def kwBin : ByteArray := ⟨#[98, 105, 110]⟩
def kwMcc : ByteArray := ⟨#[109, 99, 99]⟩
def kwAmount : ByteArray := ⟨#[97, 109, 111, 117, 110, 116]⟩
def kwCur : ByteArray := ⟨#[99, 117, 114]⟩
def kwDecline : ByteArray := ⟨#[100, 101, 99, 108, 105, 110, 101]⟩
def kwCheapest : ByteArray := ⟨#[99, 104, 101, 97, 112, 101, 115, 116]⟩
def mSemi : ByteArray := ⟨#[59]⟩
def mColon : ByteArray := ⟨#[58]⟩
def mComma : ByteArray := ⟨#[44]⟩
def mDots : ByteArray := ⟨#[46, 46]⟩
def mArrow : ByteArray := ⟨#[45, 62]⟩
def pairM (ts : List Tk) (i : Nat) : Except Nat ((Tk × Tk) × Nat) :=
 match takeM ts i 1 with
 | .error l => .error l
 | .ok (a, i1) => match expectM ts i1 mDots with
  | .error l => .error l
  | .ok (_, i2) => match takeM ts i2 1 with
   | .error l => .error l
   | .ok (b, i3) => .ok ((a, b), i3)
theorem isFix_lt {ts : List Tk} {i : Nat} {m : ByteArray} (h : isFix (tkAt ts i) m = true) : i < ts.length := by
 rcases Nat.lt_or_ge i ts.length with h' | h'
 ·exact h'
 ·exfalso
  unfold isFix tkAt at h
  rw [List.getD_eq_getElem?_getD, List.getElem?_eq_none h'] at h
  simp at h
theorem takeM_ok {ts : List Tk} {i want : Nat} {t : Tk} {i' : Nat} (h : takeM ts i want = .ok (t, i')) : t = tkAt ts i /\ t.sort = want /\ i' = i + 1 := by
 unfold takeM at h
 split at h
 ·injection h with h; injection h with h1 h2; subst h1 h2; exact ⟨rfl, ‹_›, rfl⟩
 ·cases h
def restM (ts : List Tk) (i want : Nat) (acc : List Tk) : Except Nat (List Tk × Nat) :=
 if _h : isFix (tkAt ts i) mComma = true then
  match _ht : takeM ts (i + 1) want with
  | .error l => .error l
  | .ok (t, i') => restM ts i' want (acc ++ [t])
 else .ok (acc, i)
 termination_by ts.length - i
 decreasing_by
  have h1 := isFix_lt _h
  have h2 := (takeM_ok _ht).2.2
  omega
def listM (ts : List Tk) (i want : Nat) : Except Nat (List Tk × Nat) :=
 match takeM ts i want with
 | .error l => .error l
 | .ok (t, i1) => restM ts i1 want [t]
end Go.Proofs.YtccikgogjfbpeabGreatDoor

namespace Go.Proofs.YtccikgogjfbpeabGreatDoor
def bindM {α β : Type} (r : Except Nat (α × Nat)) (f : α -> Nat -> Except Nat (β × Nat)) : Except Nat (β × Nat) :=
 match r with
 | .error l => .error l
 | .ok (a, i) => f a i
theorem bindM_ok {α β : Type} {r : Except Nat (α × Nat)} {f : α -> Nat -> Except Nat (β × Nat)} {a : α} {i : Nat} (h : r = .ok (a, i)) : bindM r f = f a i := by rw [h]; rfl
theorem bindM_err {α β : Type} {r : Except Nat (α × Nat)} {f : α -> Nat -> Except Nat (β × Nat)} {l : Nat} (h : r = .error l) : bindM r f = .error l := by rw [h]; rfl
structure RouteE where
 name : Tk
 base : Tk
 rate : Tk
structure ActE where
 decline : Bool
 cheapest : Bool
 routes : List Tk
structure RuleE where
 name : Tk
 rank : Tk
 bin : Tk × Tk
 mcc : List Tk
 amount : Option (Tk × Tk)
 cur : List Tk
 act : ActE
inductive EntE where
 | route (r : RouteE)
 | rule (r : RuleE)
def routeM (ts : List Tk) (i : Nat) : Except Nat (RouteE × Nat) :=
 bindM (takeM ts i 0) fun name i => bindM (takeM ts i 1) fun base i => bindM (takeM ts i 1) fun rate i => .ok (⟨name, base, rate⟩, i)
def optList (ts : List Tk) (i : Nat) (kw : ByteArray) : Except Nat (List Tk × Nat) := if isFix (tkAt ts i) kw then listM ts (i + 1) 1 else .ok ([], i)
def optPair (ts : List Tk) (i : Nat) (kw : ByteArray) : Except Nat (Option (Tk × Tk) × Nat) := if isFix (tkAt ts i) kw then bindM (pairM ts (i + 1)) fun ab i => .ok (some ab, i) else .ok (none, i)
def actionM (ts : List Tk) (i : Nat) : Except Nat (ActE × Nat) :=
 if isFix (tkAt ts i) kwDecline then .ok (⟨true, false, []⟩, i + 1)
 else if isFix (tkAt ts i) kwCheapest then bindM (listM ts (i + 1) 0) fun l i => .ok (⟨false, true, l⟩, i)
 else bindM (listM ts i 0) fun l i => .ok (⟨false, false, l⟩, i)
def ruleM (ts : List Tk) (i : Nat) : Except Nat (RuleE × Nat) :=
 bindM (takeM ts i 0) fun name i => bindM (takeM ts i 1) fun rank i => bindM (expectM ts i mColon) fun _ i => bindM (expectM ts i kwBin) fun _ i =>
 bindM (pairM ts i) fun bin i => bindM (optList ts i kwMcc) fun mcc i => bindM (optPair ts i kwAmount) fun amount i => bindM (optList ts i kwCur) fun cur i =>
 bindM (expectM ts i mArrow) fun _ i => bindM (actionM ts i) fun act i => .ok (⟨name, rank, bin, mcc, amount, cur, act⟩, i)
def entryM (ts : List Tk) (i : Nat) : Except Nat (EntE × Nat) :=
 if isFix (tkAt ts i) kwRoute then bindM (routeM ts (i + 1)) fun r i => .ok (.route r, i)
 else bindM (expectM ts i kwRule) fun _ i => bindM (ruleM ts i) fun r i => .ok (.rule r, i)
end Go.Proofs.YtccikgogjfbpeabGreatDoor

namespace Go.Proofs.YtccikgogjfbpeabGreatDoor
theorem bindM_inv {α β : Type} {r : Except Nat (α × Nat)} {f : α -> Nat -> Except Nat (β × Nat)} {b : β} {k : Nat} (h : bindM r f = .ok (b, k)) : ∃ a j, r = .ok (a, j) /\ f a j = .ok (b, k) := by
 unfold bindM at h
 split at h
 ·cases h
 ·exact ⟨_, _, rfl, h⟩
theorem expectM_ok {ts : List Tk} {i : Nat} {m : ByteArray} {u : Unit} {i' : Nat} (h : expectM ts i m = .ok (u, i')) : i' = i + 1 := by
 unfold expectM at h
 split at h
 ·injection h with h; injection h with h1 h2; exact h2.symm
 ·cases h
theorem pairM_bind (ts : List Tk) (i : Nat) : pairM ts i = bindM (takeM ts i 1) fun a i => bindM (expectM ts i mDots) fun _ i => bindM (takeM ts i 1) fun b i => .ok ((a, b), i) := by
 unfold pairM bindM
 cases takeM ts i 1 with
 | error l => rfl
 | ok r =>
  obtain ⟨a, i1⟩ := r
  dsimp only
  cases expectM ts i1 mDots with
  | error l => rfl
  | ok r =>
   obtain ⟨u, i2⟩ := r
   dsimp only
   cases takeM ts i2 1 with
   | error l => rfl
   | ok r => rfl
theorem pairM_lt {ts : List Tk} {i : Nat} {ab : Tk × Tk} {k : Nat} (h : pairM ts i = .ok (ab, k)) : i < k := by
 rw [pairM_bind] at h
 obtain ⟨a, j1, h1, h⟩ := bindM_inv h
 obtain ⟨_, j2, h2, h⟩ := bindM_inv h
 obtain ⟨b, j3, h3, h⟩ := bindM_inv h
 have e1 := (takeM_ok h1).2.2
 have e2 := expectM_ok h2
 have e3 := (takeM_ok h3).2.2
 injection h with h; injection h with _ h; omega
theorem restM_le {ts : List Tk} {want : Nat} : ∀ (n i : Nat) (acc l : List Tk) (k : Nat), ts.length - i = n -> restM ts i want acc = .ok (l, k) -> i <= k := by
 intro n
 induction n using Nat.strongRecOn with
 | ind n ih =>
  intro i acc l k hn h
  rw [restM] at h
  split at h
  ·rename_i hq
   have hlt := isFix_lt hq
   split at h
   ·cases h
   ·rename_i t i' ht
    have e := (takeM_ok ht).2.2
    have := ih (ts.length - i') (by omega) i' _ l k rfl h
    omega
  ·injection h with h; injection h with _ h; omega
theorem listM_lt {ts : List Tk} {i want : Nat} {l : List Tk} {k : Nat} (h : listM ts i want = .ok (l, k)) : i < k := by
 unfold listM at h
 split at h
 ·cases h
 ·rename_i t i1 ht
  have e := (takeM_ok ht).2.2
  have := restM_le _ i1 [t] l k rfl h
  omega
theorem optList_le {ts : List Tk} {i : Nat} {kw : ByteArray} {l : List Tk} {k : Nat} (h : optList ts i kw = .ok (l, k)) : i <= k := by
 unfold optList at h
 split at h
 ·have := listM_lt h; omega
 ·injection h with h; injection h with _ h; omega
theorem optPair_le {ts : List Tk} {i : Nat} {kw : ByteArray} {l : Option (Tk × Tk)} {k : Nat} (h : optPair ts i kw = .ok (l, k)) : i <= k := by
 unfold optPair at h
 split at h
 ·obtain ⟨ab, j, h1, h2⟩ := bindM_inv h
  have := pairM_lt h1
  injection h2 with h2; injection h2 with _ h2; omega
 ·injection h with h; injection h with _ h; omega
theorem actionM_lt {ts : List Tk} {i : Nat} {a : ActE} {k : Nat} (h : actionM ts i = .ok (a, k)) : i < k := by
 unfold actionM at h
 split at h
 ·injection h with h; injection h with _ h; omega
 split at h
 ·obtain ⟨l, j, h1, h2⟩ := bindM_inv h
  have := listM_lt h1
  injection h2 with h2; injection h2 with _ h2; omega
 ·obtain ⟨l, j, h1, h2⟩ := bindM_inv h
  have := listM_lt h1
  injection h2 with h2; injection h2 with _ h2; omega
theorem routeM_lt {ts : List Tk} {i : Nat} {r : RouteE} {k : Nat} (h : routeM ts i = .ok (r, k)) : i < k := by
 unfold routeM at h
 obtain ⟨a, j1, h1, h⟩ := bindM_inv h
 obtain ⟨b, j2, h2, h⟩ := bindM_inv h
 obtain ⟨c, j3, h3, h⟩ := bindM_inv h
 have e1 := (takeM_ok h1).2.2
 have e2 := (takeM_ok h2).2.2
 have e3 := (takeM_ok h3).2.2
 injection h with h; injection h with _ h; omega
theorem ruleM_lt {ts : List Tk} {i : Nat} {r : RuleE} {k : Nat} (h : ruleM ts i = .ok (r, k)) : i < k := by
 unfold ruleM at h
 obtain ⟨a, j1, h1, h⟩ := bindM_inv h
 obtain ⟨b, j2, h2, h⟩ := bindM_inv h
 obtain ⟨_, j3, h3, h⟩ := bindM_inv h
 obtain ⟨_, j4, h4, h⟩ := bindM_inv h
 obtain ⟨c, j5, h5, h⟩ := bindM_inv h
 obtain ⟨d, j6, h6, h⟩ := bindM_inv h
 obtain ⟨f, j7, h7, h⟩ := bindM_inv h
 obtain ⟨g, j8, h8, h⟩ := bindM_inv h
 obtain ⟨_, j9, h9, h⟩ := bindM_inv h
 obtain ⟨a10, j10, h10, h⟩ := bindM_inv h
 have e1 := (takeM_ok h1).2.2
 have e2 := (takeM_ok h2).2.2
 have e3 := expectM_ok h3
 have e4 := expectM_ok h4
 have e5 := pairM_lt h5
 have e6 := optList_le h6
 have e7 := optPair_le h7
 have e8 := optList_le h8
 have e9 := expectM_ok h9
 have e10 := actionM_lt h10
 injection h with h; injection h with _ h; omega
theorem entryM_lt {ts : List Tk} {i : Nat} {e : EntE} {k : Nat} (h : entryM ts i = .ok (e, k)) : i < k := by
 unfold entryM at h
 split at h
 ·obtain ⟨r, j, h1, h2⟩ := bindM_inv h
  have := routeM_lt h1
  injection h2 with h2; injection h2 with _ h2; omega
 ·obtain ⟨_, j, h1, h⟩ := bindM_inv h
  obtain ⟨r, j2, h2, h⟩ := bindM_inv h
  have := expectM_ok h1
  have := ruleM_lt h2
  injection h with h; injection h with _ h; omega
def parseFrom (ts : List Tk) (i : Nat) (acc : List EntE) : Except Nat (List EntE × Nat) :=
 if _hs : (tkAt ts i).sort = 3 then .ok (acc, i)
 else match _he : entryM ts i with
  | .error l => .error l
  | .ok (e, j) => match _hx : expectM ts j mSemi with
   | .error l => .error l
   | .ok (_, k) => parseFrom ts k (acc ++ [e])
 termination_by ts.length - i
 decreasing_by
  have h1 := entryM_lt _he
  have h2 := expectM_ok _hx
  have h3 : i < ts.length := by
   rcases Nat.lt_or_ge i ts.length with h' | h'
   ·exact h'
   ·exfalso
    apply _hs
    unfold tkAt
    rw [List.getD_eq_getElem?_getD, List.getElem?_eq_none h']
    rfl
  omega
theorem parseFrom_end {ts : List Tk} {i : Nat} {acc : List EntE} (h : (tkAt ts i).sort = 3) : parseFrom ts i acc = .ok (acc, i) := by
 rw [parseFrom, dif_pos h]
theorem parseFrom_err1 {ts : List Tk} {i : Nat} {acc : List EntE} {l : Nat} (h : ¬ (tkAt ts i).sort = 3) (he : entryM ts i = .error l) : parseFrom ts i acc = .error l := by
 rw [parseFrom, dif_neg h]; split <;> simp_all
theorem parseFrom_err2 {ts : List Tk} {i : Nat} {acc : List EntE} {l : Nat} {e : EntE} {j : Nat} (h : ¬ (tkAt ts i).sort = 3) (he : entryM ts i = .ok (e, j)) (hx : expectM ts j mSemi = .error l) : parseFrom ts i acc = .error l := by
 rw [parseFrom, dif_neg h]
 split
 ·simp_all
 ·split <;> simp_all
theorem parseFrom_ok {ts : List Tk} {i : Nat} {acc : List EntE} {e : EntE} {j : Nat} {u : Unit} {k : Nat} (h : ¬ (tkAt ts i).sort = 3) (he : entryM ts i = .ok (e, j)) (hx : expectM ts j mSemi = .ok (u, k)) : parseFrom ts i acc = parseFrom ts k (acc ++ [e]) := by
 rw [parseFrom, dif_neg h]
 split
 ·simp_all
 ·split <;> simp_all
end Go.Proofs.YtccikgogjfbpeabGreatDoor

namespace Go.Proofs.YtccikgogjfbpeabGreatDoor
section
variable {ts : List Tk}
end
end Go.Proofs.YtccikgogjfbpeabGreatDoor
