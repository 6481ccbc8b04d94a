/- What a book that was read is like: bounds; plain. The tree: parts of a range of digits, and what they are about; plain. The tree as it grows; plain. -/
import Derived.Test.YtccikgogjfbpeabGreatDoorWQz
import Derived.Test.YtccikgogjfbpeabGreatDoorWQm
import Derived.Test.YtccikgogjfbpeabGreatDoorWQa
import Derived.Test.YtccikgogjfbpeabGreatDoorWQi
namespace Go.Proofs.YtccikgogjfbpeabGreatDoor
def RtOk (t : RouteM) : Prop := t.name.size <= 3000 /\ t.base < 1000000000 /\ t.rate < 1000000000
structure RlOk (n : Nat) (r : RuleM) : Prop where
 nm : r.name.size <= 3000
 rk : r.rank < 1000000000
 dg : r.digits <= 9
 lo : r.lo < 1000000000 /\ (decN r.lo).length <= r.digits
 hi : r.hi < 1000000000 /\ (decN r.hi).length <= r.digits
 mc : r.mcc.length <= 4000 /\ ∀ x, x ∈ r.mcc -> x < 1000000000
 cu : r.cur.length <= 4000 /\ ∀ x, x ∈ r.cur -> x < 1000000000
 am : ∀ ab, r.am = some ab -> ab.1 < 1000000000 /\ ab.2 < 1000000000
 pl : r.routes.length <= 4000 /\ ∀ x, x ∈ r.routes -> x < n
 ah : r.ahead <= n
 bn : r.digits <= 6 /\ r.hi < 10 ^ r.digits /\ r.lo <= r.hi
def AhOk : Nat -> List RuleM -> Prop
 | _, [] => True
 | told, r :: rs => told <= r.ahead /\ AhOk r.ahead rs
structure BookOk (rts : List RouteM) (rls : List RuleM) : Prop where
 rt : ∀ t, t ∈ rts -> RtOk t
 rl : ∀ r, r ∈ rls -> RlOk rts.length r
 ah : AhOk 0 rls
 r6 : rts.length <= 6
 l8 : rls.length <= 8
theorem ahOk_snoc {r : RuleM} {n : Nat} (hr : r.ahead = n) : ∀ (rls : List RuleM) (told : Nat), told <= n -> (∀ x, x ∈ rls -> x.ahead <= n) -> AhOk told rls -> AhOk told (rls ++ [r])
 | [], told, h, _, _ => ⟨by omega, trivial⟩
 | x :: xs, told, _, ha, h => ⟨h.1, ahOk_snoc hr xs x.ahead (ha x (by simp)) (fun y hy => ha y (by simp [hy])) h.2⟩
theorem RlOk.more {n : Nat} {r : RuleM} (h : RlOk n r) {m : Nat} (hm : n <= m) : RlOk m r :=
 ⟨h.nm, h.rk, h.dg, h.lo, h.hi, h.mc, h.cu, h.am, ⟨h.pl.1, fun x hx => Nat.lt_of_lt_of_le (h.pl.2 x hx) hm⟩, Nat.le_trans h.ah hm, h.bn⟩
theorem valOf_pow (t : Tk) (hd : Dg t.text) : valOf t < 10 ^ t.text.size := by
 have h := numOf_9 t.text.data.toList 0 (fun c hc => by
  obtain ⟨k, hk, e⟩ := List.getElem_of_mem hc
  have h2 := (hd.2 k (by simpa using hk)).2
  unfold bAt at h2
  rw [List.getD_eq_getElem?_getD, List.getElem?_eq_getElem hk, e] at h2
  simp at h2
  omega)
 have e : t.text.data.toList.length = t.text.size := by simp
 rw [e] at h
 unfold valOf numOf
 omega
theorem addRule_ok {rts : List RouteM} {rls : List RuleM} {e : RuleE} {r : RuleM} (h : addRuleM rts rls e = .ok r) (ho : EntOk (.rule e)) (hb : EntB (.rule e)) : RlOk rts.length r /\ r.ahead = rts.length := by
 obtain ⟨o1, o2, o3, o4, o5, o6, o7, o8, o9, o10⟩ := ho
 have hb : 1 <= e.bin.1.text.size /\ 1 <= e.bin.2.text.size := hb
 unfold addRuleM at h
 split at h
 ·cases h
 split at h
 ·cases h
 split at h
 ·cases h
 split at h
 ·cases h
 split at h
 ·cases h
 rename_i h6 hsz
 split at h
 ·cases h
 rename_i hle
 cases hm : numsFrom 9999 0 e.mcc with
 | error f => rw [hm] at h; cases h
 | ok mccs =>
  rw [hm] at h
  dsimp only at h
  split at h
  ·cases h
  cases hc : numsFrom 999 0 e.cur with
  | error f => rw [hc] at h; cases h
  | ok curs =>
   rw [hc] at h
   dsimp only at h
   cases hp : plsFrom rts 0 e.act.routes with
   | error f => rw [hp] at h; cases h
   | ok ps =>
    rw [hp] at h
    injection h with h
    subst h
    have em := (refIntsF_eq 9999 e.mcc 0 (by omega)).2 mccs hm
    have ec := (refIntsF_eq 999 e.cur 0 (by omega)).2 curs hc
    obtain ⟨ep, el⟩ := pls_names rts e.act.routes 0 ps hp
    have hsz' : e.bin.2.text.size = e.bin.1.text.size := by omega
    have lp : ps.length = e.act.routes.length := by have := congrArg List.length ep; simpa using this
    refine ⟨⟨o1, valOf_lt _ o2, o3.1, ⟨valOf_lt _ o3, (pad_val _ o3 hb.1).2⟩, ⟨valOf_lt _ o4, by dsimp only; rw [<- hsz']; exact (pad_val _ o4 hb.2).2⟩, ?_, ?_, ?_, ⟨by dsimp only; omega, el⟩, Nat.le_refl _, by dsimp only; omega, by dsimp only; rw [<- hsz']; exact valOf_pow _ o4, by dsimp only; omega⟩, rfl⟩
    ·dsimp only
     rw [em]
     refine ⟨by simpa using o8, fun x hx => ?_⟩
     obtain ⟨t, ht, rfl⟩ := List.mem_map.1 hx
     exact valOf_lt _ (o5 t ht)
    ·dsimp only
     rw [ec]
     refine ⟨by simpa using o9, fun x hx => ?_⟩
     obtain ⟨t, ht, rfl⟩ := List.mem_map.1 hx
     exact valOf_lt _ (o6 t ht)
    ·intro ab hab
     dsimp only at hab
     cases ha : e.amount with
     | none => rw [ha] at hab; cases hab
     | some cd =>
      rw [ha] at hab
      simp only [Option.map_some, Option.some.injEq] at hab
      subst hab
      exact ⟨valOf_lt _ (o7 cd ha).1, valOf_lt _ (o7 cd ha).2⟩
theorem under_ok : ∀ (xs : List EntE) (rts : List RouteM) (rls : List RuleM) (p : List RouteM × List RuleM), BookOk rts rls -> Distinct (rts.map RouteM.name) -> (∀ x, x ∈ xs -> EntOk x /\ EntB x) -> underM rts rls xs = .ok p -> BookOk p.1 p.2
 | [], rts, rls, p, hB, _, _, h => by
  simp only [underM] at h
  injection h with h
  subst h
  exact hB
 | .route e :: xs, rts, rls, p, hB, hd, ho, h => by
  have hO : EntOk (.route e) := (ho (.route e) (by simp)).1
  cases hq : addRouteM rts e with
  | error f => rw [underM_err (f := f) (by simp only [addM, hq])] at h; cases h
  | ok t =>
   rw [underM_ok (p := (rts ++ [t], rls)) (by simp only [addM, hq])] at h
   have hd' := addRoute_distinct hB.r6 hd hq
   have et := (refRoute_eq rts e hB.r6).2 t hq
   refine under_ok xs (rts ++ [t]) rls p ⟨fun u hu => ?_, fun r hr => (hB.rl r hr).more (by simp), hB.ah, hd'.2, hB.l8⟩ hd'.1 (fun x hx => ho x (by simp [hx])) h
   rcases List.mem_append.1 hu with hu | hu
   ·exact hB.rt u hu
   ·simp at hu
    subst hu
    rw [et]
    exact ⟨hO.1, valOf_lt _ hO.2.1, valOf_lt _ hO.2.2⟩
 | .rule e :: xs, rts, rls, p, hB, hd, ho, h => by
  have hO := ho (.rule e) (by simp)
  cases hq : addRuleM rts rls e with
  | error f => rw [underM_err (f := f) (by simp only [addM, hq])] at h; cases h
  | ok t =>
   rw [underM_ok (p := (rts, rls ++ [t])) (by simp only [addM, hq])] at h
   obtain ⟨h1, h2⟩ := addRule_ok hq hO.1 hO.2
   refine under_ok xs rts (rls ++ [t]) p ⟨hB.rt, fun r hr => ?_, ahOk_snoc h2 rls 0 (Nat.zero_le _) (fun x hx => (hB.rl x hx).ah) hB.ah, hB.r6, addRule_len hB.l8 hq⟩ hd (fun x hx => ho x (by simp [hx])) h
   rcases List.mem_append.1 hr with hr | hr
   ·exact hB.rl r hr
   ·simp at hr
    subst hr
    exact h1
theorem readM_book {s : ByteArray} {p : List RouteM × List RuleM} (h : readM s = .ok p) : BookOk p.1 p.2 := by
 unfold readM at h
 split at h
 ·cases h
 rename_i hs
 cases hL : lexFrom s 0 1 [] with
 | error l => rw [hL] at h; cases h
 | ok ts =>
  rw [hL] at h
  dsimp only at h
  cases hP : parseFrom ts 0 [] with
  | error l => rw [hP] at h; cases h
  | ok r =>
   obtain ⟨xs, k⟩ := r
   rw [hP] at h
   dsimp only at h
   obtain ⟨body, hts, hB, hall⟩ := lex_body hL
   have hlen := lexFrom_len _ 0 1 [] ts rfl (Nat.zero_le _) hL
   simp only [List.length_nil] at hlen
   have hO := parse_ok (ts := ts) (n := s.size) (lexFrom_all _ 0 1 [] ts rfl (by simp) hL).1 (by omega) (by omega) _ 0 [] xs k rfl (by simp) hP
   rw [hts] at hP
   have hW := parse_w rfl hB _ 0 [] xs k rfl (fun x hx => by simp at hx) hP
   exact under_ok xs [] [] p ⟨by simp, by simp, trivial, by simp, by simp⟩ trivial (fun x hx => ⟨hO x hx, (hW x hx).2⟩) h
end Go.Proofs.YtccikgogjfbpeabGreatDoor

namespace Go.Proofs.YtccikgogjfbpeabGreatDoor
structure Part where
 d : Nat
 x : Nat
def Part.longer (p : Part) (k : Nat) : Part := ⟨p.d + 1, p.x * 10 + k⟩
def Part.holds (p q : Part) : Bool := decide (p.d <= q.d) && (q.x / 10 ^ (q.d - p.d) == p.x)
def climb (low hi : Nat) : Nat -> Nat -> Nat
 | 0, k => k
 | n + 1, k => if low / 10 ^ k % 10 = 0 /\ low + 10 ^ (k + 1) <= hi + 1 then climb low hi n (k + 1) else k
def topK (low hi : Nat) : Nat := climb low hi 9 0
def partsFrom (d hi : Nat) : Nat -> Nat -> List Part
 | 0, _ => []
 | n + 1, low => if low <= hi then ⟨d - topK low hi, low / 10 ^ topK low hi⟩ :: partsFrom d hi n (low + 10 ^ topK low hi) else []
def partsM (d lo hi : Nat) : List Part := partsFrom d hi (hi + 1 - lo) lo
def aboutL (q : Part) : List Part -> Nat
 | [] => 0
 | p :: r => if p.holds q then 2 else if q.holds p then 1 else aboutL q r
def inPart (q : Part) (c : Nat) : Prop := c / 10 ^ (6 - q.d) = q.x
def inBin (d lo hi c : Nat) : Prop := lo <= c / 10 ^ (6 - d) /\ c / 10 ^ (6 - d) <= hi
theorem div_pow_add (c a b : Nat) : c / 10 ^ (a + b) = c / 10 ^ a / 10 ^ b := by rw [Nat.pow_add, Nat.div_div_eq_div_mul]
theorem holds_iff {p q : Part} : p.holds q = true ↔ p.d <= q.d /\ q.x / 10 ^ (q.d - p.d) = p.x := by
 unfold Part.holds
 simp
theorem holds_in {p q : Part} {c : Nat} (h : p.holds q = true) (hq : q.d <= 6) (hc : inPart q c) : inPart p c := by
 obtain ⟨h1, h2⟩ := holds_iff.1 h
 unfold inPart at *
 rw [show 6 - p.d = (6 - q.d) + (q.d - p.d) from by omega, div_pow_add, hc, h2]
theorem nest {p q : Part} {c : Nat} (hp : inPart p c) (hq : inPart q c) (hle : p.d <= q.d) (h6 : q.d <= 6) : p.holds q = true := by
 refine holds_iff.2 ⟨hle, ?_⟩
 unfold inPart at *
 rw [<- hq, <- div_pow_add, show (6 - q.d) + (q.d - p.d) = 6 - p.d from by omega]
 exact hp
def Fit (low hi k : Nat) : Prop := 10 ^ k ∣ low /\ low + 10 ^ k <= hi + 1
theorem fit_succ {low hi k : Nat} (h : Fit low hi k) (h0 : low / 10 ^ k % 10 = 0) (h1 : low + 10 ^ (k + 1) <= hi + 1) : Fit low hi (k + 1) := by
 refine ⟨?_, h1⟩
 obtain ⟨m, hm⟩ := h.1
 have hpos : 0 < 10 ^ k := Nat.pow_pos (by omega)
 have hd : low / 10 ^ k = m := by rw [hm, Nat.mul_div_cancel_left _ hpos]
 rw [hd] at h0
 obtain ⟨j, hj⟩ : 10 ∣ m := Nat.dvd_of_mod_eq_zero h0
 exact ⟨j, by rw [hm, hj, Nat.pow_succ, Nat.mul_assoc]⟩
theorem fit_climb {low hi : Nat} : ∀ (n k : Nat), Fit low hi k -> Fit low hi (climb low hi n k)
 | 0, _, h => h
 | n + 1, k, h => by
  unfold climb
  split
  ·rename_i hc
   exact fit_climb n (k + 1) (fit_succ h hc.1 hc.2)
  ·exact h
theorem fit_top {low hi : Nat} (h : low <= hi) : Fit low hi (topK low hi) := fit_climb 9 0 ⟨by simp, by simp; omega⟩
theorem pow_le_inv {a b : Nat} (h : 10 ^ a <= 10 ^ b) : a <= b := (Nat.pow_le_pow_iff_right (by omega)).1 h
theorem top_le {low hi d : Nat} (h : low <= hi) (hd : hi < 10 ^ d) : topK low hi <= d := by
 have hf := (fit_top h).2
 exact pow_le_inv (by omega)
theorem in_first {d low hi c : Nat} (h : low <= hi) (hd : hi < 10 ^ d) (h6 : d <= 6) : inPart ⟨d - topK low hi, low / 10 ^ topK low hi⟩ c ↔ low <= c / 10 ^ (6 - d) /\ c / 10 ^ (6 - d) < low + 10 ^ topK low hi := by
 have hk := top_le h hd
 obtain ⟨m, hm⟩ := (fit_top h).1
 generalize topK low hi = k at *
 unfold inPart
 have hpos : 0 < 10 ^ k := Nat.pow_pos (by omega)
 show c / 10 ^ (6 - (d - k)) = low / 10 ^ k ↔ _
 rw [show 6 - (d - k) = (6 - d) + k from by omega, div_pow_add, hm, Nat.mul_div_cancel_left _ hpos]
 generalize c / 10 ^ (6 - d) = y
 constructor
 ·intro e
  have h1 := Nat.div_add_mod y (10 ^ k)
  have h2 := Nat.mod_lt y hpos
  rw [e] at h1
  omega
 ·rintro ⟨h1, h2⟩
  have h3 : 10 ^ k * m <= y := h1
  have h4 : y < 10 ^ k * (m + 1) := by rw [Nat.mul_add, Nat.mul_one]; exact h2
  apply Nat.le_antisymm
  ·exact Nat.le_of_lt_succ ((Nat.div_lt_iff_lt_mul hpos).2 (by rw [Nat.mul_comm]; exact h4))
  ·exact (Nat.le_div_iff_mul_le hpos).2 (by rw [Nat.mul_comm]; exact h3)
theorem parts_sound {d hi c : Nat} (hd : hi < 10 ^ d) (h6 : d <= 6) {p : Part} : ∀ (n low : Nat), p ∈ partsFrom d hi n low -> p.d <= d /\ (inPart p c -> low <= c / 10 ^ (6 - d) /\ c / 10 ^ (6 - d) <= hi)
 | 0, _, h => by simp [partsFrom] at h
 | n + 1, low, h => by
  unfold partsFrom at h
  split at h
  ·rename_i hl
   rcases List.mem_cons.1 h with e | h
   ·subst e
    refine ⟨Nat.sub_le _ _, fun hc => ?_⟩
    have h1 := (in_first hl hd h6).1 hc
    have h2 := (fit_top hl).2
    omega
   ·have h1 := parts_sound hd h6 n _ h (c := c)
    have hpos : 0 < 10 ^ topK low hi := Nat.pow_pos (by omega)
    exact ⟨h1.1, fun hc => by have := h1.2 hc; omega⟩
  ·cases h
theorem parts_cover {d hi c : Nat} (hd : hi < 10 ^ d) (h6 : d <= 6) : ∀ (n low : Nat), hi + 1 - low <= n -> low <= c / 10 ^ (6 - d) -> c / 10 ^ (6 - d) <= hi -> ∃ p, p ∈ partsFrom d hi n low /\ inPart p c
 | 0, low, hn, h1, h2 => by omega
 | n + 1, low, hn, h1, h2 => by
  have hl : low <= hi := by omega
  unfold partsFrom
  rw [if_pos hl]
  have hpos : 0 < 10 ^ topK low hi := Nat.pow_pos (by omega)
  by_cases hc : c / 10 ^ (6 - d) < low + 10 ^ topK low hi
  ·exact ⟨_, List.mem_cons_self, (in_first hl hd h6).2 ⟨h1, hc⟩⟩
  ·obtain ⟨p, hp, hi'⟩ := parts_cover hd h6 n (low + 10 ^ topK low hi) (by omega) (by omega) h2
   exact ⟨p, List.mem_cons_of_mem _ hp, hi'⟩
theorem about_two {q : Part} : ∀ {ps : List Part}, aboutL q ps = 2 -> ∃ p, p ∈ ps /\ p.holds q = true
 | [], h => by simp [aboutL] at h
 | p :: r, h => by
  unfold aboutL at h
  split at h
  ·rename_i hp; exact ⟨p, List.mem_cons_self, hp⟩
  ·split at h
   ·omega
   ·obtain ⟨p', h1, h2⟩ := about_two h
    exact ⟨p', List.mem_cons_of_mem _ h1, h2⟩
theorem about_one {q : Part} : ∀ {ps : List Part}, aboutL q ps = 1 -> ∃ p, p ∈ ps /\ q.d < p.d
 | [], h => by simp [aboutL] at h
 | p :: r, h => by
  unfold aboutL at h
  split at h
  ·omega
  ·rename_i hp
   split at h
   ·rename_i hq
    refine ⟨p, List.mem_cons_self, ?_⟩
    obtain ⟨h1, h2⟩ := holds_iff.1 hq
    rcases Nat.lt_or_ge q.d p.d with hlt | hge
    ·exact hlt
    ·exfalso
     have e : q.d = p.d := by omega
     apply hp
     refine holds_iff.2 ⟨by omega, ?_⟩
     rw [e, Nat.sub_self, Nat.pow_zero, Nat.div_one] at h2 ⊢
     exact h2.symm
   ·obtain ⟨p', h1, h2⟩ := about_one h
    exact ⟨p', List.mem_cons_of_mem _ h1, h2⟩
theorem about_zero {q : Part} : ∀ {ps : List Part}, aboutL q ps = 0 -> ∀ p, p ∈ ps -> p.holds q = false /\ q.holds p = false
 | [], _, _, hp => by cases hp
 | p :: r, h, p', hp' => by
  unfold aboutL at h
  split at h
  ·omega
  ·rename_i hp
   split at h
   ·omega
   ·rename_i hq
    rcases List.mem_cons.1 hp' with e | hp'
    ·subst e; exact ⟨by simpa using hp, by simpa using hq⟩
    ·exact about_zero h p' hp'
theorem aboutL_le (q : Part) : ∀ ps : List Part, aboutL q ps <= 2
 | [] => by simp [aboutL]
 | p :: r => by
  unfold aboutL
  split
  ·omega
  ·split
   ·omega
   ·exact aboutL_le q r
theorem about_all {d lo hi : Nat} {q : Part} (hd : hi < 10 ^ d) (h6 : d <= 6) (hq : q.d <= 6) (h : aboutL q (partsM d lo hi) = 2) {c : Nat} (hc : inPart q c) : inBin d lo hi c := by
 obtain ⟨p, hp, hh⟩ := about_two h
 exact (parts_sound hd h6 _ _ hp).2 (holds_in hh hq hc)
theorem about_none {d lo hi : Nat} {q : Part} (hd : hi < 10 ^ d) (h6 : d <= 6) (hq : q.d <= 6) (h : aboutL q (partsM d lo hi) = 0) {c : Nat} (hc : inPart q c) : ¬ inBin d lo hi c := by
 rintro ⟨h1, h2⟩
 obtain ⟨p, hp, hpc⟩ := parts_cover hd h6 (hi + 1 - lo) lo (Nat.le_refl _) h1 h2
 have hz := about_zero h p hp
 have hpd := (parts_sound (c := c) hd h6 _ _ hp).1
 rcases Nat.le_total p.d q.d with hle | hle
 ·rw [nest hpc hc hle hq] at hz; exact absurd hz.1 (by simp)
 ·rw [nest hc hpc hle (by omega)] at hz; exact absurd hz.2 (by simp)
theorem about_some {d lo hi : Nat} {q : Part} (hd : hi < 10 ^ d) (h6 : d <= 6) (h : aboutL q (partsM d lo hi) = 1) : q.d < d := by
 obtain ⟨p, hp, hlt⟩ := about_one h
 have := (parts_sound (c := 0) hd h6 _ _ hp).1
 omega
end Go.Proofs.YtccikgogjfbpeabGreatDoor

namespace Go.Proofs.YtccikgogjfbpeabGreatDoor
inductive Tr where
 | leaf (p : Nat)
 | node (kids : Nat -> Tr)
def siftM (q : Part) (op : Nat) : Nat -> List RuleM -> Nat × Nat -> Nat × Nat
 | _, [], a => a
 | i, r :: rs, a => siftM q op (i + 1) rs (if op.testBit i then (if aboutL q (partsM r.digits r.lo r.hi) = 2 then (a.1 ||| 1 <<< i, a.2) else if aboutL q (partsM r.digits r.lo r.hi) = 1 then (a.1, a.2 ||| 1 <<< i) else a) else a)
def placeM (ps : List Nat) (m : Nat) : Nat := ps.idxOf m
def placedM (ps : List Nat) (m : Nat) : List Nat := if m ∈ ps then ps else ps ++ [m]
def kidsM (f : Nat -> List Nat -> Tr × List Nat) : Nat -> List Nat -> (Nat -> Tr) × List Nat
 | 0, ps => (fun _ => .leaf 0, ps)
 | k + 1, ps => (fun d => if d = k then (f k (kidsM f k ps).2).1 else (kidsM f k ps).1 d, (f k (kidsM f k ps).2).2)
def growM (R : List RuleM) : Nat -> Part -> Nat -> Nat -> List Nat -> Tr × List Nat
 | 0, _, _, _, ps => (.leaf 0, ps)
 | n + 1, q, met, op, ps =>
  if (siftM q op 0 R (met, 0)).2 = 0 then (.leaf (placeM ps (siftM q op 0 R (met, 0)).1), placedM ps (siftM q op 0 R (met, 0)).1)
  else (.node (kidsM (fun d ps' => growM R n (q.longer d) (siftM q op 0 R (met, 0)).1 (siftM q op 0 R (met, 0)).2 ps') 10 ps).1, (kidsM (fun d ps' => growM R n (q.longer d) (siftM q op 0 R (met, 0)).1 (siftM q op 0 R (met, 0)).2 ps') 10 ps).2)
def Tr.find : Tr -> (Nat -> Nat) -> Nat -> Nat
 | .leaf p, _, _ => p
 | .node k, dg, n => (k (dg n)).find dg (n + 1)
def Tr.deep : Tr -> Nat -> Prop
 | .leaf _, _ => True
 | .node k, n => n < 6 /\ ∀ d, d < 10 -> (k d).deep (n + 1)
def dgt (c n : Nat) : Nat := c / 10 ^ (5 - n) % 10
theorem bit_or (a i j : Nat) : (a ||| 1 <<< i).testBit j = (a.testBit j || decide (i = j)) := by
 rw [Nat.testBit_or, Nat.shiftLeft_eq, Nat.one_mul, Nat.testBit_two_pow]
theorem sift_ok {q : Part} {op : Nat} : ∀ (R : List RuleM) (i : Nat) (a : Nat × Nat) (j : Nat),
    ((siftM q op i R a).1.testBit j = true ↔ a.1.testBit j = true \/ ∃ r, i <= j /\ R[j - i]? = some r /\ op.testBit j = true /\ aboutL q (partsM r.digits r.lo r.hi) = 2) /\
    ((siftM q op i R a).2.testBit j = true ↔ a.2.testBit j = true \/ ∃ r, i <= j /\ R[j - i]? = some r /\ op.testBit j = true /\ aboutL q (partsM r.digits r.lo r.hi) = 1)
  | [], i, a, j => by simp [siftM]
  | r :: rs, i, a, j => by
    have ih := fun a => sift_ok (q := q) (op := op) rs (i + 1) a j
    simp only [siftM]
    have key : ∀ (P : RuleM -> Prop), (∃ r', i <= j /\ (r :: rs)[j - i]? = some r' /\ P r') ↔ ((i = j /\ P r) \/ ∃ r', i + 1 <= j /\ rs[j - (i + 1)]? = some r' /\ P r') := by
      intro P
      constructor
      · rintro ⟨r', h1, h2, h3⟩
        rcases Nat.eq_or_lt_of_le h1 with e | hlt
        · subst e
          rw [Nat.sub_self] at h2
          simp at h2
          subst h2
          exact Or.inl ⟨rfl, h3⟩
        · rw [show j - i = (j - (i + 1)) + 1 from by omega, List.getElem?_cons_succ] at h2
          exact Or.inr ⟨r', hlt, h2, h3⟩
      · rintro (⟨e, h⟩ | ⟨r', h1, h2, h3⟩)
        · subst e
          exact ⟨r, Nat.le_refl _, by simp, h⟩
        · refine ⟨r', by omega, ?_, h3⟩
          rw [show j - i = (j - (i + 1)) + 1 from by omega, List.getElem?_cons_succ]
          exact h2
    rw [(ih _).1, (ih _).2, key, key]
    split
    · rename_i ho
      split
      · rename_i h2
        simp only [bit_or]
        constructor
        · simp only [Bool.or_eq_true, decide_eq_true_eq]
          constructor
          · rintro ((h | h) | h)
            · exact Or.inl h
            · exact Or.inr (Or.inl ⟨h, by rw [<- h]; exact ho, h2⟩)
            · exact Or.inr (Or.inr h)
          · rintro (h | ⟨h, _⟩ | h)
            · exact Or.inl (Or.inl h)
            · exact Or.inl (Or.inr h)
            · exact Or.inr h
        · constructor
          · rintro (h | h)
            · exact Or.inl h
            · exact Or.inr (Or.inr h)
          · rintro (h | ⟨h, _, h'⟩ | h)
            · exact Or.inl h
            · omega
            · exact Or.inr h
      · rename_i h2
        split
        · rename_i h1
          simp only [bit_or]
          constructor
          · constructor
            · rintro (h | h)
              · exact Or.inl h
              · exact Or.inr (Or.inr h)
            · rintro (h | ⟨h, _, h'⟩ | h)
              · exact Or.inl h
              · exact absurd h' h2
              · exact Or.inr h
          · simp only [Bool.or_eq_true, decide_eq_true_eq]
            constructor
            · rintro ((h | h) | h)
              · exact Or.inl h
              · exact Or.inr (Or.inl ⟨h, by rw [<- h]; exact ho, h1⟩)
              · exact Or.inr (Or.inr h)
            · rintro (h | ⟨h, _⟩ | h)
              · exact Or.inl (Or.inl h)
              · exact Or.inl (Or.inr h)
              · exact Or.inr h
        · rename_i h1
          constructor
          · constructor
            · rintro (h | h)
              · exact Or.inl h
              · exact Or.inr (Or.inr h)
            · rintro (h | ⟨h, _, h'⟩ | h)
              · exact Or.inl h
              · exact absurd h' h2
              · exact Or.inr h
          · constructor
            · rintro (h | h)
              · exact Or.inl h
              · exact Or.inr (Or.inr h)
            · rintro (h | ⟨h, _, h'⟩ | h)
              · exact Or.inl h
              · exact absurd h' h1
              · exact Or.inr h
    · rename_i ho
      constructor
      · constructor
        · rintro (h | h)
          · exact Or.inl h
          · exact Or.inr (Or.inr h)
        · rintro (h | ⟨h, h', _⟩ | h)
          · exact Or.inl h
          · subst h; exact absurd h' ho
          · exact Or.inr h
      · constructor
        · rintro (h | h)
          · exact Or.inl h
          · exact Or.inr (Or.inr h)
        · rintro (h | ⟨h, h', _⟩ | h)
          · exact Or.inl h
          · subst h; exact absurd h' ho
          · exact Or.inr h
def BinOk (r : RuleM) : Prop := r.digits <= 6 /\ r.hi < 10 ^ r.digits
def KnowsAt (R : List RuleM) (q : Part) (met op : Nat) : Prop :=
 ∀ i r, R[i]? = some r -> (met.testBit i = true -> ∀ c, inPart q c -> inBin r.digits r.lo r.hi c) /\ (met.testBit i = false -> op.testBit i = false -> ∀ c, inPart q c -> ¬ inBin r.digits r.lo r.hi c)
theorem sift_knows {R : List RuleM} (hR : ∀ r, r ∈ R -> BinOk r) {q : Part} (hq : q.d <= 6) {met op : Nat} (h : KnowsAt R q met op) : KnowsAt R q (siftM q op 0 R (met, 0)).1 (siftM q op 0 R (met, 0)).2 := by
 intro i r hr
 have hb := hR r (List.mem_of_getElem? hr)
 have hs := sift_ok (q := q) (op := op) R 0 (met, 0) i
 rw [Nat.sub_zero] at hs
 constructor
 ·intro hm c hc
  rcases hs.1.1 hm with h1 | ⟨r', _, h2, _, h4⟩
  ·exact (h i r hr).1 h1 c hc
  ·rw [hr] at h2
   injection h2 with h2
   subst h2
   exact about_all hb.2 hb.1 hq h4 hc
 ·intro hm ho c hc
  have n1 : ¬ (met.testBit i = true) := fun e => by have := hs.1.2 (Or.inl e); rw [hm] at this; cases this
  by_cases hop : op.testBit i = true
  ·refine about_none hb.2 hb.1 hq ?_ hc
   have hle := aboutL_le q (partsM r.digits r.lo r.hi)
   have n2 : aboutL q (partsM r.digits r.lo r.hi) ≠ 2 := fun e => by have := hs.1.2 (Or.inr ⟨r, Nat.zero_le _, hr, hop, e⟩); rw [hm] at this; cases this
   have n3 : aboutL q (partsM r.digits r.lo r.hi) ≠ 1 := fun e => by have := hs.2.2 (Or.inr ⟨r, Nat.zero_le _, hr, hop, e⟩); rw [ho] at this; cases this
   omega
  ·exact (h i r hr).2 (by simpa using n1) (by simpa using hop) c hc
theorem longer_in {q : Part} {c : Nat} (hq : q.d < 6) : inPart (q.longer (dgt c q.d)) c ↔ inPart q c := by
 unfold inPart dgt Part.longer
 simp only
 rw [show 6 - q.d = (5 - q.d) + 1 from by omega, show 6 - (q.d + 1) = 5 - q.d from by omega, div_pow_add]
 simp only [Nat.pow_one]
 generalize c / 10 ^ (5 - q.d) = y
 omega
theorem knows_longer {R : List RuleM} {q : Part} {met op d : Nat} (hq : q.d < 6) (hd : d < 10) (h : KnowsAt R q met op) : KnowsAt R (q.longer d) met op := by
 intro i r hr
 have hin : ∀ c, inPart (q.longer d) c -> inPart q c := by
  intro c hc
  unfold inPart Part.longer at *
  simp only at hc
  rw [show 6 - q.d = (5 - q.d) + 1 from by omega, div_pow_add]
  rw [show 6 - (q.d + 1) = 5 - q.d from by omega] at hc
  rw [hc, Nat.pow_one]
  omega
 exact ⟨fun hm c hc => (h i r hr).1 hm c (hin c hc), fun hm ho c hc => (h i r hr).2 hm ho c (hin c hc)⟩
theorem placed_ext (ps : List Nat) (m : Nat) : ∃ s, placedM ps m = ps ++ s := by
 unfold placedM
 split
 ·exact ⟨[], by simp⟩
 ·exact ⟨[m], rfl⟩
theorem placed_at (ps : List Nat) (m : Nat) : (placedM ps m)[placeM ps m]? = some m := by
 unfold placedM placeM
 split
 ·rename_i h
  have := List.idxOf_lt_length_of_mem h
  rw [List.getElem?_eq_getElem this, List.getElem_idxOf this]
 ·rename_i h
  rw [List.idxOf_eq_length h]
  simp
theorem placed_nodup {ps : List Nat} {m : Nat} (h : ps.Nodup) : (placedM ps m).Nodup := by
 unfold placedM
 split
 ·exact h
 ·rename_i hm
  rw [List.nodup_append]
  exact ⟨h, by simp, fun a ha b hb => by simp at hb; subst hb; exact fun e => hm (e ▸ ha)⟩
theorem split_deep {R : List RuleM} (hR : ∀ r, r ∈ R -> BinOk r) {q : Part} {met op : Nat} (h : (siftM q op 0 R (met, 0)).2 ≠ 0) : q.d < 6 := by
 obtain ⟨j, hj⟩ := Nat.exists_testBit_of_ne_zero h
 rcases (sift_ok R 0 (met, 0) j).2.1 hj with h1 | ⟨r, _, h2, _, h3⟩
 ·simp at h1
 ·have hb := hR r (List.mem_of_getElem? h2)
  have := about_some hb.2 hb.1 h3
  have := hb.1
  omega
def GrowOk (R : List RuleM) (q : Part) (t : Tr) (ps : List Nat) : Prop :=
 t.deep q.d /\ ∀ c, inPart q c -> ∃ m, ps[t.find (dgt c) q.d]? = some m /\ ∀ i r, R[i]? = some r -> (m.testBit i = true ↔ inBin r.digits r.lo r.hi c)
theorem GrowOk.ext {R : List RuleM} {q : Part} {t : Tr} {ps s : List Nat} (h : GrowOk R q t ps) : GrowOk R q t (ps ++ s) :=
 ⟨h.1, fun c hc => by
  obtain ⟨m, h1, h2⟩ := h.2 c hc
  exact ⟨m, by rw [List.getElem?_append_left (List.getElem?_eq_some_iff.1 h1).1]; exact h1, h2⟩⟩
theorem kids_ext {f : Nat -> List Nat -> Tr × List Nat} (hf : ∀ d ps, ∃ s, (f d ps).2 = ps ++ s) : ∀ (k : Nat) (ps : List Nat), ∃ s, (kidsM f k ps).2 = ps ++ s
 | 0, ps => ⟨[], by simp [kidsM]⟩
 | k + 1, ps => by
  obtain ⟨s1, h1⟩ := kids_ext hf k ps
  obtain ⟨s2, h2⟩ := hf k (kidsM f k ps).2
  exact ⟨s1 ++ s2, by show (f k (kidsM f k ps).2).2 = _; rw [h2, h1, List.append_assoc]⟩
theorem kids_ok {R : List RuleM} {q : Part} {f : Nat -> List Nat -> Tr × List Nat} (hf : ∀ d ps, ∃ s, (f d ps).2 = ps ++ s) (hg : ∀ d ps, d < 10 -> GrowOk R (q.longer d) (f d ps).1 (f d ps).2) : ∀ (k : Nat) (ps : List Nat), k <= 10 -> ∀ d, d < k -> GrowOk R (q.longer d) ((kidsM f k ps).1 d) (kidsM f k ps).2
 | 0, _, _, _, hd => by omega
 | k + 1, ps, hk, d, hd => by
  by_cases e : d = k
  ·subst e
   simp only [kidsM, if_true]
   exact hg d _ (by omega)
  ·simp only [kidsM, if_neg e]
   obtain ⟨s, hs⟩ := hf k (kidsM f k ps).2
   rw [hs]
   exact (kids_ok hf hg k ps (by omega) d (by omega)).ext
theorem grow_ext (R : List RuleM) : ∀ (n : Nat) (q : Part) (met op : Nat) (ps : List Nat), ∃ s, (growM R n q met op ps).2 = ps ++ s
 | 0, _, _, _, ps => ⟨[], by simp [growM]⟩
 | n + 1, q, met, op, ps => by
  simp only [growM]
  split
  ·exact placed_ext _ _
  ·exact kids_ext (f := fun d ps' => growM R n (q.longer d) (siftM q op 0 R (met, 0)).1 (siftM q op 0 R (met, 0)).2 ps') (fun d ps' => grow_ext R n _ _ _ ps') 10 ps
theorem grow_ok {R : List RuleM} (hR : ∀ r, r ∈ R -> BinOk r) : ∀ (n : Nat) (q : Part) (met op : Nat) (ps : List Nat), 7 <= n + q.d -> q.d <= 6 -> KnowsAt R q met op -> GrowOk R q (growM R n q met op ps).1 (growM R n q met op ps).2
 | 0, q, _, _, _, hn, hq, _ => by omega
 | n + 1, q, met, op, ps, hn, hq, hk => by
  have hs := sift_knows hR hq hk
  simp only [growM]
  split
  ·rename_i h0
   refine ⟨trivial, fun c hc => ⟨_, placed_at _ _, fun i r hr => ?_⟩⟩
   constructor
   ·intro hm; exact (hs i r hr).1 hm c hc
   ·intro hi
    cases hm : (siftM q op 0 R (met, 0)).1.testBit i with
    | true => rfl
    | false => exact absurd hi ((hs i r hr).2 hm (by rw [h0]; simp) c hc)
  ·rename_i h0
   have hq6 := split_deep hR h0
   have hg : ∀ d ps', d < 10 -> GrowOk R (q.longer d) (growM R n (q.longer d) (siftM q op 0 R (met, 0)).1 (siftM q op 0 R (met, 0)).2 ps').1 (growM R n (q.longer d) (siftM q op 0 R (met, 0)).1 (siftM q op 0 R (met, 0)).2 ps').2 := fun d ps' hd =>
    grow_ok hR n (q.longer d) _ _ ps' (by show 7 <= n + (q.d + 1); omega) (by show q.d + 1 <= 6; omega) (knows_longer hq6 hd hs)
   have hkk := kids_ok (fun d ps' => grow_ext R n _ _ _ ps') hg 10 ps (Nat.le_refl _)
   refine ⟨⟨hq6, fun d hd => (hkk d hd).1⟩, fun c hc => ?_⟩
   have hd : dgt c q.d < 10 := by unfold dgt; omega
   exact (hkk _ hd).2 c ((longer_in hq6).2 hc)
end Go.Proofs.YtccikgogjfbpeabGreatDoor
