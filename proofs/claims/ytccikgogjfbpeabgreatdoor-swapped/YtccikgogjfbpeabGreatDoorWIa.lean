/- The checksum, plainly: numbers of bits, and the remainder by a polynomial. Images, plainly: how a body is read, and what holds of what was read. The reader of images: insist, take, number. The reader of images: names and routes. -/
import Derived.Test.YtccikgogjfbpeabGreatDoorWHa
import Derived.Test.YtccikgogjfbpeabGreatDoorWDa
namespace Go.Proofs.YtccikgogjfbpeabGreatDoor
def leN : List UInt8 -> Nat
 | [] => 0
 | c :: r => c.toNat + 256 * leN r
def t1 (r : Nat) : Nat := (r / 2) ^^^ (if r % 2 = 1 then 3988292384 else 0)
def tn : Nat -> Nat -> Nat
 | 0, r => r
 | n + 1, r => tn n (t1 r)
theorem t1_xor (a b : Nat) : t1 (a ^^^ b) = t1 a ^^^ t1 b := by
 unfold t1
 have h := Nat.xor_mod_two_pow (a := a) (b := b) (n := 1)
 simp only [Nat.pow_one] at h
 rw [Nat.xor_div_two, h]
 have e : ∀ p q x y : Nat, (p ^^^ x) ^^^ (q ^^^ y) = (p ^^^ q) ^^^ (x ^^^ y) := fun p q x y => by
  rw [Nat.xor_assoc, <- Nat.xor_assoc x, Nat.xor_comm x q, Nat.xor_assoc q, <- Nat.xor_assoc]
 rw [e]
 congr 1
 rcases Nat.mod_two_eq_zero_or_one a with ha | ha <;> rcases Nat.mod_two_eq_zero_or_one b with hb | hb <;> rw [ha, hb] <;> decide
theorem tn_xor : ∀ (n a b : Nat), tn n (a ^^^ b) = tn n a ^^^ tn n b
 | 0, _, _ => rfl
 | n + 1, a, b => by
  show tn n (t1 (a ^^^ b)) = _
  rw [t1_xor, tn_xor n]
  rfl
theorem tn_add : ∀ (m n r : Nat), tn (m + n) r = tn n (tn m r)
 | 0, n, r => by rw [Nat.zero_add]; rfl
 | m + 1, n, r => by
  rw [show m + 1 + n = (m + n) + 1 from by omega]
  exact tn_add m n (t1 r)
theorem t1_two (q : Nat) : t1 (2 * q) = q := by
 unfold t1
 rw [Nat.mul_div_cancel_left q (by decide), if_neg (by omega), Nat.xor_zero]
theorem tn_pow : ∀ (n q : Nat), tn n (2 ^ n * q) = q
 | 0, q => by simp [tn]
 | n + 1, q => by
  show tn n (t1 (2 ^ (n + 1) * q)) = q
  rw [show 2 ^ (n + 1) * q = 2 * (2 ^ n * q) from by rw [Nat.pow_succ, Nat.mul_comm (2 ^ n) 2, Nat.mul_assoc], t1_two]
  exact tn_pow n q
theorem t1_lt {r : Nat} (h : r < 4294967296) : t1 r < 4294967296 := by
 unfold t1
 exact Nat.xor_lt_two_pow (n := 32) (by omega) (by split <;> omega)
theorem tn_lt : ∀ (n : Nat) {r : Nat}, r < 4294967296 -> tn n r < 4294967296
 | 0, _, h => h
 | n + 1, _, h => tn_lt n (t1_lt h)
theorem add_xor {n a b : Nat} (h : b < 2 ^ n) : b ^^^ 2 ^ n * a = b + 2 ^ n * a := by
 apply Nat.eq_of_testBit_eq
 intro i
 rw [Nat.testBit_xor, Nat.add_comm b, Nat.testBit_two_pow_mul_add _ h, Nat.testBit_two_pow_mul]
 by_cases hi : i < n
 ·have : ¬ n <= i := by omega
  simp [hi, this]
 ·have h2 : b < 2 ^ i := Nat.lt_of_lt_of_le h (Nat.pow_le_pow_right (by decide) (by omega))
  simp [hi, Nat.testBit_lt_two_pow h2, show n <= i from by omega]
def crc : Nat -> List UInt8 -> Nat
 | r, [] => r
 | r, c :: l => crc (tn 8 (r ^^^ c.toNat)) l
theorem crc_eq : ∀ (l : List UInt8) (r : Nat), crc r l = tn (8 * l.length) (r ^^^ leN l)
 | [], r => by simp [crc, leN, tn]
 | c :: l, r => by
  have hc : c.toNat < 2 ^ 8 := c.toNat_lt
  show crc (tn 8 (r ^^^ c.toNat)) l = _
  rw [crc_eq l, show leN (c :: l) = c.toNat ^^^ 2 ^ 8 * leN l from (add_xor hc).symm, <- Nat.xor_assoc, show 8 * (c :: l).length = 8 + 8 * l.length from by simp; omega, tn_add, tn_xor 8 (r ^^^ c.toNat), tn_pow 8]
theorem leN_app : ∀ (l m : List UInt8), leN (l ++ m) = leN l + 2 ^ (8 * l.length) * leN m
 | [], m => by simp [leN]
 | c :: l, m => by
  show c.toNat + 256 * leN (l ++ m) = (c.toNat + 256 * leN l) + _
  rw [leN_app l m, Nat.mul_add, show 8 * (c :: l).length = 8 + 8 * l.length from by simp; omega, Nat.pow_add, show (2 : Nat) ^ 8 = 256 from by decide, Nat.mul_assoc, Nat.add_assoc]
theorem leN_lt : ∀ (l : List UInt8), leN l < 2 ^ (8 * l.length)
 | [] => by simp [leN]
 | c :: l => by
  have := leN_lt l
  have hc : c.toNat < 256 := c.toNat_lt
  show c.toNat + 256 * leN l < _
  rw [show 8 * (c :: l).length = 8 + 8 * l.length from by simp; omega, Nat.pow_add, show (2 : Nat) ^ 8 = 256 from by decide]
  omega
def halfL : List Nat := [0, 498536548, 997073096, 651767980, 1994146192, 1802195444, 1303535960, 1342533948, 3988292384, 4027552580, 3604390888, 3412177804, 2607071920, 2262029012, 2685067896, 3183342108]
theorem half_eq (r : Nat) : tn 4 r = (r / 16) ^^^ halfL.getD (r % 16) 0 := by
 have h : r % 16 < 2 ^ 4 := by omega
 have e : r = r % 16 ^^^ 2 ^ 4 * (r / 16) := by rw [add_xor h]; omega
 conv => lhs; rw [e]
 rw [tn_xor, tn_pow, Nat.xor_comm]
 congr 1
 have : r % 16 = 0 \/ r % 16 = 1 \/ r % 16 = 2 \/ r % 16 = 3 \/ r % 16 = 4 \/ r % 16 = 5 \/ r % 16 = 6 \/ r % 16 = 7 \/ r % 16 = 8 \/ r % 16 = 9 \/ r % 16 = 10 \/ r % 16 = 11 \/ r % 16 = 12 \/ r % 16 = 13 \/ r % 16 = 14 \/ r % 16 = 15 := by omega
 rcases this with h | h | h | h | h | h | h | h | h | h | h | h | h | h | h | h <;> rw [h] <;> decide
end Go.Proofs.YtccikgogjfbpeabGreatDoor

namespace Go.Proofs.YtccikgogjfbpeabGreatDoor
abbrev Rd (α : Type) := Nat -> Option (α × Nat)
def takeR (b : List UInt8) (n : Nat) : Rd (List UInt8) := fun i => if i + n <= b.length then some ((b.drop i).take n, i + n) else none
def numR (b : List UInt8) (n : Nat) (lo hi : Int) : Rd Nat := fun i => match takeR b n i with
 | none => none
 | some (l, j) => if lo <= leN l /\ (leN l : Int) <= hi then some (leN l, j) else none
def timesR {α : Type} (one : Rd α) : Nat -> Rd (List α)
 | 0 => fun i => some ([], i)
 | n + 1 => fun i => match one i with
  | none => none
  | some (x, j) => match timesR one n j with
   | none => none
   | some (l, k) => some (x :: l, k)
def manyR {α : Type} (b : List UInt8) (lo hi : Int) (one : Rd α) : Rd (List α) := fun i => match numR b 1 lo hi i with
 | none => none
 | some (n, j) => timesR one n j
def nameB (s : ByteArray) : Bool := decide (1 <= s.size) && (decide (s.size <= 8) && (isSmallB (bAt s 0) && (!isKwB s && s.data.toList.all fun c => inWordB (c.toNat : Int))))
def nameR (b : List UInt8) : Rd ByteArray := fun i => match numR b 1 1 8 i with
 | none => none
 | some (n, j) => match takeR b n j with
  | none => none
  | some (l, k) => if nameB ⟨l.toArray⟩ then some (⟨l.toArray⟩, k) else none
def routeR (b : List UInt8) : Rd RouteM := fun i => match nameR b i with
 | none => none
 | some (s, j) => match numR b 4 0 1000000 j with
  | none => none
  | some (x, k) => match numR b 4 0 1000 k with
   | none => none
   | some (y, l) => some (⟨s, x, y⟩, l)
def listR (b : List UInt8) (hi : Int) : Rd (List Nat) := manyR b 1 4 (numR b 2 0 hi)
def guardR (b : List UInt8) (s : Nat) (hi : Int) : Rd StepM := fun i => match numR b 1 1 255 i with
 | none => none
 | some (x, j) => match listR b hi j with
  | none => none
  | some (l, k) => some (⟨s, l, 0, x⟩, k)
def spanR (b : List UInt8) : Rd StepM := fun i => match numR b 1 1 255 i with
 | none => none
 | some (x, j) => match numR b 4 0 1000000000 j with
  | none => none
  | some (y, k) => match numR b 4 y 1000000000 k with
   | none => none
   | some (z, l) => some (⟨1, [y, z], 0, x⟩, l)
def endR (b : List UInt8) (s nr nn : Nat) : Rd StepM := fun i => match numR b 1 0 ((nn : Int) - 1) i with
 | none => none
 | some (x, j) => if s = 3 then some (⟨3, [], x, 0⟩, j) else match listR b ((nr : Int) - 1) j with
  | none => none
  | some (l, k) => some (⟨s, l, x, 0⟩, k)
def stepR (b : List UInt8) (nr nn : Nat) : Rd StepM := fun i => match numR b 1 0 6 i with
 | none => none
 | some (s, j) => if s = 0 then guardR b 0 9999 j else if s = 1 then spanR b j else if s = 2 then guardR b 2 999 j else if s = 6 then some (⟨6, [], 0, 0⟩, j) else endR b s nr nn j
def leads (l : List StepM) : Bool := (List.range l.length).all fun k => match l[k]? with
 | none => true
 | some s => decide (k + s.skip < l.length)
def progR (b : List UInt8) (nr nn : Nat) : Rd (List StepM) := fun i => match manyR b 1 255 (stepR b nr nn) i with
 | none => none
 | some (l, j) => if leads l then some (l, j) else none
def nodeR (b : List UInt8) (np : Nat) : Nat -> Rd Tr
 | 0 => fun _ => none
 | f + 1 => fun i => match numR b 1 0 np i with
  | none => none
  | some (0, j) => if f = 0 then none else match timesR (nodeR b np f) 10 j with
   | none => none
   | some (l, k) => some (.node (fun d => l.getD d (.leaf 0)), k)
  | some (s + 1, j) => some (.leaf s, j)
def differB (l : List ByteArray) : Bool := (List.range l.length).all fun k => match l[k]? with
 | none => true
 | some s => decide (idxS s 0 l = (k : Int))
structure TrD where
 rts : List RouteM
 nms : List ByteArray
 prs : List (List StepM)
 root : Tr
def readR (b : List UInt8) : Option TrD := match manyR b 0 6 (routeR b) 0 with
 | none => none
 | some (rts, i) => match manyR b 0 8 (nameR b) i with
  | none => none
  | some (nms, j) => if differB (rts.map RouteM.name) && differB nms then (match manyR b 1 255 (progR b rts.length nms.length) j with
   | none => none
   | some (prs, k) => match nodeR b prs.length 7 k with
    | none => none
    | some (t, l) => if l = b.length then some ⟨rts, nms, prs, t⟩ else none) else none
structure StOk (nr nn : Nat) (s : StepM) : Prop where
 so : s.sort <= 6
 sk : s.skip <= 255
 gd : s.sort < 3 -> 1 <= s.skip
 nl : s.nums.length <= 4
 am : s.sort = 1 -> ∃ x y, s.nums = [x, y]
 ru : s.sort = 3 \/ s.sort = 4 \/ s.sort = 5 -> s.rule < nn
 pl : s.sort = 3 \/ s.sort = 4 \/ s.sort = 5 -> ∀ x, x ∈ s.nums -> x < nr
def Tr.lows (n : Nat) : Tr -> Prop
 | .leaf p => p < n
 | .node k => ∀ d, d < 10 -> (k d).lows n
structure TrD.Ok (t : TrD) : Prop where
 r6 : t.rts.length <= 6
 rt : ∀ r, r ∈ t.rts -> r.name.size <= 8 /\ r.base <= 1000000 /\ r.rate <= 1000
 n8 : t.nms.length <= 8
 nm : ∀ s, s ∈ t.nms -> s.size <= 8
 pl : t.prs.length <= 255
 pr : ∀ l, l ∈ t.prs -> 1 <= l.length /\ l.length <= 255 /\ (∀ s, s ∈ l -> StOk t.rts.length t.nms.length s) /\ ∀ k s, l[k]? = some s -> k + s.skip < l.length
 dp : t.root.deep 0
 lf : t.root.lows t.prs.length
theorem numR_some {b : List UInt8} {n : Nat} {lo hi : Int} {i x j : Nat} (h : numR b n lo hi i = some (x, j)) : lo <= x /\ (x : Int) <= hi := by
 unfold numR at h
 split at h
 ·cases h
 ·split at h
  ·rename_i hc
   injection h with h
   injection h with h1 h2
   subst h1
   exact hc
  ·cases h
theorem timesR_some {α : Type} {one : Rd α} {P : α -> Prop} (ho : ∀ i x j, one i = some (x, j) -> P x) : ∀ (n i : Nat) (l : List α) (j : Nat), timesR one n i = some (l, j) -> l.length = n /\ ∀ x, x ∈ l -> P x
 | 0, i, l, j, h => by
  simp only [timesR, Option.some.injEq, Prod.mk.injEq] at h
  rw [<- h.1]
  exact ⟨rfl, by simp⟩
 | n + 1, i, l, j, h => by
  simp only [timesR] at h
  split at h
  ·cases h
  ·rename_i x k hx
   split at h
   ·cases h
   ·rename_i r k2 hr
    injection h with h
    injection h with h1 h2
    subst h1
    obtain ⟨e1, e2⟩ := timesR_some ho n k r k2 hr
    refine ⟨by simp [e1], fun y hy => ?_⟩
    rcases List.mem_cons.1 hy with rfl | hy
    ·exact ho _ _ _ hx
    ·exact e2 y hy
theorem manyR_some {α : Type} {b : List UInt8} {lo hi : Int} {one : Rd α} {P : α -> Prop} (ho : ∀ i x j, one i = some (x, j) -> P x) {i : Nat} {l : List α} {j : Nat} (h : manyR b lo hi one i = some (l, j)) : lo <= l.length /\ (l.length : Int) <= hi /\ ∀ x, x ∈ l -> P x := by
 unfold manyR at h
 split at h
 ·cases h
 ·rename_i n k hn
  obtain ⟨e1, e2⟩ := timesR_some ho _ _ _ _ h
  have := numR_some hn
  rw [e1]
  exact ⟨this.1, this.2, e2⟩
theorem listR_some {b : List UInt8} {hi : Int} {i : Nat} {l : List Nat} {j : Nat} (h : listR b hi i = some (l, j)) : l.length <= 4 /\ ∀ x : Nat, x ∈ l -> (x : Int) <= hi := by
 obtain ⟨_, h2, h3⟩ := manyR_some (P := fun x : Nat => (x : Int) <= hi) (fun i x j hx => (numR_some hx).2) h
 exact ⟨by omega, h3⟩
theorem nameR_some {b : List UInt8} {i : Nat} {s : ByteArray} {j : Nat} (h : nameR b i = some (s, j)) : s.size <= 8 := by
 unfold nameR at h
 split at h
 ·cases h
 ·split at h
  ·cases h
  ·split at h
   ·rename_i hc
    injection h with h
    injection h with h1 h2
    subst h1
    unfold nameB at hc
    simp only [Bool.and_eq_true, decide_eq_true_eq] at hc
    exact hc.2.1
   ·cases h
theorem routeR_some {b : List UInt8} {i : Nat} {r : RouteM} {j : Nat} (h : routeR b i = some (r, j)) : r.name.size <= 8 /\ r.base <= 1000000 /\ r.rate <= 1000 := by
 unfold routeR at h
 split at h
 ·cases h
 ·rename_i s _ hs
  split at h
  ·cases h
  ·rename_i x _ hx
   split at h
   ·cases h
   ·rename_i y _ hy
    injection h with h
    injection h with h1 h2
    subst h1
    have := (numR_some hx).2
    have := (numR_some hy).2
    exact ⟨nameR_some hs, by show x <= _; omega, by show y <= _; omega⟩
theorem stepR_some {b : List UInt8} {nr nn i : Nat} {s : StepM} {j : Nat} (h : stepR b nr nn i = some (s, j)) : StOk nr nn s := by
 have hg : ∀ (so : Nat) (hi : Int) (i : Nat), (so = 0 \/ so = 2) -> guardR b so hi i = some (s, j) -> StOk nr nn s := fun so hi i hs h => by
  unfold guardR at h
  split at h
  ·cases h
  ·rename_i x _ hx
   split at h
   ·cases h
   ·rename_i l _ hl
    injection h with h
    injection h with h1 h2
    subst h1
    have e1 := numR_some hx
    have e2 := listR_some hl
    exact ⟨by show so <= 6; omega, by show x <= 255; omega, fun _ => by show 1 <= x; omega, e2.1, fun h => by have h : so = 1 := h; omega, fun h => by have h : so = 3 \/ so = 4 \/ so = 5 := h; omega, fun h => by have h : so = 3 \/ so = 4 \/ so = 5 := h; omega⟩
 unfold stepR at h
 split at h
 ·cases h
 ·rename_i t k ht
  have h6 := (numR_some ht).2
  split at h
  ·exact hg _ _ _ (.inl rfl) h
  ·split at h
   ·unfold spanR at h
    split at h
    ·cases h
    ·rename_i x _ hx
     split at h
     ·cases h
     ·split at h
      ·cases h
      ·injection h with h
       injection h with h1 h2
       subst h1
       have e1 := numR_some hx
       exact ⟨by show 1 <= 6; omega, by show x <= 255; omega, fun _ => by show 1 <= x; omega, by show 2 <= 4; omega, fun _ => ⟨_, _, rfl⟩, fun h => by have h : 1 = 3 \/ 1 = 4 \/ 1 = 5 := h; omega, fun h => by have h : 1 = 3 \/ 1 = 4 \/ 1 = 5 := h; omega⟩
   ·split at h
    ·exact hg _ _ _ (.inr rfl) h
    ·split at h
     ·injection h with h
      injection h with h1 h2
      subst h1
      exact ⟨by show 6 <= 6; omega, by show 0 <= 255; omega, fun h => by have h : 6 < 3 := h; omega, by show 0 <= 4; omega, fun h => by have h : 6 = 1 := h; omega, fun h => by have h : 6 = 3 \/ 6 = 4 \/ 6 = 5 := h; omega, fun h => by have h : 6 = 3 \/ 6 = 4 \/ 6 = 5 := h; omega⟩
     ·rename_i n0 n1 n2 n6
      unfold endR at h
      split at h
      ·cases h
      ·rename_i x _ hx
       have e1 := numR_some hx
       split at h
       ·injection h with h
        injection h with h1 h2
        subst h1
        exact ⟨by show 3 <= 6; omega, by show 0 <= 255; omega, fun h => by have h : 3 < 3 := h; omega, by show 0 <= 4; omega, fun h => by have h : 3 = 1 := h; omega, fun _ => by show x < nn; omega, fun _ y hy => by simp at hy⟩
       ·split at h
        ·cases h
        ·rename_i l _ hl
         injection h with h
         injection h with h1 h2
         subst h1
         have e2 := listR_some hl
         exact ⟨by show t <= 6; omega, by show 0 <= 255; omega, fun h => by have h : t < 3 := h; omega, e2.1, fun h => by have h : t = 1 := h; omega, fun _ => by show x < nn; omega, fun _ y hy => by have := e2.2 y hy; omega⟩
theorem progR_some {b : List UInt8} {nr nn i : Nat} {l : List StepM} {j : Nat} (h : progR b nr nn i = some (l, j)) : 1 <= l.length /\ l.length <= 255 /\ (∀ s, s ∈ l -> StOk nr nn s) /\ ∀ k s, l[k]? = some s -> k + s.skip < l.length := by
 unfold progR at h
 split at h
 ·cases h
 ·rename_i l' _ hl
  split at h
  ·rename_i hc
   injection h with h
   injection h with h1 h2
   subst h1
   obtain ⟨e1, e2, e3⟩ := manyR_some (P := StOk nr nn) (fun i x j hx => stepR_some hx) hl
   refine ⟨by omega, by omega, e3, fun k s hs => ?_⟩
   have hk := (List.getElem?_eq_some_iff.1 hs).1
   have := List.all_eq_true.1 hc k (List.mem_range.2 hk)
   rw [hs] at this
   simpa using this
  ·cases h
theorem nodeR_some {b : List UInt8} {np : Nat} : ∀ (f i : Nat) (t : Tr) (j : Nat), f <= 7 -> nodeR b np f i = some (t, j) -> t.deep (7 - f) /\ t.lows np
 | 0, _, _, _, _, h => by cases h
 | f + 1, i, t, j, hf, h => by
  unfold nodeR at h
  split at h
  ·cases h
  ·split at h
   ·cases h
   ·rename_i h0
    split at h
    ·cases h
    ·rename_i l _ hl
     injection h with h
     injection h with h1 h2
     subst h1
     obtain ⟨e1, e2⟩ := timesR_some (P := fun t : Tr => t.deep (7 - f) /\ t.lows np) (fun i x j hx => nodeR_some f i x j (by omega) hx) _ _ _ _ hl
     have hd : ∀ d, d < 10 -> l.getD d (.leaf 0) ∈ l := fun d hd => by
      rw [List.getD, List.getElem?_eq_getElem (by omega)]
      exact List.getElem_mem _
     refine ⟨⟨by omega, fun d hd' => ?_⟩, fun d hd' => (e2 _ (hd d hd')).2⟩
     rw [show 7 - (f + 1) + 1 = 7 - f from by omega]
     exact (e2 _ (hd d hd')).1
  ·rename_i s _ hs
   injection h with h
   injection h with h1 h2
   subst h1
   have := (numR_some hs).2
   exact ⟨trivial, by show s < np; omega⟩
theorem readR_ok {b : List UInt8} {t : TrD} (h : readR b = some t) : t.Ok := by
 unfold readR at h
 split at h
 ·cases h
 ·rename_i rts i hr
  split at h
  ·cases h
  ·rename_i nms j hn
   split at h
   ·split at h
    ·cases h
    ·rename_i prs k hp
     split at h
     ·cases h
     ·rename_i tr l ht
      split at h
      ·injection h with h
       subst h
       obtain ⟨a1, a2, a3⟩ := manyR_some (P := fun r : RouteM => r.name.size <= 8 /\ r.base <= 1000000 /\ r.rate <= 1000) (fun i x j hx => routeR_some hx) hr
       obtain ⟨b1, b2, b3⟩ := manyR_some (P := fun s : ByteArray => s.size <= 8) (fun i x j hx => nameR_some hx) hn
       obtain ⟨c1, c2, c3⟩ := manyR_some (P := fun l : List StepM => 1 <= l.length /\ l.length <= 255 /\ (∀ s, s ∈ l -> StOk rts.length nms.length s) /\ ∀ k s, l[k]? = some s -> k + s.skip < l.length) (fun i x j hx => progR_some hx) hp
       obtain ⟨d1, d2⟩ := nodeR_some 7 _ _ _ (by omega) ht
       exact ⟨by show rts.length <= 6; omega, a3, by show nms.length <= 8; omega, b3, by show prs.length <= 255; omega, c3, d1, d2⟩
      ·cases h
   ·cases h
end Go.Proofs.YtccikgogjfbpeabGreatDoor

namespace Go.Proofs.YtccikgogjfbpeabGreatDoor
open Go.RowKit
def noE : Ending := .panicked [{ v := .iface 156 (.agg #[]), recovered := false }]
structure RdAt (w : World) (B : Nat) (s : ByteArray) (i TT : Nat) : Prop where
 bx : w.heap[B]? = some (.cells #[.string s, .int .i64 (i : Nat), .pointer (some ⟨TT, 0, none⟩)] 94)
 le : i <= s.size
 sz : s.size <= 200000
theorem RdAt.fr {w w' : World} {B i TT : Nat} {s : ByteArray} {S : Nat -> Prop} (h : RdAt w B s i TT) (hf : Fr S w w') (hS : ¬ S B) : RdAt w' B s i TT := ⟨hf.whole h.bx hS, h.le, h.sz⟩
theorem RdAt.move {w : World} {B i TT : Nat} {s : ByteArray} (h : RdAt w B s i TT) (j : Nat) (hj : j <= s.size) : ∀ a b, RdAt (((w.drewN a).setCell ⟨B, 1, none⟩ (.int .i64 (j : Nat))).drewN b) B s j TT /\ Fr (fun k => k = B) w (((w.drewN a).setCell ⟨B, 1, none⟩ (.int .i64 (j : Nat))).drewN b) := fun a b => by
 have h1 : Fr (fun k => k = B) w (w.drewN a) := ⟨rfl, rfl, rfl, Nat.le_refl _, fun _ _ _ => rfl⟩
 have h2 := h1.setCell (p := ⟨B, 1, none⟩) (Or.inl rfl) (.int .i64 (j : Nat))
 have e := heap_setCell_same (w.drewN a) B 1 _ _ (.int .i64 (j : Nat)) h.bx
 exact ⟨⟨e, hj, h.sz⟩, h2.trans ⟨rfl, rfl, rfl, Nat.le_refl _, fun _ _ _ => rfl⟩⟩
def RdP {α : Type} (w : World) (B : Nat) (s : ByteArray) (TT : Nat) (r : Option (α × Nat)) (V : World -> Value -> α -> Prop) (e : Ending) (w' : World) : Prop := match r with
 | none => e = noE /\ Fr (fun k => k = B) w w'
 | some (x, j) => (∃ v, e = .returned v /\ V w' v x) /\ RdAt w' B s j TT /\ Fr (fun k => k = B) w w'
set_option maxHeartbeats 400000 in
theorem insist_yes (w : World) : Calls Tryz.prog 46 #[.bool true] w fun e w' => e = .returned (.tuple #[]) /\ w' = w := by
 go_enter Tryz.func46, Tryz.ntmps46
 go_wp2
 go_end0
 exact ⟨rfl, rfl⟩
set_option maxHeartbeats 400000 in
theorem insist_no (w : World) : Calls Tryz.prog 46 #[.bool false] w fun e w' => e = noE /\ w' = w := by
 go_enter Tryz.func46, Tryz.ntmps46
 go_wp2
 exact ⟨rfl, rfl, rfl⟩
set_option maxRecDepth 30000 in
set_option maxHeartbeats 1000000 in
theorem rtake_yes (w : World) (B : Nat) (s : ByteArray) (i TT n : Nat) (nv : Int) (h : RdAt w B s i TT) (hn : i + n <= s.size) (hv : nv = n) :
  Calls Tryz.prog 117 #[.pointer (some ⟨B, 0, none⟩), .int .i64 nv] w fun e w' => e = .returned (.string (s.extract i (i + n))) /\ RdAt w' B s (i + n) TT /\ Fr (fun k => k = B) w w' := by
 subst hv
 have HH := hid h
 have hsz := h.sz
 have c0 := block_cell h.bx 0 _ rfl
 have c1 := block_cell h.bx 1 _ rfl
 have fz := block_frozen h.bx 1
 have HI : Hid (∀ W, Calls Tryz.prog 46 #[.bool true] W fun e w' => e = .returned (.tuple #[]) /\ w' = W) := fun W => insist_yes W
 have hd : decide ((n : Int) <= (s.size : Int) - (i : Int)) = true := by simp; omega
 clear h
 go_enter Tryz.func117, Tryz.ntmps117
 go_wp2_with fail
 go_quiet ((go_at_call 46; exact Calls.quiet_of_same (HI.o _)))
 go_wp2_with fail
 go_quiet (fail)
 go_wp2_with fail
 go_ret
 have hm := HH.o.move (i + n) hn
 rw [Int.natCast_add] at hm
 exact ⟨rfl, hm _ _⟩
set_option maxRecDepth 30000 in
set_option maxHeartbeats 1000000 in
theorem rtake_no (w : World) (B : Nat) (s : ByteArray) (i TT n : Nat) (nv : Int) (h : RdAt w B s i TT) (hn : s.size < i + n) (hv : nv = n) :
  Calls Tryz.prog 117 #[.pointer (some ⟨B, 0, none⟩), .int .i64 nv] w fun e w' => e = noE /\ Fr (fun k => k = B) w w' := by
 subst hv
 have hsz := h.sz
 have hle := h.le
 have c0 := block_cell h.bx 0 _ rfl
 have c1 := block_cell h.bx 1 _ rfl
 have hw : IntKind.i64.wrap ((s.size : Int) - (i : Int)) = (s.size : Int) - (i : Int) := IntWalk.i64_in _ (by constructor <;> omega)
 have hd : decide ((n : Int) <= (s.size : Int) - (i : Int)) = false := by simp; omega
 clear h
 go_enter Tryz.func117, Tryz.ntmps117
 go_wp2_with fail
 refine wp_region_held_drew (S := fun W => W.cell? ⟨B, 0, none⟩ = some (.string s) /\ W.cell? ⟨B, 1, none⟩ = some (.int .i64 (i : Nat))) (by kernel_rfl) ⟨by simpa using c0, by simpa using c1⟩ (fun hH => ?_)
 refine htk 0 (v := ?v0) ?y0 hH ?r0
 case y0 => rintro w ⟨c0, c1⟩; go_simp; with_reducible rfl
 try go_frame
 refine htk 1 (v := ?v1) ?y1 hH ?r1
 case y1 => rintro w ⟨c0, c1⟩; go_simp; with_reducible rfl
 try go_frame
 refine htk 2 (v := ?v2) ?y2 hH ?r2
 case y2 => rintro w ⟨c0, c1⟩; go_simp; with_reducible rfl
 try go_frame
 refine htk 3 (v := ?v3) ?y3 hH ?r3
 case y3 => rintro w ⟨c0, c1⟩; go_simp; with_reducible rfl
 try go_frame
 refine htk 4 (v := ?v4) ?y4 hH ?r4
 case y4 => rintro w ⟨c0, c1⟩; go_simp; with_reducible rfl
 try go_frame
 refine htk 5 (v := ?v5) ?y5 hH ?r5
 case y5 => rintro w ⟨c0, c1⟩; go_simp; with_reducible rfl
 try go_frame
 refine htk 6 (v := ?v6) ?y6 hH ?r6
 case y6 => rintro w ⟨c0, c1⟩; go_simp; with_reducible rfl
 try go_frame
 refine htk 7 (v := ?v7) ?y7 hH ?r7
 case y7 => rintro w ⟨c0, c1⟩; go_simp; with_reducible rfl
 try go_frame
 refine htk 8 (v := ?v8) ?y8 hH ?r8
 case y8 => rintro w ⟨c0, c1⟩; go_simp; with_reducible rfl
 try go_frame
 refine htk 9 (v := ?v9) ?y9 hH ?r9
 case y9 => rintro w ⟨c0, c1⟩; go_simp; with_reducible rfl
 try go_frame
 refine htk 10 (v := ?v10) ?y10 hH ?r10
 case y10 => rintro w ⟨c0, c1⟩; go_simp; with_reducible rfl
 try go_frame
 refine htk 11 (v := ?v11) ?y11 hH ?r11
 case y11 => rintro w ⟨c0, c1⟩; go_simp; with_reducible rfl
 try go_frame
 refine wpAnyH_ready (rs := [12]) (by kernel_rfl) (by simp) ?_
 refine held_cons rfl (fun K2 hK => ?_) AllReadyH.nil
 try rw [if_pos (by rfl)]
 go_simp
 refine (insist_no _).mono ?_
 rintro e w1 ⟨he, rfl⟩
 unfold noE at he
 subst he
 exact ⟨rfl, rfl, (Fr.refl _ _).drew⟩
theorem rtake_any (w : World) (B : Nat) (s : ByteArray) (i TT n : Nat) (nv : Int) (h : RdAt w B s i TT) (hv : nv = n) :
  Calls Tryz.prog 117 #[.pointer (some ⟨B, 0, none⟩), .int .i64 nv] w (RdP w B s TT (takeR s.data.toList n i) fun _ v l => v = .string ⟨l.toArray⟩) := by
 have hl : s.data.toList.length = s.size := by simp
 unfold takeR
 by_cases hn : i + n <= s.size
 ·rw [if_pos (by rw [hl]; exact hn)]
  refine (rtake_yes w B s i TT n nv h hn hv).mono ?_
  rintro e w' ⟨rfl, h1, h2⟩
  refine ⟨⟨_, rfl, ?_⟩, h1, h2⟩
  congr 1
  apply ByteArray.ext
  apply Array.toList_inj.1
  simp [ByteArray.data_extract]
 ·rw [if_neg (by rw [hl]; exact hn)]
  exact rtake_no w B s i TT n nv h (by omega) hv
theorem leN_take (l : List UInt8) (k : Nat) (c : UInt8) (hc : l[k]? = some c) : leN (l.take (k + 1)) = leN (l.take k) + 2 ^ (8 * k) * c.toNat := by
 have hk := (List.getElem?_eq_some_iff.1 hc).1
 rw [List.take_add_one, hc, leN_app, List.length_take, Nat.min_eq_left (by omega)]
 simp [leN]
theorem bits_or_i64_nat (a b : Nat) (ha : a < 9223372036854775808) (hb : b < 9223372036854775808) : bits .or .i64 (a : Int) (b : Int) = ((a ||| b : Nat) : Int) := by
 have hx : a ||| b < 2 ^ 63 := Nat.or_lt_two_pow (by omega) (by omega)
 have h1 : (BitVec.ofInt 64 (a : Int)).toNat = a := by
  rw [BitVec.ofInt_natCast, BitVec.toNat_ofNat]; exact Nat.mod_eq_of_lt (by omega)
 have h2 : (BitVec.ofInt 64 (b : Int)).toNat = b := by
  rw [BitVec.ofInt_natCast, BitVec.toNat_ofNat]; exact Nat.mod_eq_of_lt (by omega)
 show IntKind.i64.wrap ((BitVec.ofInt 64 (a : Int) ||| BitVec.ofInt 64 (b : Int)).toNat : Int) = _
 rw [BitVec.toNat_or, h1, h2]
 exact IntWalk.i64_in _ (by constructor <;> omega)
theorem or_num (x c k : Nat) (hx : x < 2 ^ (8 * k)) (hc : c < 256) (hk : k <= 3) : bits BinOp.or IntKind.i64 (x : Int) (wrap64 ((c : Int) * 2 ^ (8 * k))) = ((x + 2 ^ (8 * k) * c : Nat) : Int) := by
 have hp : 2 ^ (8 * k) <= 16777216 := Nat.pow_le_pow_right (n := 2) (by decide) (show 8 * k <= 24 by omega)
 have hb : 2 ^ (8 * k) * c <= 16777216 * 255 := Nat.mul_le_mul hp (by omega)
 have e : ((c : Int) * 2 ^ (8 * k)) = ((2 ^ (8 * k) * c : Nat) : Int) := by rw [Int.natCast_mul, Int.natCast_pow, Int.mul_comm]; rfl
 rw [e]
 have ew : wrap64 ((2 ^ (8 * k) * c : Nat) : Int) = ((2 ^ (8 * k) * c : Nat) : Int) := IntWalk.wrap64_in _ (by constructor <;> omega)
 rw [ew, bits_or_i64_nat x (2 ^ (8 * k) * c) (by omega) (by omega), <- add_xor hx]
 congr 1
 apply Nat.eq_of_testBit_eq
 intro i
 rw [Nat.testBit_or, Nat.testBit_xor, Nat.testBit_two_pow_mul]
 by_cases hi : 8 * k <= i
 ·have h2 : x < 2 ^ i := Nat.lt_of_lt_of_le hx (Nat.pow_le_pow_right (by decide) hi)
  simp [Nat.testBit_lt_two_pow h2]
 ·simp [hi]
set_option maxRecDepth 30000 in
set_option maxHeartbeats 1000000 in
theorem rnumber_any (w : World) (B : Nat) (s : ByteArray) (i TT n : Nat) (nv lo hi : Int) (h : RdAt w B s i TT) (hn : n <= 4) (hv : nv = n) :
  Calls Tryz.prog 116 #[.pointer (some ⟨B, 0, none⟩), .int .i64 nv, .int .i64 lo, .int .i64 hi] w (RdP w B s TT (numR s.data.toList n lo hi i) fun _ v x => v = .int .i64 (x : Nat)) := by
 subst hv
 have HT := hid (rtake_any w B s i TT n _ h rfl)
 obtain ⟨N, hN⟩ : ∃ N, numR s.data.toList n lo hi i = N := ⟨_, rfl⟩
 rw [hN]
 unfold numR at hN
 obtain ⟨r, hr⟩ : ∃ r, takeR s.data.toList n i = r := ⟨_, rfl⟩
 rw [hr] at HT hN
 have HN := hid hN
 have HR := hid hr
 clear h hr hN
 go_enter Tryz.func116, Tryz.ntmps116
 go_wp2_with fail
 refine HT.o.mono ?_
 intro e w1 hp
 cases r with
 | none =>
  obtain ⟨he, hf⟩ := hp
  have e1 : N = none := HN.o.symm
  subst e1
  unfold noE at he
  subst he
  exact ⟨rfl, rfl, hf⟩
 | some lj =>
  obtain ⟨l, j⟩ := lj
  obtain ⟨⟨v, rfl, rfl⟩, hR, hf⟩ := hp
  have HR1 := hid hR
  have HF1 := hid hf
  clear hR hf HT
  obtain ⟨S, hS⟩ : ∃ S : ByteArray, (⟨l.toArray⟩ : ByteArray) = S := ⟨_, rfl⟩
  have hSl : S.data.toList = l := by rw [<- hS]
  have HSl := hid hSl
  have hln : l.length = n := by
   have e := HR.o
   unfold takeR at e
   split at e
   ·injection e with e
    injection e with e1 e2
    rw [<- e1, List.length_take, List.length_drop]
    omega
   ·cases e
  have hSn : S.size = n := by rw [<- hln, <- hSl]; simp
  rw [hS]
  have hcv := fun w => Lib.run_convert_string_bytes (P := Tryz.prog) w 9 104 5 S Tryz.underlying9 Tryz.underlying104 Tryz.underlying5
  rw [hSn] at hcv
  go_wp2_with fail
  have HF : Hid (Fr (fun k => k = B) w (Lib.bytesWorld w1 5 S)) := HF1.o.trans ((bytesWorld_fr _ _ _).mono (by simp))
  have HR2 : Hid (RdAt (Lib.bytesWorld w1 5 S) B s j TT) := HR1.o.fr (S := fun _ => False) (bytesWorld_fr _ _ _) (by simp)
  have hcell : ∀ k, k < n -> (Lib.bytesWorld w1 5 S).cell? ⟨w1.heap.size, k, none⟩ = some (.int .u8 (bAt S k)) := fun k hk => by
   have := Lib.bytesWorld_cell w1 5 S k (by omega)
   simpa [bAt] using this
  have HC := hid hcell
  clear hcell hcv hS
  generalize Lib.bytesWorld w1 5 S = W at *
  generalize grownCap _ _ _ _ = cap at *
  go_loop [9, 17] (fun xv iv => ∃ k : Nat, k <= n /\ iv = .int .i64 k /\ ∃ x : Nat, xv = .int .i64 (x : Nat) /\ Hid (x = leN (l.take k))) (fun _ iv => n - (intOf iv).toNat)
  case atStart => exact ⟨0, Nat.zero_le _, rfl, 0, rfl, rfl⟩
  case round =>
   obtain ⟨k, hk, rfl, x, rfl, HX⟩ := hrel
   by_cases hlt : k < n
   ·have hc := HC.o k hlt
    have hki : (k : Int) < (n : Int) := by omega
    obtain ⟨c, hcc⟩ : ∃ c, l[k]? = some c := ⟨_, List.getElem?_eq_getElem (by omega)⟩
    have HT := hid (leN_take l k c hcc)
    have ebc : bAt S k = (c.toNat : Int) := by unfold bAt; rw [HSl.o]; simp [List.getD, hcc]
    rw [ebc] at hc
    have hcl : c.toNat < 256 := c.toNat_lt
    generalize c.toNat = cn at *
    clear hcc ebc
    have HE := hid (or_num x cn k (by rw [HX.o]; have := leN_lt (l.take k); rw [List.length_take, Nat.min_eq_left (by omega)] at this; exact this) hcl (by omega))
    go_wp2_with fail
    refine ⟨⟨k + 1, by omega, by go_num, x + 2 ^ (8 * k) * cn, by rw [HE.o], by show _ = _; rw [HT.o, HX.o]⟩, by simp [intOf]; omega⟩
   ·have hki : ¬ (k : Int) < (n : Int) := by omega
    have ex : x = leN l := by rw [HX.o, List.take_of_length_le (by omega)]
    subst ex
    by_cases hlo : lo <= (leN l : Int)
    ·by_cases hhi : (leN l : Int) <= hi
     ·have eN : N = some (leN l, j) := by rw [<- HN.o, if_pos ⟨hlo, hhi⟩]
      subst eN
      go_wp2_with fail
      refine (insist_yes _).mono ?_
      rintro e w2 ⟨rfl, hw⟩
      replace hw := hw.symm
      subst hw
      go_wp2_with fail
      go_ret
      exact ⟨⟨_, rfl, rfl⟩, HR2.o, HF.o⟩
     ·have eN : N = none := by rw [<- HN.o, if_neg (fun h => hhi h.2)]
      subst eN
      go_wp2_with fail
      refine (insist_no _).mono ?_
      rintro e w2 ⟨he, hw⟩
      replace hw := hw.symm
      subst hw
      unfold noE at he
      subst he
      exact ⟨rfl, rfl, HF.o⟩
    ·have eN : N = none := by rw [<- HN.o, if_neg (fun h => hlo h.1)]
     subst eN
     go_wp2_with fail
     refine (insist_no _).mono ?_
     rintro e w2 ⟨he, hw⟩
     replace hw := hw.symm
     subst hw
     unfold noE at he
     subst he
     exact ⟨rfl, rfl, HF.o⟩
end Go.Proofs.YtccikgogjfbpeabGreatDoor

namespace Go.Proofs.YtccikgogjfbpeabGreatDoor
open Go.RowKit
def wordFrom (s : ByteArray) (k : Nat) : Bool := (s.data.toList.drop k).all fun c => inWordB (c.toNat : Int)
theorem wordFrom_step (s : ByteArray) (k : Nat) (h : k < s.size) : wordFrom s k = (inWordB (bAt s k) && wordFrom s (k + 1)) := by
 have hk : k < s.data.toList.length := by simpa using h
 unfold wordFrom
 rw [List.drop_eq_getElem_cons hk, List.all_cons]
 congr 2
 simp [bAt, List.getD, h]
set_option maxRecDepth 30000 in
set_option maxHeartbeats 2000000 in
theorem IsName_any (s : ByteArray) (w : World) (hs : s.size <= 200000) :
  Calls Tryz.prog 39 #[.string s] w fun e w' => e = .returned (.bool (nameB s)) /\ F0 w w' := by
 have hcv := fun w => Lib.run_convert_string_bytes (P := Tryz.prog) w 9 104 5 s Tryz.underlying9 Tryz.underlying104 Tryz.underlying5
 have HS : Hid (∀ c W, Calls Tryz.prog 64 #[.int .u8 c] W fun e w' => e = .returned (.bool (isSmallB c)) /\ w' = W) := fun c W => isSmall_any c W
 have HK : Hid (∀ W, Calls Tryz.prog 65 #[.string s] W fun e w' => e = .returned (.bool (isKwB s)) /\ w' = W) := fun W => isKeyword_any s W
 have HD : Hid (∀ c W, Calls Tryz.prog 66 #[.int .u8 c] W fun e w' => e = .returned (.bool (inWordB c)) /\ w' = W) := fun c W => inWord_any c W
 obtain ⟨b, hb⟩ : ∃ b, nameB s = b := ⟨_, rfl⟩
 rw [hb]
 unfold nameB at hb
 by_cases h0 : s.size = 0
 ·have e0 : s.toList.isEmpty = true := by
   rw [ByteArray.toList_eq]
   have : s.data.toList.length = 0 := by simpa using h0
   rw [List.length_eq_zero_iff.1 this]
   rfl
  have eb : b = false := by rw [<- hb]; simp [h0]
  subst eb
  clear hb hcv h0
  go_enter Tryz.func39, Tryz.ntmps39
  go_wp2_with fail
  go_ret
  exact ⟨rfl, Fr.refl _ _⟩
 ·have e0 : s.toList.isEmpty = false := by
   rw [ByteArray.toList_eq]
   cases hd : s.data.toList with
   | nil =>
    have h1 : s.data.toList.length = 0 := by rw [hd]; rfl
    exact absurd (by simpa using h1) h0
   | cons _ _ => rfl
  by_cases h8 : 8 < s.size
  ·have h8i : (8 : Int) < (s.size : Int) := by omega
   have eb : b = false := by rw [<- hb]; simp; omega
   subst eb
   clear hb hcv h0
   go_enter Tryz.func39, Tryz.ntmps39
   go_wp2_with fail
   go_ret
   exact ⟨rfl, Fr.refl _ _⟩
  ·have h8i : ¬ (8 : Int) < (s.size : Int) := by omega
   have hb2 : (isSmallB (bAt s 0) && (!isKwB s && wordFrom s 0)) = b := by
    rw [<- hb, show wordFrom s 0 = s.data.toList.all (fun c => inWordB (c.toNat : Int)) from rfl]
    simp [show 1 <= s.size from by omega, show s.size <= 8 from by omega]
   have hp : 0 < s.size := by omega
   have HS0 : Hid (∀ W, Calls Tryz.prog 64 #[.int .u8 ((s[0]'hp).toNat : Int)] W fun e w' => e = .returned (.bool (isSmallB (bAt s 0))) /\ w' = W) := fun W => by
    have e := isSmall_any ((s[0]'hp).toNat : Int) W
    have e2 : bAt s 0 = ((s[0]'hp).toNat : Int) := by
     have hp' : 0 < s.data.toList.length := by simpa using hp
     unfold bAt
     rw [List.getD, List.getElem?_eq_getElem hp', Option.getD_some]
     rfl
    rw [e2]
    exact e
   have HB := hid hb2
   clear hb hb2 h0 h8
   go_enter Tryz.func39, Tryz.ntmps39
   go_wp2_with fail
   refine (HS0.o _).mono ?_
   rintro e w1 ⟨rfl, hw⟩
   replace hw := hw.symm
   subst hw
   cases hsm : isSmallB (bAt s 0) with
   | false =>
    have eb : b = false := by rw [<- HB.o, hsm]; rfl
    subst eb
    go_wp2_with fail
    go_ret
    exact ⟨rfl, Fr.refl _ _⟩
   | true =>
    have HB2 : Hid ((!isKwB s && wordFrom s 0) = b) := by show _ = _; rw [<- HB.o, hsm, Bool.true_and]
    clear hsm HB
    go_wp2_with fail
    refine (HK.o _).mono ?_
    rintro e w1 ⟨rfl, hw⟩
    replace hw := hw.symm
    subst hw
    cases hkw : isKwB s with
    | true =>
     have eb : b = false := by rw [<- HB2.o, hkw]; rfl
     subst eb
     go_wp2_with fail
     go_ret
     exact ⟨rfl, Fr.refl _ _⟩
    | false =>
     have HB3 : Hid (wordFrom s 0 = b) := by show _ = _; rw [<- HB2.o, hkw]; rfl
     clear hkw HB2
     go_wp2_with fail
     have HF : Hid (F0 w (Lib.bytesWorld w 5 s)) := bytesWorld_fr _ _ _
     have hcell : ∀ j, j < s.size -> (Lib.bytesWorld w 5 s).cell? ⟨w.heap.size, j, none⟩ = some (.int .u8 (bAt s j)) := fun j hj => by
      have := Lib.bytesWorld_cell w 5 s j hj
      simpa [bAt] using this
     have HC := hid hcell
     clear hcell hcv
     generalize Lib.bytesWorld w 5 s = W at *
     generalize grownCap _ _ _ _ = cap at *
     go_loop [4, 25] (fun _ i => ∃ k : Nat, k <= s.size /\ i = .int .i64 k /\ Hid (wordFrom s k = b)) (fun _ i => s.size - (intOf i).toNat)
     case atStart => exact ⟨0, Nat.zero_le _, rfl, HB3⟩
     case round =>
      obtain ⟨k, hk, rfl, HN⟩ := hrel
      by_cases hlt : k < s.size
      ·have hc := HC.o k hlt
       have hki : (k : Int) < (s.size : Int) := by omega
       have HSt := hid (wordFrom_step s k hlt)
       generalize bAt s k = cc at *
       cases hin : inWordB cc with
       | true =>
        rw [hin] at HSt
        have HN' : Hid (wordFrom s (k + 1) = b) := by show _ = _; rw [<- HN.o, HSt.o, Bool.true_and]
        have HD' := hid (HD.o cc)
        rw [hin] at HD'
        go_wp2_with fail
        refine (HD'.o _).mono ?_
        rintro e w2 ⟨rfl, hw⟩
        replace hw := hw.symm
        subst hw
        go_wp2
        exact ⟨⟨k + 1, by omega, by go_num, HN'⟩, by simp [intOf]; omega⟩
       | false =>
        rw [hin] at HSt
        have eb : b = false := by rw [<- HN.o, HSt.o, Bool.false_and]
        subst eb
        have HD' := hid (HD.o cc)
        rw [hin] at HD'
        go_wp2_with fail
        refine (HD'.o _).mono ?_
        rintro e w2 ⟨rfl, hw⟩
        replace hw := hw.symm
        subst hw
        go_wp2
        go_ret
        exact ⟨rfl, HF.o⟩
      ·have hki : ¬ (k : Int) < (s.size : Int) := by omega
       have eb : b = true := by
        rw [<- HN.o]
        unfold wordFrom
        rw [List.drop_of_length_le (by simpa using (by omega : s.size <= k))]
        rfl
       subst eb
       go_wp2
       go_ret
       exact ⟨rfl, HF.o⟩
set_option maxRecDepth 30000 in
set_option maxHeartbeats 1000000 in
theorem rname_any (w : World) (B : Nat) (s : ByteArray) (i TT : Nat) (h : RdAt w B s i TT) :
  Calls Tryz.prog 82 #[.pointer (some ⟨B, 0, none⟩)] w (RdP w B s TT (nameR s.data.toList i) fun _ v x => v = .string x) := by
 have HH := hid (rnumber_any w B s i TT 1 1 1 8 h (by decide) rfl)
 have hsz := h.sz
 obtain ⟨N, hN⟩ : ∃ N, nameR s.data.toList i = N := ⟨_, rfl⟩
 rw [hN]
 have HN := hid hN
 clear h hN
 go_enter Tryz.func82, Tryz.ntmps82
 go_wp2_with fail
 refine HH.o.mono ?_
 intro e w1 hp
 clear HH
 cases h1 : numR s.data.toList 1 1 8 i with
 | none =>
  rw [h1] at hp
  obtain ⟨he, hf⟩ := hp
  have eN : N = none := by rw [<- HN.o]; unfold nameR; rw [h1]
  subst eN
  unfold noE at he
  subst he
  exact ⟨rfl, rfl, hf⟩
 | some nj =>
  obtain ⟨n, j⟩ := nj
  rw [h1] at hp
  obtain ⟨⟨v, rfl, rfl⟩, hR1, hf1⟩ := hp
  have HT := hid (rtake_any w1 B s j TT n _ hR1 rfl)
  have HF1 := hid hf1
  have H1 := hid h1
  clear hR1 hf1 h1
  go_wp2_with fail
  refine HT.o.mono ?_
  intro e w2 hp
  clear HT
  cases h2 : takeR s.data.toList n j with
  | none =>
   rw [h2] at hp
   obtain ⟨he, hf⟩ := hp
   have eN : N = none := by rw [<- HN.o]; unfold nameR; rw [H1.o]; simp only [h2]
   subst eN
   unfold noE at he
   subst he
   exact ⟨rfl, rfl, (HF1.o.trans hf)⟩
  | some lk =>
   obtain ⟨l, k⟩ := lk
   rw [h2] at hp
   obtain ⟨⟨v, rfl, rfl⟩, hR2, hf2⟩ := hp
   have HR2 := hid hR2
   have HF2 := hid (HF1.o.trans hf2)
   have H2 := hid h2
   have hn8 : n <= 8 := by have := (numR_some H1.o).2; omega
   have hls : l.length <= 8 := by
    unfold takeR at h2
    split at h2
    ·injection h2 with e2
     injection e2 with e3 e4
     rw [<- e3, List.length_take]
     omega
    ·cases h2
   obtain ⟨S, hS⟩ : ∃ S : ByteArray, (⟨l.toArray⟩ : ByteArray) = S := ⟨_, rfl⟩
   have hss : S.size <= 8 := by rw [<- hS]; exact hls
   have HN2 : Hid ((if nameB S then some (S, k) else none) = N) := by show _ = _; rw [<- HN.o]; unfold nameR; rw [H1.o]; simp only [H2.o, hS]
   have HI := hid (IsName_any S w2 (by omega))
   have HC : Hid (∀ W, Calls Tryz.prog 40 #[.string S] W fun e w' => e = .returned (.string S) /\ F0 W w') := fun W => Clone_any S W (by omega)
   rw [hS]
   clear hR2 hf2 h2 hls hS
   go_wp2_with fail
   refine HI.o.mono ?_
   rintro e w3 ⟨rfl, hf3⟩
   have HF3 := hid (HF2.o.trans (hf3.mono (by simp)))
   have HR3 := hid (HR2.o.fr hf3 (by simp))
   clear hf3
   cases hb : nameB S with
   | false =>
    have eN : N = none := by rw [<- HN2.o, hb]; rfl
    subst eN
    go_wp2_with fail
    refine (insist_no _).mono ?_
    rintro e w4 ⟨he, hw⟩
    replace hw := hw.symm
    subst hw
    unfold noE at he
    subst he
    exact ⟨rfl, rfl, HF3.o⟩
   | true =>
    have eN : N = some (S, k) := by rw [<- HN2.o, hb]; rfl
    subst eN
    go_wp2_with fail
    refine (insist_yes _).mono ?_
    rintro e w4 ⟨rfl, hw⟩
    replace hw := hw.symm
    subst hw
    go_wp2_with fail
    refine (HC.o _).mono ?_
    rintro e w4 ⟨rfl, hf4⟩
    have HF4 := hid (HF3.o.trans (hf4.mono (by simp)))
    have HR4 := hid (HR3.o.fr hf4 (by simp))
    clear hf4
    go_wp2_with fail
    go_ret
    exact ⟨⟨_, rfl, rfl⟩, HR4.o, HF4.o⟩
end Go.Proofs.YtccikgogjfbpeabGreatDoor
