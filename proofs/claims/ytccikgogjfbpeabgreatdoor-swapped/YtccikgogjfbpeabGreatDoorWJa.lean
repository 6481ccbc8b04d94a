/- Images, plainly: how a tree is written, and that reading gives it back. -/
import Derived.Test.YtccikgogjfbpeabGreatDoorWIh
namespace Go.Proofs.YtccikgogjfbpeabGreatDoor
def numW : Nat -> Nat -> List UInt8
 | 0, _ => []
 | k + 1, n => UInt8.ofNat n :: numW k (n / 256)
theorem numW_len : ∀ k n, (numW k n).length = k
 | 0, _ => rfl
 | k + 1, n => by simp [numW, numW_len k]
theorem leN_numW : ∀ k n, n < 256 ^ k -> leN (numW k n) = n
 | 0, n, h => by simp [numW, leN] at *; omega
 | k + 1, n, h => by
  simp only [numW, leN, UInt8.toNat_ofNat']
  rw [leN_numW k (n / 256) (by rw [Nat.pow_succ] at h; omega)]
  omega
theorem numW_get : ∀ k n i, i < k -> (numW k n)[i]? = some (UInt8.ofNat (n / 2 ^ (8 * i)))
 | k + 1, n, 0, _ => by simp [numW]
 | k + 1, n, i + 1, h => by
  simp only [numW, List.getElem?_cons_succ]
  rw [numW_get k (n / 256) i (by omega), Nat.div_div_eq_div_mul, show 8 * (i + 1) = 8 + 8 * i from by omega, Nat.pow_add]
def nameW (s : ByteArray) : List UInt8 := numW 1 s.size ++ s.data.toList
def routeW (r : RouteM) : List UInt8 := nameW r.name ++ (numW 4 r.base ++ numW 4 r.rate)
def listW (l : List Nat) : List UInt8 := numW 1 l.length ++ l.flatMap (numW 2)
def stepW (s : StepM) : List UInt8 := numW 1 s.sort ++ (if s.sort = 0 \/ s.sort = 2 then numW 1 s.skip ++ listW s.nums else if s.sort = 1 then numW 1 s.skip ++ (numW 4 (s.nums.getD 0 0) ++ numW 4 (s.nums.getD 1 0)) else if s.sort = 3 then numW 1 s.rule else if s.sort = 4 \/ s.sort = 5 then numW 1 s.rule ++ listW s.nums else [])
def progW (l : List StepM) : List UInt8 := numW 1 l.length ++ l.flatMap stepW
def Tr.wr : Tr -> List UInt8
 | .leaf p => numW 1 (1 + p)
 | .node k => numW 1 0 ++ (List.range 10).flatMap fun d => (k d).wr
def bodyW (t : TrD) : List UInt8 := (numW 1 t.rts.length ++ t.rts.flatMap routeW) ++ ((numW 1 t.nms.length ++ t.nms.flatMap nameW) ++ ((numW 1 t.prs.length ++ t.prs.flatMap progW) ++ t.root.wr))
def Tr.norm : Tr -> Tr
 | .leaf p => .leaf p
 | .node k => .node fun d => ((List.range 10).map fun d => (k d).norm).getD d (.leaf 0)
theorem kid_get {α : Type} (f : Nat -> α) (a : α) {d : Nat} (h : d < 10) : ((List.range 10).map f).getD d a = f d := by
 rw [List.getD, List.getElem?_map, List.getElem?_range h]
 rfl
theorem find_norm {dg : Nat -> Nat} (hd : ∀ n, dg n < 10) : ∀ (t : Tr) (n : Nat), t.norm.find dg n = t.find dg n
 | .leaf _, _ => rfl
 | .node k, n => by
  show (((List.range 10).map fun d => (k d).norm).getD (dg n) (.leaf 0)).find dg (n + 1) = (k (dg n)).find dg (n + 1)
  rw [kid_get (fun d => (k d).norm) _ (hd n)]
  exact find_norm hd (k (dg n)) (n + 1)
def Stn (b : List UInt8) (i : Nat) (l : List UInt8) : Prop := ∃ p r, b = p ++ (l ++ r) /\ p.length = i
theorem Stn.left {b : List UInt8} {i : Nat} {l m : List UInt8} (h : Stn b i (l ++ m)) : Stn b i l := by
 obtain ⟨p, r, e, hp⟩ := h
 exact ⟨p, m ++ r, by rw [e, List.append_assoc], hp⟩
theorem Stn.right {b : List UInt8} {i : Nat} {l m : List UInt8} (h : Stn b i (l ++ m)) : Stn b (i + l.length) m := by
 obtain ⟨p, r, e, hp⟩ := h
 exact ⟨p ++ l, r, by rw [e]; simp, by simp [hp]⟩
theorem takeR_at {b : List UInt8} {i : Nat} {l : List UInt8} {n : Nat} (h : Stn b i l) (hn : l.length = n) : takeR b n i = some (l, i + n) := by
 obtain ⟨p, r, e, hp⟩ := h
 subst hn hp
 unfold takeR
 rw [if_pos (by rw [e]; simp), e]
 simp
theorem numR_at {b : List UInt8} {i k n : Nat} {lo hi : Int} (h : Stn b i (numW k n)) (hk : n < 256 ^ k) (h1 : lo <= n) (h2 : (n : Int) <= hi) : numR b k lo hi i = some (n, i + k) := by
 unfold numR
 rw [takeR_at h (numW_len k n)]
 dsimp only
 rw [leN_numW k n hk, if_pos ⟨h1, h2⟩]
theorem timesR_at {α β : Type} {b : List UInt8} {one : Rd β} {W : α -> List UInt8} {f : α -> β} : ∀ (l : List α) (i : Nat), (∀ x, x ∈ l -> ∀ i, Stn b i (W x) -> one i = some (f x, i + (W x).length)) -> Stn b i (l.flatMap W) -> timesR one l.length i = some (l.map f, i + (l.flatMap W).length)
 | [], i, _, _ => by simp [timesR]
 | x :: l, i, ho, h => by
  rw [List.flatMap_cons] at h
  simp only [List.length_cons, timesR]
  rw [ho x (by simp) i h.left]
  dsimp only
  rw [timesR_at l _ (fun y hy => ho y (by simp [hy])) h.right]
  simp [Nat.add_assoc]
theorem manyR_at {α β : Type} {b : List UInt8} {one : Rd β} {W : α -> List UInt8} {f : α -> β} {lo hi : Int} {l : List α} {i : Nat} (ho : ∀ x, x ∈ l -> ∀ i, Stn b i (W x) -> one i = some (f x, i + (W x).length)) (h : Stn b i (numW 1 l.length ++ l.flatMap W)) (h0 : l.length <= 255) (h1 : lo <= l.length) (h2 : (l.length : Int) <= hi) :
  manyR b lo hi one i = some (l.map f, i + (numW 1 l.length ++ l.flatMap W).length) := by
 unfold manyR
 rw [numR_at h.left (by omega) h1 h2]
 dsimp only
 have e := h.right
 rw [numW_len] at e
 rw [timesR_at l _ ho e, List.length_append, numW_len, Nat.add_assoc]
theorem nameB_size {s : ByteArray} (h : nameB s = true) : 1 <= s.size /\ s.size <= 8 := by
 unfold nameB at h
 simp only [Bool.and_eq_true, decide_eq_true_eq] at h
 exact ⟨h.1, h.2.1⟩
theorem nameR_at {b : List UInt8} {i : Nat} {s : ByteArray} (hs : nameB s = true) (h : Stn b i (nameW s)) : nameR b i = some (s, i + (nameW s).length) := by
 have h8 := nameB_size hs
 unfold nameR
 rw [numR_at h.left (by omega) (by omega) (by omega)]
 dsimp only
 have e := h.right
 rw [numW_len] at e
 rw [takeR_at e (by simp)]
 dsimp only
 rw [show (⟨s.data.toList.toArray⟩ : ByteArray) = s from by rw [Array.toArray_toList], if_pos hs]
 simp [nameW, numW_len, Nat.add_assoc]
theorem routeR_at {b : List UInt8} {i : Nat} {r : RouteM} (hs : nameB r.name = true /\ r.base <= 1000000 /\ r.rate <= 1000) (h : Stn b i (routeW r)) : routeR b i = some (r, i + (routeW r).length) := by
 unfold routeR
 rw [nameR_at hs.1 h.left]
 dsimp only
 rw [numR_at h.right.left (by omega) (by omega) (by omega)]
 dsimp only
 have e := h.right.right
 rw [numW_len] at e
 rw [numR_at e (by omega) (by omega) (by omega)]
 simp [routeW, numW_len, Nat.add_assoc]
theorem listR_at {b : List UInt8} {i : Nat} {l : List Nat} {hi : Int} (h1 : 1 <= l.length) (h4 : l.length <= 4) (hl : ∀ x : Nat, x ∈ l -> (x : Int) <= hi /\ x < 65536) (h : Stn b i (listW l)) : listR b hi i = some (l, i + (listW l).length) := by
 unfold listR
 have e := manyR_at (b := b) (one := numR b 2 0 hi) (W := numW 2) (f := fun x => x) (lo := 1) (hi := 4) (l := l) (i := i) (fun x hx i hi => by rw [numW_len]; exact numR_at hi (by have := hl x hx; omega) (by omega) (hl x hx).1) h (by omega) (by omega) (by omega)
 rw [e, List.map_id']
 rfl
def StW (nr nn : Nat) (s : StepM) : Prop :=
 (∃ (so hi : Nat) (l : List Nat) (k : Nat), (so = 0 /\ hi = 9999 \/ so = 2 /\ hi = 999) /\ s = ⟨so, l, 0, k⟩ /\ 1 <= k /\ k <= 255 /\ 1 <= l.length /\ l.length <= 4 /\ ∀ x, x ∈ l -> x <= hi) \/
 (∃ x y k : Nat, s = ⟨1, [x, y], 0, k⟩ /\ 1 <= k /\ k <= 255 /\ x <= y /\ y <= 1000000000) \/
 (∃ i : Nat, s = ⟨3, [], i, 0⟩ /\ i < nn) \/
 (∃ (so : Nat) (l : List Nat) (i : Nat), (so = 4 \/ so = 5) /\ s = ⟨so, l, i, 0⟩ /\ i < nn /\ 1 <= l.length /\ l.length <= 4 /\ ∀ x, x ∈ l -> x < nr) \/ s = ⟨6, [], 0, 0⟩
theorem stepR_at {b : List UInt8} {nr nn i : Nat} {s : StepM} (hr : nr <= 6) (hn : nn <= 8) (hs : StW nr nn s) (h : Stn b i (stepW s)) : stepR b nr nn i = some (s, i + (stepW s).length) := by
 rcases hs with ⟨so, hi, l, k, hso, rfl, k1, k2, l1, l2, hl⟩ | ⟨x, y, k, rfl, k1, k2, hxy, hy⟩ | ⟨j, rfl, hj⟩ | ⟨so, l, j, hso, rfl, hj, l1, l2, hl⟩ | rfl
 ·have e : stepW ⟨so, l, 0, k⟩ = numW 1 so ++ (numW 1 k ++ listW l) := by unfold stepW; dsimp only; rw [if_pos (by omega)]
  rw [e] at h ⊢
  have hh := h.right
  rw [numW_len] at hh
  have h3 := hh.right
  rw [numW_len] at h3
  have eg : ∀ hj : Int, (hi : Int) = hj -> guardR b so hj (i + 1) = some (⟨so, l, 0, k⟩, i + (numW 1 so ++ (numW 1 k ++ listW l)).length) := fun hj ej => by
   unfold guardR
   rw [numR_at hh.left (by omega) (by omega) (by omega)]
   dsimp only
   rw [listR_at l1 l2 (fun x hx => by have := hl x hx; omega) h3]
   simp [numW_len, Nat.add_assoc]
   omega
  unfold stepR
  rw [numR_at h.left (by omega) (by omega) (by omega)]
  dsimp only
  rcases hso with ⟨rfl, rfl⟩ | ⟨rfl, rfl⟩
  ·rw [if_pos rfl]
   exact eg _ rfl
  ·rw [if_neg (by omega), if_neg (by omega), if_pos rfl]
   exact eg _ rfl
 ·have e : stepW ⟨1, [x, y], 0, k⟩ = numW 1 1 ++ (numW 1 k ++ (numW 4 x ++ numW 4 y)) := rfl
  rw [e] at h ⊢
  have hh := h.right
  rw [numW_len] at hh
  have h3 := hh.right
  rw [numW_len] at h3
  have h4 := h3.right
  rw [numW_len] at h4
  unfold stepR
  rw [numR_at h.left (by omega) (by omega) (by omega)]
  dsimp only
  rw [if_neg (by omega), if_pos rfl]
  unfold spanR
  rw [numR_at hh.left (by omega) (by omega) (by omega)]
  dsimp only
  rw [numR_at h3.left (by omega) (by omega) (by omega)]
  dsimp only
  rw [numR_at h4 (by omega) (by omega) (by omega)]
  simp [numW_len, Nat.add_assoc]
 ·have e : stepW ⟨3, [], j, 0⟩ = numW 1 3 ++ numW 1 j := rfl
  rw [e] at h ⊢
  have hh := h.right
  rw [numW_len] at hh
  unfold stepR
  rw [numR_at h.left (by omega) (by omega) (by omega)]
  dsimp only
  rw [if_neg (by omega), if_neg (by omega), if_neg (by omega), if_neg (by omega)]
  unfold endR
  rw [numR_at hh (by omega) (by omega) (by omega)]
  simp [numW_len, Nat.add_assoc]
 ·have e : stepW ⟨so, l, j, 0⟩ = numW 1 so ++ (numW 1 j ++ listW l) := by unfold stepW; dsimp only; rw [if_neg (by omega), if_neg (by omega), if_neg (by omega), if_pos hso]
  rw [e] at h ⊢
  have hh := h.right
  rw [numW_len] at hh
  have h3 := hh.right
  rw [numW_len] at h3
  unfold stepR
  rw [numR_at h.left (by omega) (by omega) (by omega)]
  dsimp only
  rw [if_neg (by omega), if_neg (by omega), if_neg (by omega), if_neg (by omega)]
  unfold endR
  rw [numR_at hh.left (by omega) (by omega) (by omega)]
  dsimp only
  rw [if_neg (by omega), listR_at l1 l2 (fun x hx => by have := hl x hx; omega) h3]
  simp [numW_len, Nat.add_assoc]
  omega
 ·have e : stepW ⟨6, [], 0, 0⟩ = numW 1 6 ++ [] := rfl
  rw [e] at h ⊢
  unfold stepR
  rw [numR_at h.left (by omega) (by omega) (by omega)]
  dsimp only
  rw [if_neg (by omega), if_neg (by omega), if_neg (by omega), if_pos rfl]
  simp [numW_len]
theorem nodeR_at {b : List UInt8} {np : Nat} (hp : np <= 255) : ∀ (t : Tr) (n i : Nat), n <= 6 -> t.deep n -> t.lows np -> Stn b i t.wr -> nodeR b np (7 - n) i = some (t.norm, i + t.wr.length)
 | .leaf p, n, i, h6, _, hl, h => by
  have hl : p < np := hl
  have h : Stn b i (numW 1 (1 + p)) := h
  rw [show 7 - n = (6 - n) + 1 from by omega, nodeR]
  dsimp only
  rw [numR_at h (by omega) (by omega) (by omega), Nat.add_comm 1 p]
  simp [Tr.norm, Tr.wr, numW_len]
 | .node k, n, i, h6, hd, hl, h => by
  have h : Stn b i (numW 1 0 ++ (List.range 10).flatMap fun d => (k d).wr) := h
  have hd : n < 6 /\ ∀ d, d < 10 -> (k d).deep (n + 1) := hd
  have hl : ∀ d, d < 10 -> (k d).lows np := hl
  have hh := h.right
  rw [numW_len] at hh
  have e := timesR_at (b := b) (one := nodeR b np (6 - n)) (W := fun d => (k d).wr) (f := fun d => (k d).norm) (List.range 10) (i + 1) (fun d hm i hi => by
   have hd9 := List.mem_range.1 hm
   have := nodeR_at hp (k d) (n + 1) i (by omega) (hd.2 d hd9) (hl d hd9) hi
   rw [show 7 - (n + 1) = 6 - n from by omega] at this
   exact this) hh
  rw [List.length_range] at e
  rw [show 7 - n = (6 - n) + 1 from by omega, nodeR]
  dsimp only
  rw [numR_at h.left (by omega) (by omega) (by omega)]
  dsimp only
  rw [if_neg (by omega), e]
  simp [Tr.norm, Tr.wr, numW_len, Nat.add_assoc]
structure TrD.Wr (t : TrD) : Prop where
 r6 : t.rts.length <= 6
 rt : ∀ r, r ∈ t.rts -> nameB r.name = true /\ r.base <= 1000000 /\ r.rate <= 1000
 n8 : t.nms.length <= 8
 nm : ∀ s, s ∈ t.nms -> nameB s = true
 df : (differB (t.rts.map RouteM.name) && differB t.nms) = true
 pl : 1 <= t.prs.length /\ t.prs.length <= 255
 pr : ∀ l, l ∈ t.prs -> 1 <= l.length /\ l.length <= 255 /\ (∀ s, s ∈ l -> StW t.rts.length t.nms.length s) /\ leads l = true
 dp : t.root.deep 0
 lf : t.root.lows t.prs.length
theorem readR_at {t : TrD} (h : t.Wr) : readR (bodyW t) = some ⟨t.rts, t.nms, t.prs, t.root.norm⟩ := by
 have hb : Stn (bodyW t) 0 ((numW 1 t.rts.length ++ t.rts.flatMap routeW) ++ ((numW 1 t.nms.length ++ t.nms.flatMap nameW) ++ ((numW 1 t.prs.length ++ t.prs.flatMap progW) ++ t.root.wr))) := ⟨[], [], by simp [bodyW], rfl⟩
 have hr6 := h.r6
 have hn8 := h.n8
 have hpl := h.pl
 have hl : (bodyW t).length = 0 + (numW 1 t.rts.length ++ t.rts.flatMap routeW).length + (numW 1 t.nms.length ++ t.nms.flatMap nameW).length + (numW 1 t.prs.length ++ t.prs.flatMap progW).length + t.root.wr.length := by
  unfold bodyW
  simp only [List.length_append]
  omega
 generalize bodyW t = b at *
 unfold readR
 rw [manyR_at (W := routeW) (f := fun x => x) (fun r hr i hi => routeR_at (h.rt r hr) hi) hb.left (by omega) (by omega) (by omega)]
 dsimp only
 rw [List.map_id', manyR_at (W := nameW) (f := fun x => x) (fun r hr i hi => nameR_at (h.nm r hr) hi) hb.right.left (by omega) (by omega) (by omega)]
 dsimp only
 rw [List.map_id', if_pos h.df, manyR_at (W := progW) (f := fun x => x) (fun l hl i hi => by
  obtain ⟨h1, h2, h3, h4⟩ := h.pr l hl
  unfold progR
  have e := manyR_at (b := b) (one := stepR b t.rts.length t.nms.length) (W := stepW) (f := fun x => x) (lo := 1) (hi := 255) (l := l) (i := i) (fun s hs i hi => stepR_at hr6 hn8 (h3 s hs) hi) hi (by omega) (by omega) (by omega)
  rw [e, List.map_id']
  dsimp only
  rw [if_pos h4]
  rfl) hb.right.right.left (by omega) (by omega) (by omega)]
 dsimp only
 rw [List.map_id']
 have e := nodeR_at (np := t.prs.length) (by omega) t.root 0 _ (by omega) h.dp h.lf hb.right.right.right
 rw [e]
 dsimp only
 rw [if_pos hl.symm]
def closeM (b : List UInt8) : List UInt8 := (wordB (8 + b.length) ++ b) ++ wordB (sumM (wordB (8 + b.length) ++ b))
theorem wordB_len (n : Nat) : (wordB n).length = 4 := rfl
theorem close_len (b : List UInt8) : (closeM b).length = 8 + b.length := by
 unfold closeM
 simp [wordB_len]
 omega
theorem open_close {b : List UInt8} (h : b.length <= 199992) : openM (closeM b) = some b := by
 have hl := close_len b
 have e1 : (closeM b).take 4 = wordB (8 + b.length) := by
  unfold closeM
  rw [List.append_assoc, List.take_left' (wordB_len _)]
 have e2 : (closeM b).take (4 + b.length) = wordB (8 + b.length) ++ b := by
  unfold closeM
  rw [List.take_left' (by simp [wordB_len])]
 have e3 : (closeM b).drop (4 + b.length) = wordB (sumM (wordB (8 + b.length) ++ b)) := by
  unfold closeM
  rw [List.drop_left' (by simp [wordB_len])]
 unfold openM
 rw [hl, if_pos ⟨by omega, by omega⟩, show 8 + b.length - 4 = 4 + b.length from by omega, e1, e2, e3, if_pos ⟨rfl, rfl⟩, List.drop_left' (wordB_len _)]
theorem load_image {t : TrD} (h : t.Wr) (hl : (bodyW t).length <= 199992) : loadM (closeM (bodyW t)) = some ⟨t.rts, t.nms, t.prs, t.root.norm⟩ := by
 unfold loadM
 rw [open_close hl]
 exact readR_at h
theorem open_some {l b : List UInt8} (h : openM l = some b) : 8 <= l.length /\ l.length <= 200000 /\ l.take 4 = wordB l.length /\ l.drop (l.length - 4) = wordB (sumM (l.take (l.length - 4))) := by
 unfold openM at h
 split at h
 ·rename_i h1
  split at h
  ·rename_i h2
   exact ⟨h1.1, h1.2, h2.1, h2.2⟩
  ·cases h
 ·cases h
theorem word_inj {m n : Nat} (hm : m < 4294967296) (hn : n < 4294967296) (h : wordB m = wordB n) : m = n := by
 rw [<- wordB_num hm, <- wordB_num hn, h]
theorem cut_none {l b : List UInt8} {k : Nat} (h : openM l = some b) (hk : k < l.length) : openM (l.take k) = none := by
 cases hq : openM (l.take k) with
 | none => rfl
 | some b2 =>
  obtain ⟨h1, h2, h3, h4⟩ := open_some h
  obtain ⟨g1, g2, g3, g4⟩ := open_some hq
  have e : (l.take k).length = k := by simp; omega
  rw [e] at g1 g3
  rw [List.take_take, Nat.min_eq_left (by omega), h3] at g3
  have := word_inj (by omega) (by omega) g3
  omega
end Go.Proofs.YtccikgogjfbpeabGreatDoor
