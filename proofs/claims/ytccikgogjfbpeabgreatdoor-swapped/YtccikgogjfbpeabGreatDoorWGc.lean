/- The tree: the order of the rules; plain. The tree: the order of the rules: sorting. The tree: the order of the rules: sorting, walked. The tree: the order of the rules: byRank, walked. -/
import Derived.Test.YtccikgogjfbpeabGreatDoorWGb
import Derived.Test.YtccikgogjfbpeabGreatDoorWHa
import Derived.Test.YtccikgogjfbpeabGreatDoorWQi
namespace Go.Proofs.YtccikgogjfbpeabGreatDoor
def insAt (rk : Nat -> Nat) (x : Nat) (l : List Nat) : Nat -> Nat
 | 0 => 0
 | j + 1 => if rk (l.getD j 0) < rk x then insAt rk x l j else j + 1
def insM (rk : Nat -> Nat) (x : Nat) (l : List Nat) : List Nat := l.take (insAt rk x l l.length) ++ x :: l.drop (insAt rk x l l.length)
def sortM (rk : Nat -> Nat) : Nat -> List Nat
 | 0 => []
 | n + 1 => insM rk n (sortM rk n)
theorem insAt_le (rk : Nat -> Nat) (x : Nat) (l : List Nat) : ∀ j, insAt rk x l j <= j
 | 0 => Nat.le_refl _
 | j + 1 => by
  unfold insAt
  split
  ·exact Nat.le_succ_of_le (insAt_le rk x l j)
  ·exact Nat.le_refl _
theorem insM_length (rk : Nat -> Nat) (x : Nat) (l : List Nat) : (insM rk x l).length = l.length + 1 := by
 have := insAt_le rk x l l.length
 unfold insM
 rw [List.length_append, List.length_take, List.length_cons, List.length_drop]
 omega
theorem sortM_length (rk : Nat -> Nat) : ∀ n, (sortM rk n).length = n
 | 0 => rfl
 | n + 1 => by show (insM rk n (sortM rk n)).length = _; rw [insM_length, sortM_length rk n]
theorem insM_mem {rk : Nat -> Nat} {x y : Nat} {l : List Nat} : y ∈ insM rk x l ↔ y = x \/ y ∈ l := by
 unfold insM
 rw [List.mem_append, List.mem_cons]
 constructor
 ·rintro (h | h | h)
  ·exact Or.inr (List.mem_of_mem_take h)
  ·exact Or.inl h
  ·exact Or.inr (List.mem_of_mem_drop h)
 ·rintro (h | h)
  ·exact Or.inr (Or.inl h)
  ·rw [<- List.take_append_drop (insAt rk x l l.length) l, List.mem_append] at h
   rcases h with h | h
   ·exact Or.inl h
   ·exact Or.inr (Or.inr h)
theorem sortM_mem {rk : Nat -> Nat} : ∀ {n y : Nat}, y ∈ sortM rk n ↔ y < n
 | 0, y => by simp [sortM]
 | n + 1, y => by
  show y ∈ insM rk n (sortM rk n) ↔ _
  rw [insM_mem, sortM_mem]
  omega
def Ahead (rk : Nat -> Nat) (a b : Nat) : Prop := rk b < rk a \/ (rk a = rk b /\ a < b)
theorem insAt_low {rk : Nat -> Nat} {x : Nat} {l : List Nat} : ∀ {j i : Nat}, insAt rk x l j <= i -> i < j -> rk (l.getD i 0) < rk x
 | 0, _, _, h => by omega
 | j + 1, i, h1, h2 => by
  unfold insAt at h1
  split at h1
  ·rename_i hc
   by_cases e : i = j
   ·subst e; exact hc
   ·exact insAt_low h1 (by omega)
  ·omega
theorem insAt_stop {rk : Nat -> Nat} {x : Nat} {l : List Nat} : ∀ {j : Nat}, 0 < insAt rk x l j -> ¬ rk (l.getD (insAt rk x l j - 1) 0) < rk x
 | 0, h => by simp [insAt] at h
 | j + 1, h => by
  unfold insAt at h ⊢
  split at h
  ·rename_i hc
   rw [if_pos hc]
   exact insAt_stop h
  ·rename_i hc
   rw [if_neg hc]
   simpa using hc
theorem getD_of_lt {l : List Nat} {i : Nat} (h : i < l.length) : l.getD i 0 = l[i] := by simp [List.getD, h]
theorem ins_sorted {rk : Nat -> Nat} {x : Nat} {l : List Nat} (hs : l.Pairwise (Ahead rk)) (hx : ∀ y, y ∈ l -> y < x) : (insM rk x l).Pairwise (Ahead rk) := by
 unfold insM
 generalize hk : insAt rk x l l.length = k
 have hkl : k <= l.length := by rw [<- hk]; exact insAt_le rk x l l.length
 have hsplit : (l.take k ++ l.drop k).Pairwise (Ahead rk) := by rw [List.take_append_drop]; exact hs
 rw [List.pairwise_append] at hsplit
 obtain ⟨h1, h2, h3⟩ := hsplit
 rw [List.pairwise_append]
 have hdrop : ∀ y, y ∈ l.drop k -> rk y < rk x := by
  intro y hy
  obtain ⟨i, hi, e⟩ := List.getElem_of_mem hy
  rw [List.getElem_drop] at e
  have hil : k + i < l.length := by rw [List.length_drop] at hi; omega
  have := insAt_low (rk := rk) (x := x) (l := l) (j := l.length) (i := k + i) (by rw [hk]; omega) hil
  rw [getD_of_lt hil, e] at this
  exact this
 have htake : ∀ y, y ∈ l.take k -> ¬ rk y < rk x := by
  intro y hy
  have hk0 : 0 < k := by
   rcases Nat.eq_zero_or_pos k with e | e
   ·rw [e] at hy; simp at hy
   ·exact e
  have hst := insAt_stop (rk := rk) (x := x) (l := l) (j := l.length) (by rw [hk]; exact hk0)
  rw [hk, getD_of_lt (by omega : k - 1 < l.length)] at hst
  obtain ⟨i, hi, e⟩ := List.getElem_of_mem hy
  rw [List.getElem_take] at e
  rw [List.length_take] at hi
  by_cases hik : i = k - 1
  ·subst hik; rw [<- e]; exact hst
  ·have hp := (List.pairwise_iff_getElem.1 hs) i (k - 1) (by omega) (by omega) (by omega)
   rw [e] at hp
   rcases hp with hp | hp
   ·omega
   ·omega
 refine ⟨h1, ?_, ?_⟩
 ·rw [List.pairwise_cons]
  exact ⟨fun y hy => Or.inl (hdrop y hy), h2⟩
 ·intro a ha b hb
  rcases List.mem_cons.1 hb with e | hb
  ·subst e
   have hle := htake a ha
   have hlt := hx a (List.mem_of_mem_take ha)
   by_cases heq : rk b < rk a
   ·exact Or.inl heq
   ·exact Or.inr ⟨by omega, hlt⟩
  ·exact h3 a ha b hb
theorem sort_sorted (rk : Nat -> Nat) : ∀ n, (sortM rk n).Pairwise (Ahead rk)
 | 0 => List.Pairwise.nil
 | n + 1 => ins_sorted (sort_sorted rk n) (fun _ hy => sortM_mem.1 hy)
end Go.Proofs.YtccikgogjfbpeabGreatDoor

namespace Go.Proofs.YtccikgogjfbpeabGreatDoor
open Go.RowKit
theorem addr_add' (g o k : Nat) : (⟨g, o, none⟩ : Addr).add k = ⟨g, o + k, none⟩ := by unfold Addr.add; split <;> simp_all
theorem RuVs.at' {base : Nat} {w : World} : ∀ {rs : List RuleM} {xs : List Value} {j : Nat} {r : RuleM}, RuVs base w rs xs -> rs[j]? = some r -> ∃ c, RuV base w r c /\ ∀ o v, c[o]? = some v -> xs[j * 14 + o]? = some v
 | [], _, j, _, _, hj => by simp at hj
 | r :: rs, xs, 0, r', ⟨c, rest, e, h1, h2⟩, hj => by
  simp at hj
  subst hj
  refine ⟨c, h1, fun o v ho => ?_⟩
  have := (List.getElem?_eq_some_iff.1 ho).1
  rw [e, Nat.zero_mul, Nat.zero_add, List.getElem?_append_left this]
  exact ho
 | r :: rs, xs, j + 1, r', ⟨c, rest, e, h1, h2⟩, hj => by
  obtain ⟨c', a1, a3⟩ := RuVs.at' h2 (j := j) (r := r') (by simpa using hj)
  have l : c.length = 14 := by obtain ⟨vm, vc, vp, e1, _⟩ := h1; rw [e1]; rfl
  refine ⟨c', a1, fun o v ho => ?_⟩
  rw [e, List.getElem?_append_right (by omega), l, show (j + 1) * 14 + o - 14 = j * 14 + o from by omega]
  exact a3 o v ho
def cmpI (a b : Nat) : Int := if a < b then -1 else if b < a then 1 else 0
set_option maxRecDepth 30000 in
set_option maxHeartbeats 400000 in
theorem Compare_any (a b : Nat) (w : World) : Calls Tryz.prog 101 #[.int .i64 a, .int .i64 b] w fun e w' => e = .returned (.int .i64 (cmpI a b)) /\ w' = w := by
 have hn : ∀ (a : Nat) (w : World), Calls Tryz.prog 135 #[.int .i64 a] w fun e w' => e = .returned (.bool false) /\ w' = w := fun a w => by
  go_enter Tryz.func135, Tryz.ntmps135
  go_wp2
  go_ret
  exact ⟨ret_bool (by simp), rfl⟩
 have HN := hid hn
 clear hn
 by_cases h1 : a < b
 ·have h1' : (a : Int) < (b : Int) := by omega
  go_enter Tryz.func101, Tryz.ntmps101
  go_wp2_with (go_at_call 135; refine (HN.o _ _).mono ?_; rintro e w' ⟨rfl, hw⟩; replace hw := hw.symm; subst hw)
  go_ret
  exact ⟨ret_int (by simp [cmpI, h1]), rfl⟩
 ·have h1' : ¬ (a : Int) < (b : Int) := by omega
  by_cases h2 : b < a
  ·have h2' : (b : Int) < (a : Int) := by omega
   go_enter Tryz.func101, Tryz.ntmps101
   go_wp2_with (go_at_call 135; refine (HN.o _ _).mono ?_; rintro e w' ⟨rfl, hw⟩; replace hw := hw.symm; subst hw)
   go_ret
   exact ⟨ret_int (by simp [cmpI, h1, h2]), rfl⟩
  ·have h2' : ¬ (b : Int) < (a : Int) := by omega
   go_enter Tryz.func101, Tryz.ntmps101
   go_wp2_with (go_at_call 135; refine (HN.o _ _).mono ?_; rintro e w' ⟨rfl, hw⟩; replace hw := hw.symm; subst hw)
   go_ret
   exact ⟨ret_int (by simp [cmpI, h1, h2]), rfl⟩
structure RkAt (w : World) (Lb g c n : Nat) (rk : Nat -> Nat) : Prop where
 cl : w.cell? ⟨Lb, 0, none⟩ = some (.slice (some ⟨g, 0, none⟩) n c)
 rw : ∀ i, i < n -> w.cell? ⟨g, i * 14 + 1, none⟩ = some (.int .i64 (rk i))
 gl : g < w.heap.size
set_option maxRecDepth 30000 in
set_option maxHeartbeats 1000000 in
theorem byRankD_any (w : World) (Lb g c n : Nat) (rk : Nat -> Nat) (h : RkAt w Lb g c n rk) (i j : Nat) (hi : i < n) (hj : j < n) :
  Calls Tryz.prog 100 #[.int .i64 i, .int .i64 j, .pointer (some ⟨Lb, 0, none⟩)] w fun e w' => e = .returned (.int .i64 (cmpI (rk j) (rk i))) /\ ∃ m, w' = w.drewN m := by
 have c0 := h.cl
 have ci := h.rw i hi
 have cj := h.rw j hj
 have hi' : (i : Int) < (n : Int) := by omega
 have hj' : (j : Int) < (n : Int) := by omega
 have HC : Hid (∀ W, Calls Tryz.prog 101 #[.int .i64 (rk j), .int .i64 (rk i)] W fun e w' => e = .returned (.int .i64 (cmpI (rk j) (rk i))) /\ w' = W) := fun W => Compare_any _ _ W
 clear h
 go_enter Tryz.func100, Tryz.ntmps100
 go_wp2_with fail
 go_quiet ((go_at_call 101; exact Calls.quiet_of_same (HC.o _)))
 go_wp2
 go_ret
 exact ⟨rfl, _, rfl⟩
structure OrdAt (w : World) (g n : Nat) (f : Nat -> Nat) : Prop where
 cl : ∀ k, k < n -> w.cell? ⟨g, k, none⟩ = some (.int .i64 (f k))
 fz : ∀ o, w.frozen? ⟨g, o, none⟩ = false
theorem OrdAt.congr {w : World} {g n : Nat} {f f' : Nat -> Nat} (h : OrdAt w g n f) (e : ∀ k, k < n -> f k = f' k) : OrdAt w g n f' := ⟨fun k hk => by rw [<- e k hk]; exact h.cl k hk, h.fz⟩
def curF (pre : List Nat) (i j k : Nat) : Nat := if k < j then pre.getD k 0 else if k = j then i else if k <= i then pre.getD (k - 1) 0 else k
def stageF (rk : Nat -> Nat) (i k : Nat) : Nat := if k < i then (sortM rk i).getD k 0 else k
theorem cur_start (rk : Nat -> Nat) (i k : Nat) : stageF rk i k = curF (sortM rk i) i i k := by
 unfold stageF curF
 split
 ·rfl
 ·split
  ·omega
  ·rw [if_neg (by omega)]
theorem cur_end (rk : Nat -> Nat) (i k : Nat) : curF (sortM rk i) i (insAt rk i (sortM rk i) i) k = stageF rk (i + 1) k := by
 have hl := sortM_length rk i
 have hK := insAt_le rk i (sortM rk i) i
 unfold stageF curF
 show _ = if k < i + 1 then (insM rk i (sortM rk i)).getD k 0 else k
 unfold insM
 rw [hl]
 generalize insAt rk i (sortM rk i) i = K at *
 generalize sortM rk i = pre at *
 simp only [List.getD_eq_getElem?_getD]
 by_cases h1 : k < K
 ·rw [if_pos h1, if_pos (by omega), List.getElem?_append_left (by rw [List.length_take]; omega), List.getElem?_take, if_pos h1]
 ·rw [if_neg h1]
  by_cases h2 : k = K
  ·rw [if_pos h2, if_pos (by omega), List.getElem?_append_right (by rw [List.length_take]; omega), List.length_take, show k - min K pre.length = 0 from by omega]
   rfl
  ·rw [if_neg h2]
   by_cases h3 : k <= i
   ·rw [if_pos h3, if_pos (by omega), List.getElem?_append_right (by rw [List.length_take]; omega), List.length_take, show k - min K pre.length = (k - 1 - K) + 1 from by omega, List.getElem?_cons_succ, List.getElem?_drop, show K + (k - 1 - K) = k - 1 from by omega]
   ·rw [if_neg h3, if_neg (by omega)]
theorem OrdAt.swap {w : World} {g n : Nat} {pre : List Nat} {i j : Nat} (h : OrdAt w g n (curF pre i j)) (hj : 0 < j) (hji : j <= i) :
  OrdAt ((w.setCell ⟨g, j, none⟩ (.int .i64 (pre.getD (j - 1) 0))).setCell ⟨g, j - 1, none⟩ (.int .i64 i)) g n (curF pre i (j - 1)) := by
 refine ⟨fun k hk => ?_, fun o => by simp [h.fz o]⟩
 have hne : (⟨g, j, none⟩ : Addr) ≠ ⟨g, j - 1, none⟩ := by intro e; injection e with _ e; omega
 by_cases h1 : k = j - 1
 ·subst h1
  have := h.cl (j - 1) hk
  rw [World.cell?_setCell_same _ _ _ (by rw [World.cell?_setCell_other _ _ _ _ hne]; exact this)]
  unfold curF
  rw [if_neg (by omega), if_pos rfl]
 ·rw [World.cell?_setCell_other _ _ _ _ (by intro e; injection e with _ e; omega)]
  by_cases h2 : k = j
  ·subst h2
   rw [World.cell?_setCell_same _ _ _ (h.cl k hk)]
   unfold curF
   rw [if_neg (by omega), if_neg (by omega), if_pos hji]
  ·rw [World.cell?_setCell_other _ _ _ _ (by intro e; injection e with _ e; omega), h.cl k hk]
   unfold curF
   by_cases h3 : k < j
   ·rw [if_pos h3, if_pos (by omega)]
   ·have h4 : ¬ k < j - 1 := by omega
    simp only [h1, h2, h3, h4, if_false]
end Go.Proofs.YtccikgogjfbpeabGreatDoor

namespace Go.Proofs.YtccikgogjfbpeabGreatDoor
open Go.RowKit
theorem RkAt.fr {w w' : World} {Lb g c n : Nat} {rk : Nat -> Nat} {S : Nat -> Prop} (h : RkAt w Lb g c n rk) (hf : Fr S w w') (h1 : ¬ S Lb) (h2 : ¬ S g) : RkAt w' Lb g c n rk :=
 ⟨(hf.cell (p := ⟨Lb, 0, none⟩) (World.block_lt_of_cell? w _ h.cl) h1).trans h.cl, fun i hi => (hf.cell (p := ⟨g, i * 14 + 1, none⟩) h.gl h2).trans (h.rw i hi), Nat.lt_of_lt_of_le h.gl hf.size⟩
theorem cmp_neg {a b : Nat} : (cmpI a b < 0) ↔ a < b := by
 unfold cmpI
 split
 ·simp [*]
 ·split
  ·constructor <;> intro h <;> omega
  ·constructor <;> intro h <;> omega
set_option maxRecDepth 30000 in
set_option maxHeartbeats 4000000 in
theorem insSort_any (w : World) (Lb g c n g2 cap : Nat) (rk : Nat -> Nat) (h : RkAt w Lb g c n rk) (ho : OrdAt w g2 n (fun k => k)) (h1 : Lb ≠ g2) (h2 : g ≠ g2) (hn : n <= 8) (hn1 : 1 <= n) :
  Calls Tryz.prog 173 #[.slice (some ⟨g2, 0, none⟩) n cap, .int .i64 0, .int .i64 n, .func (.func 100) #[] #[.pointer (some ⟨Lb, 0, none⟩)]] w fun e w' => e = .returned (.tuple #[]) /\ OrdAt w' g2 n (stageF rk n) /\ Fr (fun k => k = g2) w w' := by
 have HK := hid h
 have HO : Hid (OrdAt w g2 n (stageF rk 1)) := ho.congr (fun k _ => by
  unfold stageF
  split
  ·have : k = 0 := by omega
   subst this; rfl
  ·rfl)
 have HNE : Hid (Lb ≠ g2 /\ g ≠ g2) := ⟨h1, h2⟩
 clear h ho h1 h2
 go_enter Tryz.func173, Tryz.ntmps173
 go_wp2_with fail
 go_loopg [8] (n - 1) (fun m iv wr => ∃ i, 1 <= i /\ i <= n /\ m = n - i /\ iv = .int .i64 (i : Nat) /\ Hid (OrdAt wr g2 n (stageF rk i)) /\ Hid (Fr (fun k => k = g2) w wr))
 case atStart => exact ⟨1, Nat.le_refl _, hn1, rfl, rfl, HO, Fr.refl _ _⟩
 case round =>
  obtain ⟨i, hi1, hin, rfl, rfl, HOi, HF⟩ := hrel
  by_cases hlt : i < n
  ·have hki : (i : Int) < (n : Int) := by omega
   have HO0 : Hid (OrdAt wr g2 n (curF (sortM rk i) i i)) := HOi.o.congr (fun k _ => cur_start rk i k)
   go_wp2_with fail
   go_loopg [9] i (fun m jv wq => jv = .int .i64 (m : Nat) /\ m <= i /\ Hid (OrdAt wq g2 n (curF (sortM rk i) i m)) /\ Hid (insAt rk i (sortM rk i) m = insAt rk i (sortM rk i) i) /\ Hid (Fr (fun k => k = g2) w wq))
   case atStart => exact ⟨rfl, Nat.le_refl _, HO0, rfl, HF⟩
   case round =>
    obtain ⟨rfl, hji, HOj, HI, HFj⟩ := hrel
    cases gk with
    | zero =>
     have HEND : Hid (insAt rk i (sortM rk i) i = 0) := by have e := HI.o; show _ = _; rw [<- e]; rfl
     go_wp2_with fail
     go_quiet (fail)
     have HOd : Hid (OrdAt (wr.drewN nq) g2 n (stageF rk (i + 1))) := by
      have e := HOj.o.congr (f' := stageF rk (i + 1)) (fun k _ => by rw [<- cur_end rk i k, HEND.o])
      exact ⟨fun k hk => e.cl k hk, fun o => e.fz o⟩
     have HFd : Hid (Fr (fun k => k = g2) w (wr.drewN nq)) := HFj.o.trans ⟨rfl, rfl, rfl, Nat.le_refl _, fun _ _ _ => rfl⟩
     generalize wr.drewN nq = wx at *
     go_wp2_with fail
     go_roundg (n - (i + 1))
     case measure => omega
     case rel => exact ⟨i + 1, by omega, by omega, rfl, by go_num, HOd, HFd⟩
    | succ j =>
     have HPn : Hid ((sortM rk i).getD j 0 < n) := by
      have hl := sortM_length rk i
      have hj : j < (sortM rk i).length := by omega
      have := sortM_mem.1 (List.getElem_mem hj)
      show _ < _
      rw [getD_of_lt hj]
      omega
     obtain ⟨y, hy⟩ : ∃ y, (sortM rk i).getD j 0 = y := ⟨_, rfl⟩
     have HY := hid hy
     have c1 : wr.cell? ⟨g2, j + 1, none⟩ = some (.int .i64 i) := by
      have e := HOj.o.cl (j + 1) (by omega)
      unfold curF at e
      rw [if_neg (by omega), if_pos rfl] at e
      exact e
     have c0 : wr.cell? ⟨g2, j, none⟩ = some (.int .i64 y) := by
      have e := HOj.o.cl j (by omega)
      unfold curF at e
      rw [if_pos (by omega), hy] at e
      exact e
     have HKw : Hid (RkAt wr Lb g c n rk) := HK.o.fr HFj.o HNE.o.1 HNE.o.2
     have HC : Hid (∀ m, Calls Tryz.prog 100 #[.int .i64 i, .int .i64 y, .pointer (some ⟨Lb, 0, none⟩)] (wr.drewN m) fun e w' => e = .returned (.int .i64 (cmpI (rk y) (rk i))) /\ ∃ k, w' = (wr.drewN m).drewN k) := fun m =>
      byRankD_any (wr.drewN m) Lb g c n rk ⟨HKw.o.cl, HKw.o.rw, HKw.o.gl⟩ i y hlt (by have := HPn.o; rw [hy] at this; exact this)
     have hy8 : y < 8 := by have := HPn.o; omega
     have e0 : (0 : Int) < (j : Int) + 1 := by omega
     have e1 : (j : Int) + 1 < (n : Int) := by omega
     have e2 : (j : Int) < (n : Int) := by omega
     clear hy
     by_cases hc : rk y < rk i
     ·have hcm : cmpI (rk y) (rk i) < 0 := cmp_neg.2 hc
      go_wp2_with fail
      go_quiet ((go_at_call 100; exact Calls.quiet_of (HC.o _)))
      have HOx : Hid (OrdAt (wr.drewN nq) g2 n (curF (sortM rk i) i (j + 1))) := ⟨fun k hk => HOj.o.cl k hk, fun o => HOj.o.fz o⟩
      have HFd : Hid (Fr (fun k => k = g2) w (wr.drewN nq)) := HFj.o.trans ⟨rfl, rfl, rfl, Nat.le_refl _, fun _ _ _ => rfl⟩
      have d1 : (wr.drewN nq).cell? ⟨g2, j + 1, none⟩ = some (.int .i64 i) := c1
      have d0 : (wr.drewN nq).cell? ⟨g2, j, none⟩ = some (.int .i64 y) := c0
      have fz : ∀ o, (wr.drewN nq).frozen? ⟨g2, o, none⟩ = false := HOx.o.fz
      clear c0 c1 HC HKw
      generalize wr.drewN nq = wx at *
      have HOs : Hid (OrdAt ((wx.setCell ⟨g2, j + 1, none⟩ (.int .i64 y)).setCell ⟨g2, j, none⟩ (.int .i64 i)) g2 n (curF (sortM rk i) i j)) := by
       have e := HOx.o.swap (by omega) hji
       rw [Nat.add_sub_cancel, HY.o] at e
       exact e
      have HIn : Hid (insAt rk i (sortM rk i) j = insAt rk i (sortM rk i) i) := by
       have e := HI.o
       rw [insAt, HY.o, if_pos hc] at e
       exact e
      go_wp2_with fail
      go_region
      have HOr : Hid (OrdAt (((wx.setCell ⟨g2, j + 1, none⟩ (.int .i64 y)).setCell ⟨g2, j, none⟩ (.int .i64 i)).drew) g2 n (curF (sortM rk i) i j)) := ⟨fun k hk => HOs.o.cl k hk, fun o => HOs.o.fz o⟩
      have HFr : Hid (Fr (fun k => k = g2) w (((wx.setCell ⟨g2, j + 1, none⟩ (.int .i64 y)).setCell ⟨g2, j, none⟩ (.int .i64 i)).drew)) := ((HFd.o.setCell (p := ⟨g2, j + 1, none⟩) (Or.inl rfl) _).setCell (p := ⟨g2, j, none⟩) (Or.inl rfl) _).drew
      generalize ((wx.setCell ⟨g2, j + 1, none⟩ (.int .i64 y)).setCell ⟨g2, j, none⟩ (.int .i64 i)).drew = wy at *
      clear d0 d1 fz
      go_wp2_with fail
      go_roundg j
      case measure => omega
      case rel => exact ⟨by go_num, by omega, HOr, HIn, HFr⟩
     ·have hcm : ¬ cmpI (rk y) (rk i) < 0 := fun h => hc (cmp_neg.1 h)
      have HEND : Hid (insAt rk i (sortM rk i) i = j + 1) := by have e := HI.o; show _ = _; rw [<- e, insAt, HY.o, if_neg hc]
      go_wp2_with fail
      go_quiet ((go_at_call 100; exact Calls.quiet_of (HC.o _)))
      clear c0 c1 HC HKw
      have HOd : Hid (OrdAt (wr.drewN nq) g2 n (stageF rk (i + 1))) := by
       have e := HOj.o.congr (f' := stageF rk (i + 1)) (fun k _ => by rw [<- cur_end rk i k, HEND.o])
       exact ⟨fun k hk => e.cl k hk, fun o => e.fz o⟩
      have HFd : Hid (Fr (fun k => k = g2) w (wr.drewN nq)) := HFj.o.trans ⟨rfl, rfl, rfl, Nat.le_refl _, fun _ _ _ => rfl⟩
      generalize wr.drewN nq = wx at *
      go_wp2_with fail
      go_roundg (n - (i + 1))
      case measure => omega
      case rel => exact ⟨i + 1, by omega, by omega, rfl, by go_num, HOd, HFd⟩
  ·have hki : ¬ (i : Int) < (n : Int) := by omega
   have e : i = n := by omega
   subst e
   go_wp2
   go_end0
   exact ⟨rfl, HOi.o, HF.o⟩
set_option maxRecDepth 30000 in
set_option maxHeartbeats 2000000 in
theorem SortStable_any (w : World) (Lb g c n g2 cap : Nat) (rk : Nat -> Nat) (h : RkAt w Lb g c n rk) (ho : OrdAt w g2 n (fun k => k)) (h1 : Lb ≠ g2) (h2 : g ≠ g2) (hn : n <= 8) (hn1 : 1 <= n) :
  Calls Tryz.prog 99 #[.slice (some ⟨g2, 0, none⟩) n cap, .func (.func 100) #[] #[.pointer (some ⟨Lb, 0, none⟩)]] w fun e w' => e = .returned (.tuple #[]) /\ OrdAt w' g2 n (stageF rk n) /\ Fr (fun k => k = g2) w w' := by
 have HI := hid (insSort_any w Lb g c n g2 cap rk h ho h1 h2 hn hn1)
 have HS : Hid (Calls Tryz.prog 134 #[.slice (some ⟨g2, 0, none⟩) n cap, .int .i64 n, .func (.func 100) #[] #[.pointer (some ⟨Lb, 0, none⟩)]] w fun e w' => e = .returned (.tuple #[]) /\ OrdAt w' g2 n (stageF rk n) /\ Fr (fun k => k = g2) w w') := by
  clear h ho h1 h2
  show Calls _ _ _ _ _
  have e1 : ¬ (20 : Int) <= (n : Int) := by omega
  have e2 : ¬ (20 : Int) < (n : Int) := by omega
  go_enter Tryz.func134, Tryz.ntmps134
  go_wp2_with fail
  go_loopg [7, 8] 0 (fun _ a b wr => a = .int .i64 0 /\ b = .int .i64 20 /\ Hid (wr = w))
  case atStart => exact ⟨rfl, rfl, rfl⟩
  case round =>
   obtain ⟨rfl, rfl, HW⟩ := hrel
   have e := HW.o
   subst e
   go_wp2_with fail
   refine HI.o.mono ?_
   rintro e w1 ⟨rfl, ho1, hf1⟩
   have HO1 := hid ho1
   have HF1 := hid hf1
   clear ho1 hf1
   go_wp2_with fail
   go_loopg [6] 0 (fun _ a wr => a = .int .i64 20 /\ Hid (wr = w1))
   case atStart => exact ⟨rfl, rfl⟩
   case round =>
    obtain ⟨rfl, HW⟩ := hrel
    have e := HW.o
    subst e
    go_wp2_with fail
    go_end0
    exact ⟨rfl, HO1.o, HF1.o⟩
 clear h ho h1 h2
 go_enter Tryz.func99, Tryz.ntmps99
 go_wp2_with fail
 refine HS.o.mono ?_
 rintro e w1 ⟨rfl, ho1, hf1⟩
 have HO1 := hid ho1
 have HF1 := hid hf1
 clear ho1 hf1
 go_wp2_with fail
 go_end0
 exact ⟨rfl, HO1.o, HF1.o⟩
end Go.Proofs.YtccikgogjfbpeabGreatDoor

namespace Go.Proofs.YtccikgogjfbpeabGreatDoor
open Go.RowKit
set_option maxRecDepth 30000 in
set_option maxHeartbeats 2000000 in
theorem SortStable_none (w : World) (c Lb : Nat) :
  Calls Tryz.prog 99 #[.slice none 0 c, .func (.func 100) #[] #[.pointer (some ⟨Lb, 0, none⟩)]] w fun e w' => e = .returned (.tuple #[]) /\ w' = w := by
 have HI : Hid (Calls Tryz.prog 173 #[.slice none 0 c, .int .i64 0, .int .i64 0, .func (.func 100) #[] #[.pointer (some ⟨Lb, 0, none⟩)]] w fun e w' => e = .returned (.tuple #[]) /\ w' = w) := by
  show Calls _ _ _ _ _
  go_enter Tryz.func173, Tryz.ntmps173
  go_wp2_with fail
  go_loopg [8] 0 (fun _ a wr => a = .int .i64 1 /\ Hid (wr = w))
  case atStart => exact ⟨rfl, rfl⟩
  case round =>
   obtain ⟨rfl, HW⟩ := hrel
   have e := HW.o
   subst e
   go_wp2_with fail
   go_end0
   exact ⟨rfl, rfl⟩
 have HS : Hid (Calls Tryz.prog 134 #[.slice none 0 c, .int .i64 0, .func (.func 100) #[] #[.pointer (some ⟨Lb, 0, none⟩)]] w fun e w' => e = .returned (.tuple #[]) /\ w' = w) := by
  show Calls _ _ _ _ _
  go_enter Tryz.func134, Tryz.ntmps134
  go_wp2_with fail
  go_loopg [7, 8] 0 (fun _ a b wr => a = .int .i64 0 /\ b = .int .i64 20 /\ Hid (wr = w))
  case atStart => exact ⟨rfl, rfl, rfl⟩
  case round =>
   obtain ⟨rfl, rfl, HW⟩ := hrel
   have e := HW.o
   subst e
   go_wp2_with fail
   refine HI.o.mono ?_
   rintro e w1 ⟨rfl, hw⟩
   replace hw := hw.symm
   subst hw
   go_wp2_with fail
   go_loopg [6] 0 (fun _ a wr' => a = .int .i64 20 /\ Hid (wr' = wr))
   case atStart => exact ⟨rfl, rfl⟩
   case round =>
    obtain ⟨rfl, HW⟩ := hrel
    have e := HW.o
    subst e
    go_wp2_with fail
    go_end0
    exact ⟨rfl, rfl⟩
 go_enter Tryz.func99, Tryz.ntmps99
 go_wp2_with fail
 refine HS.o.mono ?_
 rintro e w1 ⟨rfl, hw⟩
 replace hw := hw.symm
 subst hw
 go_wp2_with fail
 go_end0
 exact ⟨rfl, rfl⟩
theorem range_snoc (i : Nat) : List.range (i + 1) = List.range i ++ [i] := List.range_succ
def OrderAt (w : World) (B : Nat) (oa : Option Addr) (n : Nat) (f : Nat -> Nat) : Prop := 0 < n -> ∃ g, oa = some ⟨g, 0, none⟩ /\ B <= g /\ g < w.heap.size /\ OrdAt w g n f
set_option maxRecDepth 30000 in
set_option maxHeartbeats 4000000 in
theorem byRank_any (w : World) (va : Option Addr) (n c : Nat) (rk : Nat -> Nat) (hn : n <= 8) (hr : ∀ i, i < n -> ∃ g, va = some ⟨g, 0, none⟩ /\ g < w.heap.size /\ w.cell? ⟨g, i * 14 + 1, none⟩ = some (.int .i64 (rk i))) :
  Calls Tryz.prog 60 #[.slice va n c] w fun e w' => (∃ oa oc, e = .returned (.slice oa n oc) /\ OrderAt w' w.heap.size oa n (stageF rk n)) /\ F0 w w' := by
 have hmf : ∀ (fn : Fn) (first cap : Array Value) (w : World), (Instr.makeFunc fn first cap).run Tryz.prog w = .ok (.func fn first cap) w := fun _ _ _ _ => rfl
 have HR := hid hr
 obtain ⟨ii, hi, hz0, hz1, hz2⟩ := info_parts Tryz.infoInt
 clear hr
 go_enter Tryz.func60, Tryz.ntmps60
 go_wp2_with fail
 have HF0 : Hid (F0 w (w.alloc (.cells #[.slice va n c] 57))) := (Fr.refl _ _).alloc _
 have HL0 : Hid ((w.alloc (.cells #[.slice va n c] 57)).heap[w.heap.size]? = some (.cells #[.slice va n c] 57)) := heap_alloc_new w _
 generalize w.alloc (.cells #[.slice va n c] 57) = W0 at *
 obtain ⟨L, hL⟩ : ∃ L, w.heap.size = L := ⟨_, rfl⟩
 rw [hL] at HL0
 rw [hL]
 have HL := hid hL
 clear hL
 go_loopg [3, 7] n (fun m o iv wr => ∃ i, i <= n /\ m = n - i /\ iv = .int .i64 (i : Nat) /\ Hid (i = 0 -> o = .slice none 0 0) /\ Hid (wr.ownsRow (L + 1) 3 1 o i (intRow (List.range i))) /\ Hid (F0 w wr) /\ Hid (wr.heap[L]? = some (.cells #[.slice va n c] 57)))
 case atStart => exact ⟨0, Nat.zero_le _, rfl, rfl, fun _ => rfl, World.ownsRow_nil _ _ _ _, HF0, HL0⟩
 case round =>
  obtain ⟨i, hin, rfl, rfl, HZ, HO, HF, HLr⟩ := hrel
  obtain ⟨oa, oc, ho⟩ := ownsRow_len HO.o
  subst ho
  have hLs : L + 1 <= wr.heap.size := (Array.getElem?_eq_some_iff.1 HLr.o).1
  by_cases hlt : i < n
  ·have hki : (i : Int) < (n : Int) := by omega
   go_wp2_with (at_builtin; refine wpList_append_lies _ rfl (.tmp 10) (.tmp 12) 22 rfl (L + 1) 3 ii _ 1 8 Tryz.underlying22 hi hz0 hz1 hz2 rfl (by decide) (.slice oa i oc) i (intRow (List.range i)) rfl ?h1 ⟨wr.heap.size, 0, none⟩ 1 1 [.int .i64 i] rfl rfl ?h2 ?h3 (by decide) ?h4 ?h5 ?h6 _ rfl ?h7)
   case h1 => exact HO.o.alloc _
   case h2 => exact World.news_of_block (heap_alloc_new wr (.cells #[.int .i64 i] 3))
   case h3 => simp [Value.oneCell']
   case h4 => unfold maxLen; omega
   case h5 => omega
   case h6 => simp; omega
   case h7 =>
    intro g2 cap2 w8 hown hgrow hor _
    have hlo : ∀ k, (Value.slice oa i oc).ownBlock = some k -> L + 1 <= k := fun k hk => (HO.o.lt k hk).1
    have HF8 := hid ((HF.o.alloc _).grown hgrow (fun k hk => Or.inr (by have := hlo k hk; have := HL.o; omega)))
    have HL8 := hid ((((Fr.refl (fun k => (Value.slice oa i oc).ownBlock = some k) wr).alloc _).grown hgrow (fun k hk => Or.inl hk)).whole HLr.o (fun e => by have := hlo L e; omega))
    have HO8 : Hid (w8.ownsRow (L + 1) 3 1 (.slice (some ⟨g2, 0, none⟩) (i + 1) cap2) (i + 1) (intRow (List.range (i + 1)))) := by rw [range_snoc, intRow_snoc]; exact hown
    clear hown hgrow hor hlo
    go_wp2_with fail
    go_roundg (n - (i + 1))
    case measure => omega
    case rel => exact ⟨i + 1, by omega, rfl, by go_num, fun e => by omega, HO8, HF8, HL8⟩
  ·have hki : ¬ (i : Int) < (n : Int) := by omega
   have e : i = n := by omega
   subst e
   rcases Nat.eq_zero_or_pos i with h0 | h0
   ·subst h0
    have ez := HZ.o rfl
    injection ez with ez1 _ ez3
    subst ez1 ez3
    have HS := hid (SortStable_none wr 0 L)
    go_wp2_with fail
    refine HS.o.mono ?_
    rintro e w9 ⟨rfl, hw⟩
    replace hw := hw.symm
    subst hw
    go_wp2_with fail
    go_ret
    exact ⟨⟨_, _, rfl, fun h => by omega⟩, HF.o⟩
   ·obtain ⟨g2, cap2, eo, hb2, hg2⟩ := HO.o.form h0
    injection eo with eo1 _ eo3
    subst eo1 eo3
    obtain ⟨g, hg, _, _⟩ := HR.o 0 h0
    subst hg
    have HRK : Hid (RkAt wr L g c i rk) := ⟨block_cell HLr.o 0 _ rfl, fun k hk => by
     obtain ⟨g', e1, e2, e3⟩ := HR.o k hk
     injection e1 with e1
     injection e1 with e1
     subst e1
     exact (HF.o.cell (p := ⟨g, k * 14 + 1, none⟩) e2 (by simp)).trans e3, by
     obtain ⟨g', e1, e2, _⟩ := HR.o 0 h0
     injection e1 with e1
     injection e1 with e1
     subst e1
     exact Nat.lt_of_lt_of_le e2 HF.o.size⟩
    have HOA : Hid (OrdAt wr g2 i (fun k => k)) := by
     refine ⟨fun k hk => ?_, fun o => ?_⟩
     ·have := HO.o.cells (g := g2) rfl k (.int .i64 k) (by simp [intRow, hk])
      rwa [addr_add', Nat.zero_add] at this
     ·rcases HO.o.2 with ⟨e, _⟩ | ⟨g', cap', cur, e1, _, hh, _⟩
      ·cases e
      ·injection e1 with e1
       injection e1 with e1
       injection e1 with e1
       subst e1
       exact block_frozen hh o
    have HS : Hid (Calls Tryz.prog 99 #[.slice (some ⟨g2, 0, none⟩) i oc, .func (.func 100) #[] #[.pointer (some ⟨L, 0, none⟩)]] wr fun e w' => e = .returned (.tuple #[]) /\ OrdAt w' g2 i (stageF rk i) /\ Fr (fun k => k = g2) wr w') := by
     have hgl : g < L := by
      obtain ⟨g', e1, e2, _⟩ := HR.o 0 h0
      injection e1 with e1
      injection e1 with e1
      subst e1
      have := HL.o
      omega
     exact SortStable_any wr L g c i g2 oc rk HRK.o HOA.o (by omega) (by omega) hn h0
    go_wp2_with fail
    refine HS.o.mono ?_
    rintro e w9 ⟨rfl, ho9, hf9⟩
    have HO9 := hid ho9
    have HF9 := hid (HF.o.monoNew hf9 (fun k hk => Or.inr (by have := HL.o; omega)))
    have HG9 := hid (Nat.lt_of_lt_of_le hg2 hf9.size)
    clear ho9 hf9
    go_wp2_with fail
    go_ret
    exact ⟨⟨_, _, rfl, fun _ => ⟨g2, rfl, by have := HL.o; omega, HG9.o, HO9.o⟩⟩, HF9.o⟩
end Go.Proofs.YtccikgogjfbpeabGreatDoor
