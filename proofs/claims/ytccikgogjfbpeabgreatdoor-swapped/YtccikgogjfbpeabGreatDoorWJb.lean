/- A grown tree can be written: its programs are few, their steps lead on; plain. -/
import Derived.Test.YtccikgogjfbpeabGreatDoorWJa
import Derived.Test.YtccikgogjfbpeabGreatDoorWIh
namespace Go.Proofs.YtccikgogjfbpeabGreatDoor
theorem nodup_bound : ∀ (n : Nat) (l : List Nat), l.Nodup -> (∀ x, x ∈ l -> x < n) -> l.length <= n
 | 0, [], _, _ => Nat.le_refl _
 | 0, x :: l, _, h => by have := h x (by simp); omega
 | n + 1, l, hd, h => by
  have e := nodup_bound n (l.erase n) (hd.erase n) (fun x hx => by
   have h1 := (hd.mem_erase_iff).1 hx
   have := h x h1.2
   have := h1.1
   omega)
  have := List.le_length_erase (a := n) (l := l)
  omega
def GdP (R : List RuleM) (ps : List Nat) : Prop := ps.Nodup /\ ∀ m, m ∈ ps -> m < 2 ^ R.length /\ ∃ c, ∀ i r, R[i]? = some r -> (m.testBit i = true ↔ inBin r.digits r.lo r.hi c)
theorem placed_mem {ps : List Nat} {m x : Nat} (h : x ∈ placedM ps m) : x ∈ ps \/ x = m := by
 unfold placedM at h
 split at h
 ·exact .inl h
 ·simpa using h
theorem kids_gd {R : List RuleM} {f : Nat -> List Nat -> Tr × List Nat} (hf : ∀ d ps, d < 10 -> GdP R ps -> GdP R (f d ps).2) : ∀ (k : Nat) (ps : List Nat), k <= 10 -> GdP R ps -> GdP R (kidsM f k ps).2
 | 0, _, _, h => h
 | k + 1, ps, hk, h => hf k _ (by omega) (kids_gd hf k ps (by omega) h)
theorem siftM_lt {R : List RuleM} {q : Part} {met op : Nat} (h : met < 2 ^ R.length) : (siftM q op 0 R (met, 0)).1 < 2 ^ R.length := by
 apply Nat.lt_pow_two_of_testBit
 intro j hj
 cases hb : (siftM q op 0 R (met, 0)).1.testBit j with
 | false => rfl
 | true =>
  rcases (sift_ok R 0 (met, 0) j).1.1 hb with h1 | ⟨r, _, h2, _⟩
  ·rw [Nat.testBit_lt_two_pow (Nat.lt_of_lt_of_le h (Nat.pow_le_pow_right (by decide) hj))] at h1
   cases h1
  ·have := (List.getElem?_eq_some_iff.1 h2).1
   omega
theorem grow_gd {R : List RuleM} (hR : ∀ r, r ∈ R -> BinOk r) : ∀ (n : Nat) (q : Part) (met op : Nat) (ps : List Nat), 7 <= n + q.d -> q.d <= 6 -> KnowsAt R q met op -> met < 2 ^ R.length -> GdP R ps -> GdP R (growM R n q met op ps).2
 | 0, q, _, _, _, hn, hq, _, _, _ => by omega
 | n + 1, q, met, op, ps, hn, hq, hk, hm, hg => by
  have hs := sift_knows hR hq hk
  simp only [growM]
  split
  ·rename_i h0
   refine ⟨placed_nodup hg.1, fun x hx => ?_⟩
   rcases placed_mem hx with hx | rfl
   ·exact hg.2 x hx
   ·refine ⟨siftM_lt hm, q.x * 10 ^ (6 - q.d), fun i r hr => ?_⟩
    have hc : inPart q (q.x * 10 ^ (6 - q.d)) := Nat.mul_div_cancel _ (Nat.pow_pos (by decide))
    constructor
    ·intro hm; exact (hs i r hr).1 hm _ hc
    ·intro hi
     cases hm : (siftM q op 0 R (met, 0)).1.testBit i with
     | true => rfl
     | false => exact absurd hi ((hs i r hr).2 hm (by rw [h0]; simp) _ hc)
  ·rename_i h0
   have hq6 := split_deep hR h0
   exact kids_gd (fun d ps' hd hp => grow_gd hR n (q.longer d) _ _ ps' (by show 7 <= n + (q.d + 1); omega) (by show q.d + 1 <= 6; omega) (knows_longer hq6 hd hs) (siftM_lt hm) hp) 10 ps (Nat.le_refl _) hg
theorem bin_iff (r : RuleM) (c : Nat) : inBin r.digits r.lo r.hi c ↔ r.lo * 10 ^ (6 - r.digits) <= c /\ c < (r.hi + 1) * 10 ^ (6 - r.digits) := by
 have hp : 0 < 10 ^ (6 - r.digits) := Nat.pow_pos (by decide)
 unfold inBin
 rw [Nat.le_div_iff_mul_le hp, <- Nat.div_lt_iff_lt_mul hp, Nat.lt_succ_iff]
theorem few {R : List RuleM} (h8 : R.length <= 8) {ps : List Nat} (h : GdP R ps) : ps.length <= 255 := by
 by_cases h7 : R.length <= 7
 ·have : 2 ^ R.length <= 2 ^ 7 := Nat.pow_le_pow_right (by decide) h7
  have := nodup_bound 128 ps h.1 (fun x hx => by have := (h.2 x hx).1; omega)
  omega
 ·have h8 : R.length = 8 := by omega
  have hlt : ∀ x, x ∈ ps -> x < 256 := fun x hx => by have := (h.2 x hx).1; rw [h8] at this; exact this
  have key : ∀ m, m < 256 -> m ∉ ps -> ps.length <= 255 := fun m hm hn => by
   have := nodup_bound 256 (m :: ps) (List.nodup_cons.2 ⟨hn, h.1⟩) (fun x hx => by
    rcases List.mem_cons.1 hx with rfl | hx
    ·exact hm
    ·exact hlt x hx)
   simp at this
   omega
  by_cases m7 : 7 ∈ ps
  ·by_cases m3 : 3 ∈ ps
   ·by_cases m5 : 5 ∈ ps
    ·by_cases m6 : 6 ∈ ps
     ·exfalso
      obtain ⟨_, c7, k7⟩ := h.2 7 m7
      obtain ⟨_, c3, k3⟩ := h.2 3 m3
      obtain ⟨_, c5, k5⟩ := h.2 5 m5
      obtain ⟨_, c6, k6⟩ := h.2 6 m6
      have r0 : R[0]? = some (R[0]'(by omega)) := List.getElem?_eq_getElem _
      have r1 : R[1]? = some (R[1]'(by omega)) := List.getElem?_eq_getElem _
      have r2 : R[2]? = some (R[2]'(by omega)) := List.getElem?_eq_getElem _
      generalize R[0]'(by omega) = a at r0
      generalize R[1]'(by omega) = b at r1
      generalize R[2]'(by omega) = c at r2
      have a7 := (bin_iff a c7).1 ((k7 0 a r0).1 (by decide))
      have b7 := (bin_iff b c7).1 ((k7 1 b r1).1 (by decide))
      have d7 := (bin_iff c c7).1 ((k7 2 c r2).1 (by decide))
      have a3 := (bin_iff a c3).1 ((k3 0 a r0).1 (by decide))
      have b3 := (bin_iff b c3).1 ((k3 1 b r1).1 (by decide))
      have d3 : ¬ _ := fun e => absurd ((k3 2 c r2).2 ((bin_iff c c3).2 e)) (by decide)
      have a5 := (bin_iff a c5).1 ((k5 0 a r0).1 (by decide))
      have b5 : ¬ _ := fun e => absurd ((k5 1 b r1).2 ((bin_iff b c5).2 e)) (by decide)
      have d5 := (bin_iff c c5).1 ((k5 2 c r2).1 (by decide))
      have a6 : ¬ _ := fun e => absurd ((k6 0 a r0).2 ((bin_iff a c6).2 e)) (by decide)
      have b6 := (bin_iff b c6).1 ((k6 1 b r1).1 (by decide))
      have d6 := (bin_iff c c6).1 ((k6 2 c r2).1 (by decide))
      clear k7 k3 k5 k6 key hlt
      generalize a.lo * 10 ^ (6 - a.digits) = a1 at *
      generalize (a.hi + 1) * 10 ^ (6 - a.digits) = a2 at *
      generalize b.lo * 10 ^ (6 - b.digits) = b1 at *
      generalize (b.hi + 1) * 10 ^ (6 - b.digits) = b2 at *
      generalize c.lo * 10 ^ (6 - c.digits) = e1 at *
      generalize (c.hi + 1) * 10 ^ (6 - c.digits) = e2 at *
      omega
     ·exact key 6 (by decide) m6
    ·exact key 5 (by decide) m5
   ·exact key 3 (by decide) m3
  ·exact key 7 (by decide) m7
theorem lows_more {m n : Nat} (h : m <= n) : ∀ (t : Tr), t.lows m -> t.lows n
 | .leaf _, ht => Nat.lt_of_lt_of_le ht h
 | .node k, ht => fun d hd => lows_more h (k d) (ht d hd)
theorem kids_lows {f : Nat -> List Nat -> Tr × List Nat} (hf : ∀ d ps, ∃ s, (f d ps).2 = ps ++ s) (hg : ∀ d ps, (f d ps).1.lows (f d ps).2.length) : ∀ (k : Nat) (ps : List Nat) (d : Nat), d < k -> ((kidsM f k ps).1 d).lows (kidsM f k ps).2.length
 | 0, _, _, hd => by omega
 | k + 1, ps, d, hd => by
  by_cases e : d = k
  ·subst e
   simp only [kidsM, if_true]
   exact hg d _
  ·simp only [kidsM, if_neg e]
   obtain ⟨s, hs⟩ := hf k (kidsM f k ps).2
   rw [hs]
   exact lows_more (by simp) _ (kids_lows hf hg k ps d (by omega))
theorem grow_lows {R : List RuleM} (hR : ∀ r, r ∈ R -> BinOk r) : ∀ (n : Nat) (q : Part) (met op : Nat) (ps : List Nat), 7 <= n + q.d -> q.d <= 6 -> (growM R n q met op ps).1.lows (growM R n q met op ps).2.length
 | 0, q, _, _, _, hn, hq => by omega
 | n + 1, q, met, op, ps, hn, hq => by
  simp only [growM]
  split
  ·exact (List.getElem?_eq_some_iff.1 (placed_at _ _)).1
  ·rename_i h0
   have hq6 := split_deep hR h0
   exact fun d hd => kids_lows (fun d ps' => grow_ext R n _ _ _ ps') (fun d ps' => grow_lows hR n (q.longer d) _ _ ps' (by show 7 <= n + (q.d + 1); omega) (by show q.d + 1 <= 6; omega)) 10 ps d hd
theorem flat_len {α : Type} {W : α -> List UInt8} {B : Nat} : ∀ (l : List α), (∀ x, x ∈ l -> (W x).length <= B) -> (l.flatMap W).length <= l.length * B
 | [], _ => by simp
 | x :: l, h => by
  have h1 := h x (by simp)
  have h2 := flat_len l (fun y hy => h y (by simp [hy]))
  rw [List.flatMap_cons, List.length_append, List.length_cons, Nat.add_mul, Nat.one_mul]
  omega
def gW : Nat -> Nat
 | 0 => 1
 | k + 1 => 1 + 10 * gW k
theorem gW_pos (k : Nat) : 1 <= gW k := by cases k <;> simp [gW]
theorem kids_wr {f : Nat -> List Nat -> Tr × List Nat} {B : Nat} (hg : ∀ d ps, (f d ps).1.wr.length <= B) : ∀ (k : Nat) (ps : List Nat) (d : Nat), d < k -> ((kidsM f k ps).1 d).wr.length <= B
 | 0, _, _, hd => by omega
 | k + 1, ps, d, hd => by
  by_cases e : d = k
  ·subst e
   simp only [kidsM, if_true]
   exact hg d _
  ·simp only [kidsM, if_neg e]
   exact kids_wr hg k ps d (by omega)
theorem grow_wr {R : List RuleM} (hR : ∀ r, r ∈ R -> BinOk r) (h3 : ∀ r, r ∈ R -> r.digits <= 3) : ∀ (n : Nat) (q : Part) (met op : Nat) (ps : List Nat), 7 <= n + q.d -> q.d <= 6 -> (growM R n q met op ps).1.wr.length <= gW (3 - q.d)
 | 0, q, _, _, _, hn, hq => by omega
 | n + 1, q, met, op, ps, hn, hq => by
  simp only [growM]
  split
  ·exact gW_pos _
  ·rename_i h0
   have hq3 : q.d < 3 := by
    obtain ⟨j, hj⟩ := Nat.exists_testBit_of_ne_zero h0
    rcases (sift_ok R 0 (met, 0) j).2.1 hj with h1 | ⟨r, _, h2, _, h4⟩
    ·simp at h1
    ·have hm := List.mem_of_getElem? h2
     have := about_some (hR r hm).2 (hR r hm).1 h4
     have := h3 r hm
     omega
   have hk := kids_wr (f := fun d ps' => growM R n (q.longer d) (siftM q op 0 R (met, 0)).1 (siftM q op 0 R (met, 0)).2 ps') (B := gW (3 - (q.d + 1))) (fun d ps' => grow_wr hR h3 n (q.longer d) _ _ ps' (by show 7 <= n + (q.d + 1); omega) (by show q.d + 1 <= 6; omega)) 10 ps
   show (numW 1 0 ++ (List.range 10).flatMap fun d => ((kidsM _ 10 ps).1 d).wr).length <= _
   have e := flat_len (List.range 10) (fun d hd => hk d (List.mem_range.1 hd))
   rw [List.length_append, numW_len]
   rw [List.length_range] at e
   rw [show 3 - q.d = (3 - (q.d + 1)) + 1 from by omega, gW]
   omega
def Lead (l : List StepM) : Prop := ∀ k s, l[k]? = some s -> k + s.skip < l.length
theorem lead_app {l r : List StepM} (hl : ∀ k s, l[k]? = some s -> k + s.skip < l.length + r.length) (hr : Lead r) : Lead (l ++ r) := by
 intro k s hs
 rw [List.length_append]
 by_cases hk : k < l.length
 ·rw [List.getElem?_append_left hk] at hs
  exact hl k s hs
 ·rw [List.getElem?_append_right (by omega)] at hs
  have := hr _ _ hs
  omega
theorem skipsG {m : Nat} : ∀ {l : List StepM} {a k : Nat} {s : StepM}, (skipsM m a l)[k]? = some s -> ∃ x, l[k]? = some x /\ s = { x with skip := m - (a + k) + 1 }
 | [], _, _, _, h => by simp [skipsM] at h
 | x :: r, a, 0, s, h => by
  simp [skipsM] at h
  exact ⟨x, by simp, by rw [<- h]; simp⟩
 | x :: r, a, k + 1, s, h => by
  simp only [skipsM, List.getElem?_cons_succ] at h
  obtain ⟨y, h1, h2⟩ := skipsG h
  exact ⟨y, by simpa using h1, by rw [h2, show a + 1 + k = a + (k + 1) from by omega]⟩
theorem act_skip (i : Nat) (r : RuleM) : (actM i r).skip = 0 := by
 unfold actM
 split
 ·rfl
 ·split <;> rfl
theorem one_lead {s : StepM} (h : s.skip = 0) : Lead [s] := fun k x hx => by
 cases k with
 | zero => simp at hx; subst hx; simp [h]
 | succ k => simp at hx
theorem write_lead (R : List RuleM) (met : Nat) : ∀ L : List Nat, Lead (writeM R met L) /\ 1 <= (writeM R met L).length
 | [] => ⟨one_lead rfl, by simp [writeM]⟩
 | i :: L => by
  have ih := write_lead R met L
  simp only [writeM]
  split
  ·cases hr : R[i]? with
   | none => exact ih
   | some r =>
    dsimp only
    split
    ·exact ⟨one_lead (act_skip i r), by simp⟩
    ·refine ⟨lead_app (fun k s hs => ?_) ?_, by simp; omega⟩
     ·have hk := (List.getElem?_eq_some_iff.1 hs).1
      unfold askedM at hs hk ⊢
      rw [skips_len] at hk ⊢
      obtain ⟨x, _, e⟩ := skipsG hs
      subst e
      simp only [List.length_cons]
      have := ih.2
      omega
     ·exact lead_app (l := [actM i r]) (fun k s hs => by have := one_lead (act_skip i r) k s hs; simp at this ⊢; omega) ih.1
  ·exact ih
theorem leads_of {l : List StepM} (h : Lead l) : leads l = true := by
 unfold leads
 rw [List.all_eq_true]
 intro k _
 cases hk : l[k]? with
 | none => rfl
 | some s => simpa using h k s hk
structure RuJ (nr : Nat) (r : RuleM) : Prop where
 m4 : r.mcc.length <= 4
 mx : ∀ x, x ∈ r.mcc -> x <= 9999
 c4 : r.cur.length <= 4
 cx : ∀ x, x ∈ r.cur -> x <= 999
 am : ∀ ab, r.am = some ab -> ab.1 <= ab.2 /\ ab.2 <= 1000000000
 ac : r.decline = true \/ 1 <= r.routes.length /\ r.routes.length <= 4
 pl : ∀ x, x ∈ r.routes -> x < nr
theorem write_st {R : List RuleM} {nr : Nat} (hR : ∀ r, r ∈ R -> RuJ nr r) (met : Nat) : ∀ (L : List Nat) (s : StepM), s ∈ writeM R met L -> StW nr R.length s
 | [], s, h => by
  simp [writeM] at h
  exact .inr (.inr (.inr (.inr h)))
 | i :: L, s, h => by
  have ih := write_st hR met L s
  simp only [writeM] at h
  split at h
  ·cases hr : R[i]? with
   | none => rw [hr] at h; exact ih h
   | some r =>
    rw [hr] at h
    dsimp only at h
    have hw := hR r (List.mem_of_getElem? hr)
    have hi := (List.getElem?_eq_some_iff.1 hr).1
    have ha : StW nr R.length (actM i r) := by
     unfold actM
     split
     ·exact .inr (.inr (.inl ⟨i, rfl, hi⟩))
     ·rename_i hd
      rcases hw.ac with h1 | ⟨h1, h2⟩
      ·exact absurd h1 hd
      ·split
       ·exact .inr (.inr (.inr (.inl ⟨5, _, i, .inr rfl, rfl, hi, h1, h2, hw.pl⟩)))
       ·exact .inr (.inr (.inr (.inl ⟨4, _, i, .inl rfl, rfl, hi, h1, h2, hw.pl⟩)))
    split at h
    ·simp at h
     subst h
     exact ha
    ·rcases List.mem_append.1 h with h | h
     ·obtain ⟨k, hk, e⟩ := List.getElem_of_mem h
      have hg := List.getElem?_eq_getElem hk
      rw [e] at hg
      unfold askedM at hg
      obtain ⟨x, h1, e1⟩ := skipsG hg
      have h3 := guardsM_len r
      have hx := List.mem_of_getElem? h1
      have hsk : 1 <= (guardsM r).length - (0 + k) + 1 /\ (guardsM r).length - (0 + k) + 1 <= 255 := by omega
      generalize (guardsM r).length - (0 + k) + 1 = sk at *
      subst e1
      unfold guardsM at hx
      rw [List.mem_append, List.mem_append] at hx
      rcases hx with e | e | e
      ·split at e
       ·cases e
       ·rename_i hn
        simp at e
        subst e
        exact .inl ⟨0, 9999, r.mcc, sk, .inl ⟨rfl, rfl⟩, rfl, hsk.1, hsk.2, List.length_pos_iff.2 hn, hw.m4, hw.mx⟩
      ·cases hh : r.am with
       | none => rw [hh] at e; cases e
       | some ab =>
        rw [hh] at e
        simp at e
        subst e
        exact .inr (.inl ⟨ab.1, ab.2, sk, rfl, hsk.1, hsk.2, hw.am ab hh⟩)
      ·split at e
       ·cases e
       ·rename_i hn
        simp at e
        subst e
        exact .inl ⟨2, 999, r.cur, sk, .inr ⟨rfl, rfl⟩, rfl, hsk.1, hsk.2, List.length_pos_iff.2 hn, hw.c4, hw.cx⟩
     ·rcases List.mem_cons.1 h with rfl | h
      ·exact ha
      ·exact ih h
  ·exact ih h
theorem listW_len {l : List Nat} (h : l.length <= 4) : (listW l).length <= 9 := by
 unfold listW
 have := flat_len (W := numW 2) (B := 2) l (fun x _ => by rw [numW_len]; omega)
 rw [List.length_append, numW_len]
 omega
theorem stepW_len {nr nn : Nat} {s : StepM} (h : StW nr nn s) : (stepW s).length <= 11 := by
 have hb : s.nums.length <= 4 := by
  rcases h with ⟨so, hi, l, k, hso, rfl, k1, k2, l1, l2, hl⟩ | ⟨x, y, k, rfl, k1, k2, hxy, hy⟩ | ⟨j, rfl, hj⟩ | ⟨so, l, j, hso, rfl, hj, l1, l2, hl⟩ | rfl
  ·exact l2
  ·simp
  ·simp
  ·exact l2
  ·simp
 have := listW_len hb
 unfold stepW
 rw [List.length_append, numW_len]
 split
 ·rw [List.length_append, numW_len]; omega
 ·split
  ·simp only [List.length_append, numW_len]; omega
  ·split
   ·rw [numW_len]; omega
   ·split
    ·rw [List.length_append, numW_len]; omega
    ·simp
def grownT (rts : List RouteM) (R : List RuleM) : TrD := ⟨rts, R.map RuleM.name, (growM R 7 ⟨0, 0⟩ 0 (2 ^ R.length - 1) []).2.map fun m => writeM R m (ordL R.length (stageF (rankF R) R.length)), (growM R 7 ⟨0, 0⟩ 0 (2 ^ R.length - 1) []).1⟩
theorem grown_gd {rts : List RouteM} {R : List RuleM} (hb : BookOk rts R) : GdP R (growM R 7 ⟨0, 0⟩ 0 (2 ^ R.length - 1) []).2 :=
 grow_gd (R := R) (fun r hr => ⟨(hb.rl r hr).bn.1, (hb.rl r hr).bn.2.1⟩) 7 ⟨0, 0⟩ 0 (2 ^ R.length - 1) [] (by simp) (by simp) (knows_all R) (Nat.pow_pos (by decide)) ⟨List.nodup_nil, by simp⟩
theorem grown_lows {rts : List RouteM} {R : List RuleM} (hb : BookOk rts R) : (growM R 7 ⟨0, 0⟩ 0 (2 ^ R.length - 1) []).1.lows (growM R 7 ⟨0, 0⟩ 0 (2 ^ R.length - 1) []).2.length :=
 grow_lows (R := R) (fun r hr => ⟨(hb.rl r hr).bn.1, (hb.rl r hr).bn.2.1⟩) 7 ⟨0, 0⟩ 0 (2 ^ R.length - 1) [] (by simp) (by simp)
theorem lows_pos {n : Nat} : ∀ (t : Tr), t.lows n -> 0 < n
 | .leaf _, h => Nat.lt_of_le_of_lt (Nat.zero_le _) h
 | .node k, h => lows_pos (k 0) (h 0 (by decide))
theorem grown_wr {rts : List RouteM} {R : List RuleM} (hb : BookOk rts R) (hR : ∀ r, r ∈ R -> RuJ rts.length r) (hr : ∀ r, r ∈ rts -> nameB r.name = true /\ r.base <= 1000000 /\ r.rate <= 1000) (hn : ∀ r, r ∈ R -> nameB r.name = true) (hd : (differB (rts.map RouteM.name) && differB (R.map RuleM.name)) = true) : (grownT rts R).Wr := by
 refine ⟨hb.r6, hr, by unfold grownT; simpa using hb.l8, fun s hs => ?_, hd, ?_, fun l hl => ?_, grown_deep hb, ?_⟩
 ·obtain ⟨r, h1, rfl⟩ := List.mem_map.1 hs
  exact hn r h1
 ·unfold grownT
  dsimp only
  rw [List.length_map]
  exact ⟨lows_pos _ (grown_lows hb), few hb.l8 (grown_gd hb)⟩
 ·obtain ⟨m, hm, rfl⟩ := List.mem_map.1 hl
  have e1 := writeM_len R m (ordL R.length (stageF (rankF R) R.length))
  have e2 : (ordL R.length (stageF (rankF R) R.length)).length = R.length := by simp [ordL]
  have e3 := hb.l8
  have e4 := write_lead R m (ordL R.length (stageF (rankF R) R.length))
  refine ⟨e4.2, by omega, fun s hs => ?_, leads_of e4.1⟩
  have := write_st hR m _ s hs
  unfold grownT
  dsimp only
  rw [List.length_map]
  exact this
 ·unfold grownT
  dsimp only
  rw [List.length_map]
  exact grown_lows hb
theorem nameW_len {s : ByteArray} (h : nameB s = true) : (nameW s).length <= 9 := by
 have := nameB_size h
 unfold nameW
 rw [List.length_append, numW_len]
 simp
 omega
theorem body_len {t : TrD} (h : t.Wr) (hs : ∀ l, l ∈ t.prs -> l.length <= 33) (hw : t.root.wr.length <= 1111) : (bodyW t).length <= 100000 := by
 have e1 := flat_len (W := routeW) (B := 17) t.rts (fun r hr => by have := nameW_len (h.rt r hr).1; unfold routeW; simp only [List.length_append, numW_len]; omega)
 have e2 := flat_len (W := nameW) (B := 9) t.nms (fun s hs => nameW_len (h.nm s hs))
 have e3 := flat_len (W := progW) (B := 364) t.prs (fun l hl => by
  have := flat_len (W := stepW) (B := 11) l (fun s hs => stepW_len ((h.pr l hl).2.2.1 s hs))
  have := hs l hl
  unfold progW
  rw [List.length_append, numW_len]
  omega)
 have := h.r6
 have := h.n8
 have := h.pl
 unfold bodyW
 simp only [List.length_append, numW_len]
 omega
def rawT (l : List Int) (m : Nat) : TrD := grownT rts3 (rsM l 0 m)
theorem rsM_mem {l : List Int} : ∀ {k i : Nat} {r : RuleM}, r ∈ rsM l i k -> ∃ j c, i <= j /\ j < i + k /\ r = rlM j c
 | 0, _, _, h => by cases h
 | k + 1, i, r, h => by
  rcases List.mem_cons.1 h with rfl | h
  ·exact ⟨i, _, Nat.le_refl _, by omega, rfl⟩
  ·obtain ⟨j, c, h1, h2, h3⟩ := rsM_mem h
   exact ⟨j, c, by omega, by omega, h3⟩
theorem rs_names (l : List Int) : ∀ (k i : Nat), (rsM l i k).map RuleM.name = (List.range' i k).map fun j => bs (rN j)
 | 0, _ => rfl
 | k + 1, i => by
  rw [rsM, List.map_cons, rs_names l k (i + 1), List.range'_succ, List.map_cons]
  rfl
theorem nameB_of {w : List UInt8} (h : NmL w) : nameB (bs w) = true := by
 obtain ⟨⟨c, v, e, h1⟩, h2, h3, h4⟩ := h
 unfold nameB isKwB
 rw [bs_toList, h3, bs_size]
 simp only [Bool.and_eq_true, decide_eq_true_eq, Bool.not_false, List.all_eq_true, true_and]
 refine ⟨by rw [e]; simp, h4, ?_, h2⟩
 rw [e]
 exact h1
theorem idxS_at {s : ByteArray} : ∀ (l : List ByteArray) (i k : Nat), l[k]? = some s -> (∀ j x, j < k -> l[j]? = some x -> (s.toList == x.toList) = false) -> idxS s i l = ((i + k : Nat) : Int)
 | [], _, _, h, _ => by simp at h
 | x :: r, i, 0, h, _ => by
  simp at h
  subst h
  simp [idxS]
 | x :: r, i, k + 1, h, hn => by
  rw [idxS, if_neg (by rw [hn 0 x (by omega) rfl]; simp), idxS_at r (i + 1) k (by simpa using h) (fun j y hj hy => hn (j + 1) y (by omega) (by simpa using hy))]
  congr 1
  omega
theorem differB_of {l : List ByteArray} (h : ∀ (i j : Nat) (a b : ByteArray), l[i]? = some a -> l[j]? = some b -> j < i -> (a.toList == b.toList) = false) : differB l = true := by
 unfold differB
 rw [List.all_eq_true]
 intro k _
 cases hk : l[k]? with
 | none => rfl
 | some s =>
  dsimp only
  rw [idxS_at l 0 k hk (fun j x hj hx => h k j s x hk hx hj)]
  simp
theorem rs_differ (m : Nat) : differB ((List.range' 0 m).map fun j => bs (rN j)) = true := by
 refine differB_of fun i j a b hi hj hlt => ?_
 obtain ⟨x, hx, rfl⟩ := Option.map_eq_some_iff.1 ((List.getElem?_map ..).symm.trans hi)
 obtain ⟨y, hy, rfl⟩ := Option.map_eq_some_iff.1 ((List.getElem?_map ..).symm.trans hj)
 have h1 := (List.getElem?_eq_some_iff.1 hx).2
 have h2 := (List.getElem?_eq_some_iff.1 hy).2
 simp at h1 h2
 exact rN_ne (by omega)
theorem rl_ruw (i : Nat) (c : Int) (n : Nat) (h : RlOk n (rlM i c)) : RuJ 3 (rlM i c) /\ (rlM i c).digits <= 3 := by
 have hf := rlX_fit i c
 have hk := rlK_lt c
 refine ⟨⟨?_, fun x hx => ?_, ?_, fun x hx => ?_, fun ab hab => ⟨?_, Nat.le_of_lt (h.am ab hab).2⟩, ?_, ?_⟩, ?_⟩
 ·show ((rlX i c).mcc.map numOf).length <= 4
  rw [List.length_map]; exact hf.mcc.1
 ·obtain ⟨w, hw, rfl⟩ := List.mem_map.1 (show x ∈ (rlX i c).mcc.map numOf from hx)
  exact hf.mcc.2 w hw
 ·show ((rlX i c).cur.map numOf).length <= 4
  rw [List.length_map]; exact hf.cur.1
 ·obtain ⟨w, hw, rfl⟩ := List.mem_map.1 (show x ∈ (rlX i c).cur.map numOf from hx)
  exact hf.cur.2 w hw
 ·obtain ⟨cd, h1, rfl⟩ := Option.map_eq_some_iff.1 (show (rlX i c).am.map (fun ab => (numOf ab.1, numOf ab.2)) = some ab from hab)
  exact hf.am cd h1
 ·show actD (rlK c) = true \/ 1 <= (actP (rlK c)).length /\ (actP (rlK c)).length <= 4
  have : rlK c = 0 \/ rlK c = 1 \/ rlK c = 2 \/ rlK c = 3 \/ rlK c = 4 \/ rlK c = 5 := by omega
  rcases this with e | e | e | e | e | e <;> rw [e] <;> decide
 ·show ∀ x, x ∈ actP (rlK c) -> x < 3
  have : rlK c = 0 \/ rlK c = 1 \/ rlK c = 2 \/ rlK c = 3 \/ rlK c = 4 \/ rlK c = 5 := by omega
  rcases this with e | e | e | e | e | e <;> rw [e] <;> decide
 ·have e : (digL (gf c) (gw c)).length = gw c := digL_len (gw c) (gf c) (gf_lt c)
  show (digL (gf c) (gw c)).length <= 3
  rw [e]
  exact (gw_in c).2
theorem raw_wr (l : List Int) (m : Nat) (hm : m <= 8) : (rawT l m).Wr /\ (bodyW (rawT l m)).length <= 100000 := by
 have hb : BookOk rts3 (rsM l 0 m) := readM_book (base_read l m hm)
 have hw : (rawT l m).Wr := by
  refine grown_wr hb (fun r hr => ?_) (fun r hr => ?_) (fun r hr => ?_) ?_
  ·obtain ⟨j, c, _, _, rfl⟩ := rsM_mem hr
   exact (rl_ruw j c _ (hb.rl _ hr)).1
  ·simp [rts3] at hr
   rcases hr with rfl | rfl | rfl <;> exact ⟨nameB_of (nmL_of rfl (by decide) (by decide) (by decide) (by decide)), by decide, by decide⟩
  ·obtain ⟨j, c, _, h2, rfl⟩ := rsM_mem hr
   exact nameB_of (rN_NmL (by omega))
  ·rw [rs_names, rs_differ m, Bool.and_true]
   simp [differB, rts3, idxS, List.range, List.range.loop]
 refine ⟨hw, body_len hw (fun p hp => ?_) ?_⟩
 ·obtain ⟨x, hx, rfl⟩ := List.mem_map.1 hp
  have e1 := writeM_len (rsM l 0 m) x (ordL (rsM l 0 m).length (stageF (rankF (rsM l 0 m)) (rsM l 0 m).length))
  have e2 : (ordL (rsM l 0 m).length (stageF (rankF (rsM l 0 m)) (rsM l 0 m).length)).length = (rsM l 0 m).length := by simp [ordL]
  have e3 := rsM_len l m 0
  omega
 ·exact grow_wr (R := rsM l 0 m) (fun r hr => ⟨(hb.rl r hr).bn.1, (hb.rl r hr).bn.2.1⟩) (fun r hr => by
   obtain ⟨j, c, _, _, rfl⟩ := rsM_mem hr
   exact (rl_ruw j c _ (hb.rl _ hr)).2) 7 ⟨0, 0⟩ 0 (2 ^ (rsM l 0 m).length - 1) [] (by simp) (by simp)
end Go.Proofs.YtccikgogjfbpeabGreatDoor
