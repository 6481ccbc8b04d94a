/- The tree: sets, parts: small functions. The tree: the parts of a range, one behind the other (a function over yield). The tree: of how many of a part's cards a rule is. -/
import Derived.Test.YtccikgogjfbpeabGreatDoorWHa
import Derived.Test.YtccikgogjfbpeabGreatDoorWZa
import Derived.Test.YtccikgogjfbpeabGreatDoorWQi
import Derived.Laws.Bits64b
import Derived.RangeFuncNested
import Derived.RangeFuncBound
import Derived.RangeFuncCalls
import Derived.RangeFuncLeaves
import Derived.Shelf.Abstract
import Derived.Shelf.RegionOpen
import Derived.OwnWalkIn
import Derived.TacticsInMore
import Derived.LoopNIn
import Derived.LoopIn
namespace Go.Proofs.YtccikgogjfbpeabGreatDoor
open Go.RowKit
theorem ret_bool {a b : Bool} (h : a = b) : Ending.returned (.bool a) = .returned (.bool b) := by rw [h]
theorem has_eq (s i : Nat) (hs : s < 256) : (bits BinOp.and IntKind.u64 ((s : Int) / 2 ^ i) 1 != 0) = s.testBit i := by
 have e : ((s : Int) / 2 ^ i) = ((s / 2 ^ i : Nat) : Int) := by simp
 have hle : s / 2 ^ i <= s := Nat.div_le_self _ _
 have h1 := bits_and_u64_nat (s / 2 ^ i) 1 (by omega) (by omega)
 rw [e]
 rw [show ((1 : Nat) : Int) = (1 : Int) from rfl] at h1
 rw [h1]
 unfold Nat.testBit
 rw [Nat.shiftRight_eq_div_pow, Nat.and_comm]
 have : ∀ n : Nat, ((n : Int) != 0) = (n != 0) := fun n => by cases n <;> rfl
 exact this _
theorem with_eq (s i : Nat) (hs : s < 256) (hi : i < 8) : bits BinOp.or IntKind.u64 (s : Int) (IntKind.u64.wrap (2 ^ i)) = ((s ||| 1 <<< i : Nat) : Int) := by
 have hp : 2 ^ i < 256 := by
  have := Nat.pow_lt_pow_right (a := 2) (by omega) hi
  simpa using this
 have e : IntKind.u64.wrap (2 ^ i) = ((2 ^ i : Nat) : Int) := by
  rw [show ((2 : Int) ^ i) = ((2 ^ i : Nat) : Int) from by simp]
  generalize 2 ^ i = y at hp
  exact IntWalk.u64_in _ (by omega)
 rw [e, bits_or_u64_nat s (2 ^ i) (by omega) (by omega), Nat.shiftLeft_eq, Nat.one_mul]
theorem or_lt (s i : Nat) (hs : s < 256) (hi : i < 8) : s ||| 1 <<< i < 256 := by
 have hp : 1 <<< i < 2 ^ 8 := by
  rw [Nat.shiftLeft_eq, Nat.one_mul]
  exact Nat.pow_lt_pow_right (a := 2) (by omega) hi
 exact Nat.or_lt_two_pow (n := 8) (by omega) hp
set_option maxRecDepth 30000 in
set_option maxHeartbeats 400000 in
theorem has_any (s i : Nat) (w : World) (hs : s < 256) (hi : i < 8) :
  Calls Tryz.prog 102 #[.int .u64 s, .int .i64 i] w fun e w' => e = .returned (.bool (s.testBit i)) /\ w' = w := by
 have hi0 : (0 : Int) <= (i : Int) := by omega
 have hs0 : (0 : Int) <= (s : Int) := by omega
 have hs1 : (s : Int) < 256 := by omega
 go_enter Tryz.func102, Tryz.ntmps102
 go_wp2
 go_ret
 exact ⟨ret_bool (has_eq s i hs), rfl⟩
set_option maxRecDepth 30000 in
set_option maxHeartbeats 400000 in
theorem with_any (s i : Nat) (w : World) (hs : s < 256) (hi : i < 8) :
  Calls Tryz.prog 104 #[.int .u64 s, .int .i64 i] w fun e w' => e = .returned (.int .u64 (s ||| 1 <<< i : Nat)) /\ w' = w := by
 have hi0 : (0 : Int) <= (i : Int) := by omega
 have hs0 : (0 : Int) <= (s : Int) := by omega
 have hs1 : (s : Int) < 256 := by omega
 go_enter Tryz.func104, Tryz.ntmps104
 go_wp2
 go_ret
 exact ⟨ret_int (with_eq s i hs hi), rfl⟩
def PQ (w : World) (b pd px a x : Nat) : Prop :=
 w.cell? ⟨b, 0, none⟩ = some (.int .i64 pd) /\ w.cell? ⟨b, 1, none⟩ = some (.int .i64 px) /\ w.cell? ⟨b + 1, 0, none⟩ = some (.int .i64 a) /\ w.cell? ⟨b + 1, 1, none⟩ = some (.int .i64 x) /\ ∀ o, w.frozen? ⟨b + 1, o, none⟩ = false
theorem PQ.less {w : World} {b pd px a x : Nat} (h : PQ w b pd px a x) (ha : 0 < a) : PQ ((w.setCell ⟨b + 1, 0, none⟩ (.int .i64 ((a : Int) - 1))).setCell ⟨b + 1, 1, none⟩ (.int .i64 ((x : Int) / 10))) b pd px (a - 1) (x / 10) := by
 obtain ⟨h0, h1, h2, h3, h4⟩ := h
 refine ⟨?_, ?_, ?_, ?_, fun o => by simp [h4 o]⟩
 ·rw [World.cell?_setCell_other _ _ _ _ (by simp), World.cell?_setCell_other _ _ _ _ (by simp)]; exact h0
 ·rw [World.cell?_setCell_other _ _ _ _ (by simp), World.cell?_setCell_other _ _ _ _ (by simp)]; exact h1
 ·rw [World.cell?_setCell_other _ _ _ _ (by simp), World.cell?_setCell_same _ _ _ h2, show ((a - 1 : Nat) : Int) = (a : Int) - 1 from by omega]
 ·rw [World.cell?_setCell_same _ _ _ (by rw [World.cell?_setCell_other _ _ _ _ (by simp)]; exact h3), show ((x / 10 : Nat) : Int) = (x : Int) / 10 from by omega]
def partV (p : Part) : Value := .agg #[.int .i64 p.d, .int .i64 p.x]
set_option maxRecDepth 30000 in
set_option maxHeartbeats 400000 in
theorem longer_any (p : Part) (k : Nat) (w : World) (hd : p.d <= 6) (hx : p.x <= 1000000) (hk : k < 10) :
  Calls Tryz.prog 106 #[partV p, .int .i64 k] w fun e w' => e = .returned (partV (p.longer k)) /\ Below w.heap.size w w' := by
 unfold partV Part.longer
 obtain ⟨d, x⟩ := p
 simp only at *
 go_enter Tryz.func106, Tryz.ntmps106
 go_wp2
 refine bodyPost_ret (v := .agg #[.int .i64 ((d : Int) + 1), .int .i64 ((x : Int) * 10 + (k : Int))]) (by simp [results, Tryz.results106, go_sem]) rfl ⟨by go_num, ?_⟩
 exact ((Below.refl _ _).alloc (Nat.le_refl _) _).alloc (by simp) _
set_option maxRecDepth 30000 in
set_option maxHeartbeats 1000000 in
theorem holds_any (p q : Part) (w : World) (hp : p.d <= 6) (hq : q.d <= 6) (hx : q.x <= 1000000) (hy : p.x <= 1000000) :
  Calls Tryz.prog 137 #[partV p, partV q] w fun e w' => e = .returned (.bool (p.holds q)) /\ Below w.heap.size w w' := by
 unfold partV
 obtain ⟨pd, px⟩ := p
 obtain ⟨qd, qx⟩ := q
 simp only at *
 go_enter Tryz.func137, Tryz.ntmps137
 go_wp2_with fail
 have hf0 : F0 w ((w.alloc (.cells #[.int .i64 pd, .int .i64 px] 131)).alloc (.cells #[.int .i64 qd, .int .i64 qx] 131)) := ((Fr.refl _ _).alloc _).alloc _
 have hp0 : ((w.alloc (.cells #[.int .i64 pd, .int .i64 px] 131)).alloc (.cells #[.int .i64 qd, .int .i64 qx] 131)).heap[w.heap.size]? = some (.cells #[.int .i64 pd, .int .i64 px] 131) := ((Fr.refl (fun _ => False) _).alloc _).whole (heap_alloc_new w _) (by simp)
 have hq0 : ((w.alloc (.cells #[.int .i64 pd, .int .i64 px] 131)).alloc (.cells #[.int .i64 qd, .int .i64 qx] 131)).heap[w.heap.size + 1]? = some (.cells #[.int .i64 qd, .int .i64 qx] 131) := by have := heap_alloc_new (w.alloc (.cells #[.int .i64 pd, .int .i64 px] 131)) (.cells #[.int .i64 qd, .int .i64 qx] 131); simpa using this
 generalize (w.alloc (.cells #[.int .i64 pd, .int .i64 px] 131)).alloc (.cells #[.int .i64 qd, .int .i64 qx] 131) = W at *
 obtain ⟨b, hb⟩ : ∃ b, w.heap.size = b := ⟨_, rfl⟩
 rw [hb] at hp0 hq0 ⊢
 have HB := hid hb
 have HF : Hid (Fr (fun k => b <= k) w W) := hf0.mono (by simp)
 have HP : Hid (PQ W b pd px qd qx) := ⟨block_cell hp0 0 _ rfl, block_cell hp0 1 _ rfl, block_cell hq0 0 _ rfl, block_cell hq0 1 _ rfl, fun o => block_frozen hq0 o⟩
 clear hf0 hp0 hq0 hb
 go_loopg [] 7 (fun m wr => ∃ j, j <= qd /\ (j = 0 \/ pd <= qd - j) /\ j + m = 7 /\ Hid (Fr (fun k => b <= k) w wr) /\ Hid (PQ wr b pd px (qd - j) (qx / 10 ^ j)))
 case atStart => exact ⟨0, Nat.zero_le _, Or.inl rfl, rfl, HF, by have := HP.o; show PQ _ _ _ _ _ _; simpa using this⟩
 case round =>
  obtain ⟨j, hj, hor, hm, HFr, HPr⟩ := hrel
  obtain ⟨a, ha⟩ : ∃ a, qd - j = a := ⟨_, rfl⟩
  obtain ⟨x, hx'⟩ : ∃ x, qx / 10 ^ j = x := ⟨_, rfl⟩
  have hxb : x <= 1000000 := by rw [<- hx']; exact Nat.le_trans (Nat.div_le_self _ _) hx
  have HX := hid hx'
  have HAj := hid ha
  rw [ha, hx'] at HPr
  have ha6 : a <= 6 := by omega
  obtain ⟨c0, c1, d0, d1, fz⟩ := HPr.o
  clear ha hx'
  by_cases hlt : pd < a
  ·have hlt' : (pd : Int) < (a : Int) := by omega
   have HN := HPr.o.less (by omega)
   have HN' := hid HN
   clear HN
   go_wp2
   go_roundg (7 - (j + 1))
   case measure => omega
   case rel =>
    refine ⟨j + 1, by have := HAj.o; omega, Or.inr (by have := HAj.o; omega), by omega, (HFr.o.setCell (p := ⟨b + 1, 0, none⟩) (Or.inl (by show b <= b + 1; omega)) _).setCell (p := ⟨b + 1, 1, none⟩) (Or.inl (by show b <= b + 1; omega)) _, ?_⟩
    have e1 : qd - (j + 1) = a - 1 := by have := HAj.o; omega
    have e2 : qx / 10 ^ (j + 1) = x / 10 := by rw [<- HX.o, div_pow_add, Nat.pow_one]
    rw [e1, e2]
    exact HN'
  ·have hlt' : ¬ (pd : Int) < (a : Int) := by omega
   have HE : Hid (Part.holds ⟨pd, px⟩ ⟨qd, qx⟩ = (decide (a = pd) && decide (x = px))) := by
    show _ = _
    unfold Part.holds
    simp only
    rcases Nat.lt_or_ge qd pd with h1 | h1
    ·rw [decide_eq_false (by omega : ¬ pd <= qd), decide_eq_false (by have := HAj.o; omega : ¬ a = pd)]
     simp
    ·have e : a = pd := by have := HAj.o; omega
     rw [decide_eq_true h1, decide_eq_true e, <- HX.o, show j = qd - pd from by have := HAj.o; omega]
     by_cases h : qx / 10 ^ (qd - pd) = px <;> simp [h]
   have HBl := hid (HFr.o.below (Nat.le_refl _) (fun k hk => by have := HB.o; omega))
   by_cases e1 : a = pd
   ·subst e1
    by_cases e2 : x = px
    ·subst e2
     go_wp2_with fail
     go_ret
     exact ⟨ret_bool (by rw [HE.o]; simp), HBl.o⟩
    ·have ex : ((x : Int) == (px : Int)) = false := by simp; omega
     go_wp2_with fail
     go_ret
     exact ⟨ret_bool (by rw [HE.o]; simp [e2]), HBl.o⟩
   ·have ea : ((a : Int) == (pd : Int)) = false := by simp; omega
    go_wp2_with fail
    go_ret
    exact ⟨ret_bool (by rw [HE.o]; simp [e1]), HBl.o⟩
end Go.Proofs.YtccikgogjfbpeabGreatDoor

namespace Go.Proofs.YtccikgogjfbpeabGreatDoor
open Go.RowKit Go.Shelf
attribute [local go_sem] Oper.semAt_some
theorem grownBy_alloc (w : World) (o : Obj) : w.grownBy (w.alloc o) none := by
 have f := (Fr.refl (fun _ => False) w).alloc o
 exact ⟨f.os, f.tape, f.output, f.size, fun k hk _ => f.block k hk (by simp)⟩
abbrev PartB := { p : Part // p.d <= 6 /\ p.x <= 1000000 }
set_option maxRecDepth 30000 in
set_option maxHeartbeats 400000 in
theorem parts_any (D lo hi : Nat) (w : World) :
  Calls Tryz.prog 136 #[.int .i64 D, .agg #[.int .i64 lo, .int .i64 hi]] w fun e w' => e = .returned (.func (.func 175) #[] #[.pointer (some ⟨w.heap.size + 1, 0, none⟩), .pointer (some ⟨w.heap.size, 0, none⟩)]) /\ w' = (w.alloc (.cells #[.int .i64 D] 3)).alloc (.cells #[.int .i64 lo, .int .i64 hi] 106) := by
 have hmf : ∀ (fn : Fn) (first cap : Array Value) (w : World), (Instr.makeFunc fn first cap).run Tryz.prog w = .ok (.func fn first cap) w := fun _ _ _ _ => rfl
 go_enter Tryz.func136, Tryz.ntmps136
 go_wp2
 go_ret
 exact ⟨rfl, rfl⟩
set_option maxRecDepth 100000 in
set_option maxHeartbeats 4000000 in
theorem partsD_in (n l Bs Bd n₀ D lo hi : Nat) (xs : List PartB) (hD : D <= 6) (hlo : lo <= 1000000) (hhi : hi < 10 ^ D) (hxs : xs.map Subtype.val = partsM D lo hi) (J Jx : List PartB -> World -> Prop) (W : World) (hJ : AbidesFrom W.heap.size J)
    (hY : ∀ pre x W1, J pre W1 -> pre.length < xs.length -> YieldAt Fence.wide (n - 1) Tryz.prog l #[partV x.1] W1 fun e W' =>
      (e = .returned (.bool true) /\ J (pre ++ [x]) W' /\ Below n₀ W1 W') \/ (e = .returned (.bool false) /\ Jx (pre ++ [x]) W'))
    (hn₀ : n₀ <= W.heap.size) (hBs : Bs < n₀) (hBd : Bd < n₀) (h0 : W.cell? ⟨Bs, 0, none⟩ = some (.int .i64 lo)) (h1 : W.cell? ⟨Bs, 1, none⟩ = some (.int .i64 hi)) (h2 : W.cell? ⟨Bd, 0, none⟩ = some (.int .i64 D)) (hj : J [] W) :
    CallsIn Fence.wide n Tryz.prog 175 #[.func (.yield l) #[] #[], .pointer (some ⟨Bs, 0, none⟩), .pointer (some ⟨Bd, 0, none⟩)] W fun e W' => (∃ v, e = .returned v) /\
      ((∃ ys, ys = xs /\ J ys W') \/ (∃ pre, pre <+: xs /\ Jx pre W')) := by
  refine callsIn_wide.2 ?_
  go_enter Tryz.func175, Tryz.ntmps175
  have HJ : Hid (AbidesFrom W.heap.size J) := hJ
  have HY : Hid (∀ pre x W1, J pre W1 -> pre.length < xs.length -> YieldAt Fence.wide (n - 1) Tryz.prog l #[partV x.1] W1 fun e W' =>
      (e = .returned (.bool true) /\ J (pre ++ [x]) W' /\ Below n₀ W1 W') \/ (e = .returned (.bool false) /\ Jx (pre ++ [x]) W')) := hY
  have HXS : Hid (xs.map Subtype.val = partsM D lo hi) := hxs
  have HC : Hid (W.cell? ⟨Bs, 1, none⟩ = some (.int .i64 hi) /\ W.cell? ⟨Bd, 0, none⟩ = some (.int .i64 D)) := ⟨h1, h2⟩
  have HHI : Hid (hi < 10 ^ D) := hhi
  have hhm : hi < 1000000 := Nat.lt_of_lt_of_le hhi (Nat.pow_le_pow_right (n := 10) (by omega) hD)
  clear hJ hY hxs hhi
  go_wp2_with fail
  clear h0 h1 h2
  go_loopg [4] (hi + 1 - lo) (fun m lw wr => ∃ (pre rest : List PartB) (low : Nat), lw = .int .i64 (low : Nat) /\ low <= 1000000 /\ hi + 1 - low <= m /\ Hid (xs = pre ++ rest) /\ Hid (rest.map Subtype.val = partsFrom D hi m low) /\ Hid (J pre wr) /\ Hid (Below n₀ W wr) /\ Hid (W.heap.size <= wr.heap.size))
  case atStart => exact ⟨[], xs, lo, rfl, hlo, by omega, rfl, HXS, hj, Below.refl _ _, Nat.le_refl _⟩
  case round =>
    obtain ⟨pre, rest, low, rfl, hlow, hm, HX, HR, HJp, HB, HSz⟩ := hrel
    obtain ⟨M, hM⟩ : ∃ M, M = gk := ⟨_, rfl⟩
    subst hM
    have c1 : wr.cell? ⟨Bs, 1, none⟩ = some (.int .i64 hi) := (HB.o.cell (p := ⟨Bs, 1, none⟩) hBs).trans HC.o.1
    have c2 : wr.cell? ⟨Bd, 0, none⟩ = some (.int .i64 D) := (HB.o.cell (p := ⟨Bd, 0, none⟩) hBd).trans HC.o.2
    by_cases hle : low <= hi
    · have hle' : (low : Int) <= (hi : Int) := by omega
      have c3 : (wr.alloc (.cells #[.int .i64 0, .int .i64 0] 131)).cell? ⟨Bd, 0, none⟩ = some (.int .i64 D) := by rw [World.cell?_alloc_some _ _ _ (by simp [c2])]; exact c2
      go_wp2_with fail
      go_region
      have HJ1 : Hid (J pre wr.drew) := HJ.o pre wr wr.drew none HJp.o ⟨rfl, rfl, rfl, Nat.le_refl _, fun _ _ _ => rfl⟩ (fun _ e => by cases e)
      have HB1 : Hid (Below n₀ W wr.drew) := HB.o.drew
      have HS1 : Hid (W.heap.size <= wr.drew.heap.size) := HSz.o
      have hcomm : (wr.alloc (.cells #[.int .i64 D, .int .i64 low] 131)).drew = wr.drew.alloc (.cells #[.int .i64 D, .int .i64 low] 131) := rfl
      rw [hcomm]
      obtain ⟨P, hP⟩ : ∃ P, wr.heap.size = P := ⟨_, rfl⟩
      have HP1 : Hid (wr.drew.heap.size = P) := hP
      rw [hP]
      generalize wr.drew = Wd at *
      clear hcomm hP c1 c2 c3
      go_wp2_with fail
      go_loopg [5] 9 (fun m sz wq => ∃ (k : Nat) (Wj : World), k + m = 9 /\ sz = .int .i64 ((10 ^ k : Nat) : Int) /\ Hid (climb low hi m k = topK low hi) /\ Hid (Fit low hi k) /\ Hid (J pre Wj) /\ Hid (Below n₀ W Wj) /\ Hid (W.heap.size <= Wj.heap.size) /\ Hid (Wj.heap.size = P) /\ Hid (wq = Wj.alloc (.cells #[.int .i64 ((D - k : Nat) : Int), .int .i64 ((low / 10 ^ k : Nat) : Int)] 131)))
      case atStart => exact ⟨0, Wd, rfl, rfl, rfl, ⟨by simp, by simp; omega⟩, HJ1, HB1, HS1, HP1, by show _ = _; simp⟩
      case round =>
        obtain ⟨k, Wj, hkm, rfl, HCl, HFi, HJj, HBj, HSj, HPj, HWq⟩ := hrel
        have eW := HWq.o
        subst eW
        have eP := HPj.o
        subst eP
        have hk6 : k <= 6 := pow_le_inv (by have := HFi.o.2; show 10 ^ k <= 1000000; omega)
        have hkD : k <= D := pow_le_inv (by have := HFi.o.2; have := HHI.o; omega)
        obtain ⟨y, hy⟩ : ∃ y, 10 ^ k = y := ⟨_, rfl⟩
        obtain ⟨z, hz⟩ : ∃ z, low / 10 ^ k = z := ⟨_, rfl⟩
        obtain ⟨a, ha⟩ : ∃ a, D - k = a := ⟨_, rfl⟩
        have HYe := hid hy
        have HZe := hid hz
        have HAe := hid ha
        have hy6 : y <= 1000000 := by have := HFi.o.2; omega
        have hz6 : z <= 1000000 := by rw [<- hz]; exact Nat.le_trans (Nat.div_le_self _ _) hlow
        have ha6 : a <= 6 := by omega
        rw [hz, ha]
        rw [hy]
        clear hy hz ha
        have c1 : (Wj.alloc (.cells #[.int .i64 a, .int .i64 z] 131)).cell? ⟨Bs, 1, none⟩ = some (.int .i64 hi) := ((HBj.o.cell (p := ⟨Bs, 1, none⟩) hBs).trans HC.o.1) ▸ (World.cell?_alloc_some _ _ _ (by rw [(HBj.o.cell (p := ⟨Bs, 1, none⟩) hBs), HC.o.1]; simp))
        by_cases hc : z % 10 = 0 /\ low + y * 10 <= hi + 1
        · have hz0 : ((z : Int) % 10 == 0) = true := by simp; omega
          have hle2 : (low : Int) + (y : Int) * 10 - 1 <= (hi : Int) := by omega
          have HJ2 := hid (HJ.o pre Wj Wj.drew none HJj.o ⟨rfl, rfl, rfl, Nat.le_refl _, fun _ _ _ => rfl⟩ (fun _ e => by cases e))
          have hk1 : 1 <= a := by
            have h1 := HFi.o.2
            have h2 : 10 ^ (k + 1) <= 10 ^ D := by rw [Nat.pow_succ, HYe.o]; have := HHI.o; omega
            have := pow_le_inv h2
            have := HAe.o
            omega
          go_wp2_with fail
          go_region
          go_wp2_with fail
          go_roundg (8 - k)
          case measure => omega
          case rel =>
            refine ⟨k + 1, Wj.drew, by omega, ?_, ?_, ?_, HJ2, HBj.o.drew, HSj, rfl, ?_⟩
            · rw [Nat.pow_succ, HYe.o]; go_num
            · have e := HCl.o
              obtain ⟨g1, hg1⟩ : ∃ g1, gk = g1 + 1 := ⟨8 - k, by omega⟩
              rw [hg1] at e
              unfold climb at e
              rw [if_pos ⟨by rw [HZe.o]; exact hc.1, by rw [Nat.pow_succ, HYe.o]; exact hc.2⟩] at e
              show _ = _
              rw [show 8 - k = g1 from by omega]
              exact e
            · exact fit_succ HFi.o (by rw [HZe.o]; exact hc.1) (by rw [Nat.pow_succ, HYe.o]; exact hc.2)
            · have e1 : ((D - (k + 1) : Nat) : Int) = (a : Int) - 1 := by have := HAe.o; omega
              have e2 : ((low / 10 ^ (k + 1) : Nat) : Int) = (z : Int) / 10 := by rw [div_pow_add, HZe.o, Nat.pow_one]; omega
              show _ = _
              rw [e1, e2]
              rfl
        · have HK : Hid (topK low hi = k) := by
            have e := HCl.o
            show _ = _
            rw [<- e]
            cases gk with
            | zero => rfl
            | succ g1 => unfold climb; rw [if_neg (by rw [HZe.o, Nat.pow_succ, HYe.o]; exact hc)]
          obtain ⟨x, rest', HR2, hx, HRr⟩ : ∃ (x : PartB) (rest' : List PartB), Hid (rest = x :: rest') /\ x.1 = ⟨a, z⟩ /\ Hid (rest'.map Subtype.val = partsFrom D hi (M - 1) (low + y)) := by
            have e := HR.o
            obtain ⟨M', hM'⟩ : ∃ M', M = M' + 1 := ⟨M - 1, by omega⟩
            rw [hM'] at e
            unfold partsFrom at e
            rw [if_pos hle, HK.o, HZe.o, HYe.o, HAe.o] at e
            cases rest with
            | nil => simp at e
            | cons x r =>
              simp only [List.map_cons, List.cons.injEq] at e
              exact ⟨x, r, rfl, e.1, by rw [hM', Nat.add_sub_cancel]; exact e.2⟩
          have HJ2 : Hid (J pre (Wj.alloc (.cells #[.int .i64 a, .int .i64 z] 131))) := HJ.o pre Wj _ none HJj.o (grownBy_alloc Wj _) (fun _ e => by cases e)
          obtain ⟨fn, tmps, assign, body, hyd, hR⟩ := HY.o pre x _ HJ2.o (by rw [HX.o, HR2.o]; simp)
          rw [hx] at hyd
          unfold partV at hyd
          simp only at hyd
          have HRd := hid hR
          clear hR
          by_cases hz0 : z % 10 = 0
          · have hz1 : ((z : Int) % 10 == 0) = true := by simp; omega
            have hle2 : ¬ (low : Int) + (y : Int) * 10 - 1 <= (hi : Int) := by omega
            clear hc hz0
            go_upto_region 5 with fail
            refine (wpIn_wide (n := n)).1 ?_
            gi_wp2
            refine ⟨fun h => (by cases h), HRd.o.mono ?_⟩
            rintro e W3 (⟨rfl, hJ3, hk3⟩ | ⟨rfl, hJx3⟩)
            · have HJ3 := hid hJ3
              have HB3 := hid ((HBj.o.alloc (Nat.le_trans hn₀ HSj.o) _).trans hk3)
              have HS3 := hid (Nat.le_trans HSj.o (Nat.le_trans (by simp) hk3.size))
              clear hJ3 hk3 hyd HRd c1
              gi_wp2
              go_wp2_with fail
              go_roundg (M - 1)
              case measure => omega
              case rel => exact ⟨pre ++ [x], rest', low + y, by go_num, by have := HFi.o.2; have := HYe.o; omega, by have : 0 < y := by { have := HYe.o; have : 0 < 10 ^ k := Nat.pow_pos (by omega); omega }; omega, by show _ = _; rw [HX.o, HR2.o]; simp, HRr, HJ3, HB3, HS3⟩
            · have HX3 := hid hJx3
              clear hJx3 hyd HRd c1
              gi_wp2
              go_wp2_with fail
              refine bodyPost_ret (results_none rfl _ _ _) rfl ?_
              exact ⟨⟨_, rfl⟩, .inr ⟨pre ++ [x], ⟨rest', by rw [HX.o, HR2.o]; simp⟩, HX3.o⟩⟩
          · have hz1 : ((z : Int) % 10 == 0) = false := by simp; omega
            clear hc hz0
            go_upto_region 5 with fail
            refine (wpIn_wide (n := n)).1 ?_
            gi_wp2
            refine ⟨fun h => (by cases h), HRd.o.mono ?_⟩
            rintro e W3 (⟨rfl, hJ3, hk3⟩ | ⟨rfl, hJx3⟩)
            · have HJ3 := hid hJ3
              have HB3 := hid ((HBj.o.alloc (Nat.le_trans hn₀ HSj.o) _).trans hk3)
              have HS3 := hid (Nat.le_trans HSj.o (Nat.le_trans (by simp) hk3.size))
              clear hJ3 hk3 hyd HRd c1
              gi_wp2
              go_wp2_with fail
              go_roundg (M - 1)
              case measure => omega
              case rel => exact ⟨pre ++ [x], rest', low + y, by go_num, by have := HFi.o.2; have := HYe.o; omega, by have : 0 < y := by { have := HYe.o; have : 0 < 10 ^ k := Nat.pow_pos (by omega); omega }; omega, by show _ = _; rw [HX.o, HR2.o]; simp, HRr, HJ3, HB3, HS3⟩
            · have HX3 := hid hJx3
              clear hJx3 hyd HRd c1
              gi_wp2
              go_wp2_with fail
              refine bodyPost_ret (results_none rfl _ _ _) rfl ?_
              exact ⟨⟨_, rfl⟩, .inr ⟨pre ++ [x], ⟨rest', by rw [HX.o, HR2.o]; simp⟩, HX3.o⟩⟩
    · have hle' : ¬ (low : Int) <= (hi : Int) := by omega
      have HXe : Hid (pre = xs) := by
        have e := HR.o
        have e2 : partsFrom D hi M low = [] := by cases M with
          | zero => rfl
          | succ M' => unfold partsFrom; rw [if_neg hle]
        rw [e2] at e
        have : rest = [] := List.map_eq_nil_iff.1 e
        show _ = _
        rw [HX.o, this]
        simp
      go_wp2_with fail
      go_end0
      have hj' := HJp.o
      rw [HXe.o] at hj'
      exact ⟨⟨_, rfl⟩, .inl (by first | exact hj' | exact ⟨xs, rfl, hj'⟩)⟩
end Go.Proofs.YtccikgogjfbpeabGreatDoor

namespace Go.Proofs.YtccikgogjfbpeabGreatDoor
open Go.RowKit Go.Shelf
attribute [local go_sem] Oper.semAt_some
theorem parts_stops (n Bs Bd n₀ D lo hi : Nat) (xs : List PartB) (hD : D <= 6) (hlo : lo <= 1000000) (hhi : hi < 10 ^ D) (hxs : xs.map Subtype.val = partsM D lo hi) (w : World) (hn₀ : n₀ <= w.heap.size) (hBs : Bs < n₀) (hBd : Bd < n₀)
    (h0 : w.cell? ⟨Bs, 0, none⟩ = some (.int .i64 lo)) (h1 : w.cell? ⟨Bs, 1, none⟩ = some (.int .i64 hi)) (h2 : w.cell? ⟨Bd, 0, none⟩ = some (.int .i64 D)) :
    SeqStopsK Fence.wide n Tryz.prog 175 #[.pointer (some ⟨Bs, 0, none⟩), .pointer (some ⟨Bd, 0, none⟩)] (fun x : PartB => #[partV x.1]) (Below n₀) (fun ys => ys = xs) (fun pre => pre <+: xs) xs.length w := fun l J Jx W hW hJ _ hY hj =>
  partsD_in n l Bs Bd n₀ D lo hi xs hD hlo hhi hxs J Jx W hJ hY (Nat.le_trans hn₀ hW.size) hBs hBd
    ((hW.cell (p := ⟨Bs, 0, none⟩) (Nat.lt_of_lt_of_le hBs hn₀)).trans h0) ((hW.cell (p := ⟨Bs, 1, none⟩) (Nat.lt_of_lt_of_le hBs hn₀)).trans h1) ((hW.cell (p := ⟨Bd, 0, none⟩) (Nat.lt_of_lt_of_le hBd hn₀)).trans h2) hj
def rlV (nm : ByteArray) (rk dg lo hi : Nat) (ma : Option Addr) (mn mc : Nat) (has : Bool) (a7 a8 : Nat) (ca : Option Addr) (cn cc : Nat) (dc ch : Bool) (pa : Option Addr) (pn pc : Nat) (ah : Nat) : Value :=
 .agg #[.string nm, .int .i64 rk, .int .i64 dg, .int .i64 lo, .int .i64 hi, .slice ma mn mc, .bool has, .int .i64 a7, .int .i64 a8, .slice ca cn cc, .bool dc, .bool ch, .slice pa pn pc, .int .i64 ah]
theorem aboutL_skip {q : Part} : ∀ {pre : List Part} (rest : List Part), (∀ p, p ∈ pre -> p.holds q = false /\ q.holds p = false) -> aboutL q (pre ++ rest) = aboutL q rest
 | [], _, _ => rfl
 | p :: r, rest, h => by
  have h1 := h p List.mem_cons_self
  rw [<- aboutL_skip (pre := r) rest (fun x hx => h x (List.mem_cons_of_mem _ hx))]
  show aboutL q (p :: (r ++ rest)) = _
  rw [aboutL, h1.1, h1.2]
  simp
def AbNone (q : Part) (pre : List PartB) : Prop := ∀ p : Part, p ∈ pre.map Subtype.val -> p.holds q = false /\ q.holds p = false
def AbI (w : World) (b : Nat) (q : Part) (pre : List PartB) (W : World) : Prop :=
 (AbNone q pre /\ W.cell? ⟨b + 1, 0, none⟩ = some (.int .i64 q.d) /\ W.cell? ⟨b + 1, 1, none⟩ = some (.int .i64 q.x) /\ W.cell? ⟨b + 1 + 1, 0, none⟩ = some (.int .i64 0) /\ W.frozen? ⟨b + 1 + 1, 0, none⟩ = false /\ b + 5 <= W.heap.size) /\ Below b w W
def AbX (w : World) (b : Nat) (q : Part) (c : Code) (pre : List PartB) (W : World) : Prop :=
 (c = .ret /\ ∃ v : Nat, W.cell? ⟨b + 1 + 1, 0, none⟩ = some (.int .i64 v) /\ ∀ rest, aboutL q (pre.map Subtype.val ++ rest) = v) /\ Below b w W
theorem abX_mk {w W : World} {b : Nat} {q : Part} {pre : List PartB} {x : PartB} (hn : AbNone q pre) (v : Nat) (hc : W.cell? ⟨b + 1 + 1, 0, none⟩ = some (.int .i64 v)) (hv : (x.1.holds q = true /\ v = 2) \/ (x.1.holds q = false /\ q.holds x.1 = true /\ v = 1)) (hB : Below b w W) : AbX w b q .ret (pre ++ [x]) W := by
 refine ⟨⟨rfl, v, hc, fun rest => ?_⟩, hB⟩
 rw [List.map_append, List.append_assoc, aboutL_skip _ hn]
 show aboutL q (x.1 :: rest) = v
 unfold aboutL
 rcases hv with ⟨h1, h2⟩ | ⟨h1, h2, h3⟩
 ·rw [h1]; simp [h2]
 ·rw [h1, h2]; simp [h3]
theorem abNone_snoc {q : Part} {pre : List PartB} {x : PartB} (hn : AbNone q pre) (h1 : x.1.holds q = false) (h2 : q.holds x.1 = false) : AbNone q (pre ++ [x]) := by
 intro p hp
 rw [List.map_append, List.mem_append] at hp
 rcases hp with hp | hp
 ·exact hn p hp
 ·simp at hp; subst hp; exact ⟨h1, h2⟩
theorem keepsOthers_below {W W' : World} (h : Below W.heap.size W W') : KeepsOthers W W' := ⟨h.size, fun k _ hk _ => (h.block k (Array.getElem?_eq_some_iff.1 hk).1).trans hk⟩
set_option maxRecDepth 100000 in
set_option maxHeartbeats 4000000 in
theorem about_in (nm : ByteArray) (rk D lo hi : Nat) (ma : Option Addr) (mn mc : Nat) (has : Bool) (a7 a8 : Nat) (ca : Option Addr) (cn cc : Nat) (dc ch : Bool) (pa : Option Addr) (pn pc : Nat) (ah : Nat) (q : Part) (w : World)
  (hD : D <= 6) (hlo : lo <= 1000000) (hhi : hi < 10 ^ D) (hq : q.d <= 6 /\ q.x <= 1000000) (xs : List PartB) (hxs : xs.map Subtype.val = partsM D lo hi) :
  CallsIn Fence.wide 5 Tryz.prog 103 #[rlV nm rk D lo hi ma mn mc has a7 a8 ca cn cc dc ch pa pn pc ah, partV q] w fun e w' => e = .returned (.int .i64 (aboutL q (partsM D lo hi))) /\ Below w.heap.size w w' := by
 unfold rlV partV
 refine callsIn_of_wp_marks Tryz.func103 rfl trivial ?_ rfl
 simp only [Tryz.ntmps103, List.size_toArray, List.length_cons, List.length_nil, Nat.reduceAdd, Nat.reduceSub, Array.replicate_succ, Array.replicate_zero, List.push_toArray, List.append_toArray, List.nil_append, List.cons_append]
 gi_wp2
 refine ⟨trivial, ?_⟩
 refine (callsIn_wide.2 (parts_any _ _ _ _)).mono ?_
 rintro e w' ⟨rfl, rfl⟩
 gi_wp2
 generalize hrv : Value.agg #[.string nm, .int .i64 rk, .int .i64 D, .int .i64 lo, .int .i64 hi, .slice ma mn mc, .bool has, .int .i64 a7, .int .i64 a8, .slice ca cn cc, .bool dc, .bool ch, .slice pa pn pc, .int .i64 ah] = RV
 generalize hrc : Obj.cells #[.string nm, .int .i64 rk, .int .i64 D, .int .i64 lo, .int .i64 hi, .slice ma mn mc, .bool has, .int .i64 a7, .int .i64 a8, .slice ca cn cc, .bool dc, .bool ch, .slice pa pn pc, .int .i64 ah] 108 = RC
 obtain ⟨W0, hW0⟩ : ∃ W0, ((((w.alloc RC).alloc (.cells #[.int .i64 q.d, .int .i64 q.x] 131)).alloc (.cells #[.int .i64 0] 191)).alloc (.cells #[.int .i64 D] 3)).alloc (.cells #[.int .i64 lo, .int .i64 hi] 106) = W0 := ⟨_, rfl⟩
 obtain ⟨b, hb⟩ : ∃ b, w.heap.size = b := ⟨_, rfl⟩
 have hsz : W0.heap.size = b + 5 := by rw [<- hW0, <- hb]; simp
 have hF : F0 w W0 := by rw [<- hW0]; exact ((((Fr.refl _ _).alloc _).alloc _).alloc _).alloc _ |>.alloc _
 have hB0 : Below b w W0 := hF.below (by omega) (by simp)
 have o1 : W0.heap[b + 1]? = some (.cells #[.int .i64 q.d, .int .i64 q.x] 131) := by
  rw [<- hW0, <- hb]
  exact ((((Fr.refl (fun _ => False) _).alloc _).alloc _).alloc _).whole (by have := heap_alloc_new (w.alloc RC) (.cells #[.int .i64 q.d, .int .i64 q.x] 131); simpa using this) (by simp)
 have o2 : W0.heap[b + 1 + 1]? = some (.cells #[.int .i64 0] 191) := by
  rw [<- hW0, <- hb]
  exact (((Fr.refl (fun _ => False) _).alloc _).alloc _).whole (by have := heap_alloc_new ((w.alloc RC).alloc (.cells #[.int .i64 q.d, .int .i64 q.x] 131)) (.cells #[.int .i64 0] 191); simpa using this) (by simp)
 have o3 : W0.heap[b + 1 + 1 + 1]? = some (.cells #[.int .i64 D] 3) := by
  rw [<- hW0, <- hb]
  exact ((Fr.refl (fun _ => False) _).alloc _).whole (by have := heap_alloc_new (((w.alloc RC).alloc (.cells #[.int .i64 q.d, .int .i64 q.x] 131)).alloc (.cells #[.int .i64 0] 191)) (.cells #[.int .i64 D] 3); simpa using this) (by simp)
 have o4 : W0.heap[b + 1 + 1 + 1 + 1]? = some (.cells #[.int .i64 lo, .int .i64 hi] 106) := by
  rw [<- hW0, <- hb]
  have := heap_alloc_new ((((w.alloc RC).alloc (.cells #[.int .i64 q.d, .int .i64 q.x] 131)).alloc (.cells #[.int .i64 0] 191)).alloc (.cells #[.int .i64 D] 3)) (.cells #[.int .i64 lo, .int .i64 hi] 106)
  simpa using this
 rw [hW0, hb]
 clear hW0
 have hR : ∀ (p1 p2 : Part) (W : World), p1.d <= 6 -> p2.d <= 6 -> p1.x <= 1000000 -> p2.x <= 1000000 -> Calls Tryz.prog 137 #[.agg #[.int .i64 p1.d, .int .i64 p1.x], .agg #[.int .i64 p2.d, .int .i64 p2.x]] W fun e w' => e = .returned (.bool (p1.holds p2)) /\ Below W.heap.size W w' := fun p1 p2 W h1 h2 h3 h4 => holds_any p1 p2 W h1 h2 h4 h3
 refine wpIn_rangeFunc_ownH rfl (by omega) (gf := 175) (lb := #[.pointer (some ⟨b + 1 + 1 + 1 + 1, 0, none⟩), .pointer (some ⟨b + 1 + 1 + 1, 0, none⟩)]) rfl trivial (enters_of Tryz.func175 (by kernel_rfl) rfl)
  (parts_stops (5 - 1) (b + 1 + 1 + 1 + 1) (b + 1 + 1 + 1) (b + 5) D lo hi xs hD hlo hhi hxs W0 (by omega) (by omega) (by omega) (block_cell o4 0 _ rfl) (block_cell o4 1 _ rfl) (block_cell o3 0 _ rfl)) belowK_t (belowK_b (by omega)) (Below.refl _ _) (fun _ => rfl)
  (fun pre W => AbI w b q pre W) (fun c pre W => AbX w b q c pre W)
  (OwnFrom.and (Own.from (fun s A B row hs hg hr => ⟨hs.1, cell_kept hs.2.1 hg hr, cell_kept hs.2.2.1 hg hr, cell_kept hs.2.2.2.1 hg hr, (frozen_kept hs.2.2.2.1 hg hr).trans hs.2.2.2.2.1, Nat.le_trans hs.2.2.2.2.2 hg.size⟩) _) (ownFrom_below (by omega) (by omega)))
  (fun c => OwnFrom.and (Own.from (fun s A B row hs hg hr => ⟨hs.1, hs.2.choose, cell_kept hs.2.choose_spec.1 hg hr, hs.2.choose_spec.2⟩) _) (ownFrom_below (by omega) (by omega)))
  ⟨⟨by intro p hp; simp at hp, block_cell o1 0 _ rfl, block_cell o1 1 _ rfl, block_cell o2 0 _ rfl, block_frozen o2 0, by omega⟩, hB0⟩
  (fun x a' W => ∃ Bx, b + 5 <= Bx /\ W.cell? ⟨Bx, 0, none⟩ = some (.int .i64 x.1.d) /\ W.cell? ⟨Bx, 1, none⟩ = some (.int .i64 x.1.x) /\ a' = { tmps := #[RV, .agg #[.int .i64 q.d, .int .i64 q.x], .pointer (some ⟨b, 0, none⟩), .pointer (some ⟨b + 1, 0, none⟩), .pointer (some ⟨b + 1 + 1, 0, none⟩), .pointer (some ⟨Bx, 0, none⟩), .pointer (some ⟨b, 2, none⟩), .int .i64 D, .pointer (some ⟨b, 3, none⟩), .agg #[.int .i64 lo, .int .i64 hi], .func (.func 175) #[] #[.pointer (some ⟨b + 1 + 1 + 1 + 1, 0, none⟩), .pointer (some ⟨b + 1 + 1 + 1, 0, none⟩)], .agg #[.int .i64 x.1.d, .int .i64 x.1.x], undef, undef, undef, undef, undef, undef], defers := [] })
  (fun x a' => Own.from (fun s A B row hs hg hr => ⟨hs.choose, hs.choose_spec.1, cell_kept hs.choose_spec.2.1 hg hr, cell_kept hs.choose_spec.2.2.1 hg hr, hs.choose_spec.2.2.2⟩) _) ?assign ?body ?done ?stop
 case assign =>
  rintro l pre x W K ⟨⟨hp, c0, c1, cr, fr, hz⟩, hB⟩ hK
  unfold partV
  gi_wp2
  have f1 : F0 W (W.alloc (.cells #[.int .i64 x.1.d, .int .i64 x.1.x] 131)) := (Fr.refl _ _).alloc _
  have hbl : ∀ k, k < b + 5 -> k < W.heap.size := fun k hk => by omega
  exact hK _ _ ((KeepsOthers.alloc _ _).from _) ((Below.refl _ W).alloc hz _)
   ⟨⟨hp, (f1.cell (p := ⟨b + 1, 0, none⟩) (hbl _ (by show b + 1 < b + 5; omega)) (by simp)).trans c0, (f1.cell (p := ⟨b + 1, 1, none⟩) (hbl _ (by show b + 1 < b + 5; omega)) (by simp)).trans c1, (f1.cell (p := ⟨b + 1 + 1, 0, none⟩) (hbl _ (by show b + 1 + 1 < b + 5; omega)) (by simp)).trans cr, (f1.frozen (p := ⟨b + 1 + 1, 0, none⟩) (hbl _ (by show b + 1 + 1 < b + 5; omega)) (by simp)).trans fr, Nat.le_trans hz f1.size⟩, hB.alloc (by omega) _⟩
   ⟨W.heap.size, hz, block_cell (heap_alloc_new W _) 0 _ rfl, block_cell (heap_alloc_new W _) 1 _ rfl, rfl⟩
 case body =>
  rintro l pre x a' W hl ⟨r, hr⟩ ⟨⟨hp, c0, c1, cr, fr, hz⟩, hB⟩ ⟨Bx, hBx, x0, x1, rfl⟩ hlt
  have hlx : Bx < W.heap.size := World.block_lt_of_cell? W _ x0
  have hbl : ∀ k, k < b + 5 -> k < W.heap.size := fun k hk => by omega
  have HH := hid hp
  have HX2 := x.2
  have HC1 := hid (hR x.1 q W HX2.1 hq.1 HX2.2 hq.2)
  have HC2 : Hid (∀ W2, Calls Tryz.prog 137 #[.agg #[.int .i64 q.d, .int .i64 q.x], .agg #[.int .i64 x.1.d, .int .i64 x.1.x]] W2 fun e w' => e = .returned (.bool (q.holds x.1)) /\ Below W2.heap.size W2 w') := fun W2 => hR q x.1 W2 hq.1 HX2.1 hq.2 HX2.2
  clear hR hp HX2
  gi_wp2
  refine ⟨trivial, ?_⟩
  refine (CallsIn.inRound l (callsIn_wide.2 HC1.o)).mono ?_
  rintro e W2 ⟨rfl, hb2⟩
  have HB2 := hid hb2
  have d0 := (hb2.cell (p := ⟨b + 1, 0, none⟩) (hbl _ (by show b + 1 < b + 5; omega))).trans c0
  have d1 := (hb2.cell (p := ⟨b + 1, 1, none⟩) (hbl _ (by show b + 1 < b + 5; omega))).trans c1
  have dr := (hb2.cell (p := ⟨b + 1 + 1, 0, none⟩) (hbl _ (by show b + 1 + 1 < b + 5; omega))).trans cr
  have df := (hb2.frozen (p := ⟨b + 1 + 1, 0, none⟩) (hbl _ (by show b + 1 + 1 < b + 5; omega))).trans fr
  have e0 := (hb2.cell (p := ⟨Bx, 0, none⟩) hlx).trans x0
  have e1 := (hb2.cell (p := ⟨Bx, 1, none⟩) hlx).trans x1
  cases h1 : x.1.holds q with
  | true =>
   gi_wp2
   exact ⟨((keepsOthers_below HB2.o).trans (KeepsOthers.setCell _ _ _)).from _, abX_mk HH.o 2 (World.cell?_setCell_same _ _ _ dr) (Or.inl ⟨h1, rfl⟩) ((hB.trans (HB2.o.mono (by omega))).setCell (p := ⟨b + 1 + 1, 0, none⟩) (by show b <= b + 1 + 1; omega) _)⟩
  | false =>
   gi_wp2
   refine ⟨trivial, ?_⟩
   refine (CallsIn.inRound l (callsIn_wide.2 (HC2.o _))).mono ?_
   rintro e W3 ⟨rfl, hb3⟩
   have HB3 := hid (hb2.trans (hb3.mono hb2.size))
   have k0 := (HB3.o.cell (p := ⟨b + 1, 0, none⟩) (hbl _ (by show b + 1 < b + 5; omega))).trans c0
   have k1 := (HB3.o.cell (p := ⟨b + 1, 1, none⟩) (hbl _ (by show b + 1 < b + 5; omega))).trans c1
   have kr := (HB3.o.cell (p := ⟨b + 1 + 1, 0, none⟩) (hbl _ (by show b + 1 + 1 < b + 5; omega))).trans cr
   have kf := (HB3.o.frozen (p := ⟨b + 1 + 1, 0, none⟩) (hbl _ (by show b + 1 + 1 < b + 5; omega))).trans fr
   clear hb2 hb3 d0 d1 dr df e0 e1
   cases h2 : q.holds x.1 with
   | true =>
    gi_wp2
    exact ⟨((keepsOthers_below HB3.o).trans (KeepsOthers.setCell _ _ _)).from _, abX_mk HH.o 1 (World.cell?_setCell_same _ _ _ kr) (Or.inr ⟨h1, h2, rfl⟩) ((hB.trans (HB3.o.mono (by omega))).setCell (p := ⟨b + 1 + 1, 0, none⟩) (by show b <= b + 1 + 1; omega) _)⟩
   | false =>
    gi_wp2
    exact ⟨(keepsOthers_below HB3.o).from _, HB3.o.mono hz, ⟨abNone_snoc HH.o h1 h2, k0, k1, kr, kf, Nat.le_trans hz HB3.o.size⟩, hB.trans (HB3.o.mono (by omega))⟩
 case done =>
  rintro D' ys W hD' rfl ⟨⟨hp, c0, c1, cr, fr, hz⟩, hB⟩ hK
  gi_wp2
  have hK' := (KeepsOthers.setCell W ⟨b + 1 + 1, 0, none⟩ (.int .i64 0)).same D' _ hK rfl
  refine ⟨by simp, .inl ⟨_, _, rfl, run_takeDeferred hK', ?_⟩⟩
  have hc5 := cell_kept (World.cell?_setCell_same W ⟨b + 1 + 1, 0, none⟩ (.int .i64 0) cr) (grownBy_putObj' _ D' (.deferred none)) (fun r e => by cases e; exact ⟨_, hK', rfl⟩)
  have hv : aboutL q (partsM D lo hi) = 0 := by
   have := aboutL_skip (q := q) [] hp
   rw [List.append_nil, hxs] at this
   exact this
  refine ⟨.int .i64 0, ?_, by rw [hv]; rfl, ?_⟩
  ·simp [results, Tryz.results103, go_sem, hc5]
  ·rw [hb]
   exact (hB.setCell (p := ⟨b + 1 + 1, 0, none⟩) (by show b <= b + 1 + 1; omega) _).trans (belowK_b (w := W0) (by omega) _ D' _ _ (by omega) hK' rfl rfl)
 case stop =>
  rintro D' c pre W hD' hpre ⟨⟨rfl, v, hc, hv⟩, hB⟩ hK
  gi_wp2
  refine ⟨by simp, .inl ⟨_, _, rfl, run_takeDeferred hK, ?_⟩⟩
  have hc5 := cell_kept hc (grownBy_putObj' _ D' (.deferred none)) (fun r e => by cases e; exact ⟨_, hK, rfl⟩)
  have hv' : aboutL q (partsM D lo hi) = v := by
   obtain ⟨t, ht⟩ := hpre
   rw [<- hxs, <- ht, List.map_append]
   exact hv _
  refine ⟨.int .i64 v, ?_, by rw [hv'], ?_⟩
  ·simp [results, Tryz.results103, go_sem, hc5]
  ·rw [hb]
   exact hB.trans (belowK_b (w := W0) (by omega) _ D' _ _ (by omega) hK rfl rfl)
theorem parts_bound {d hi : Nat} (hd : hi < 10 ^ d) (h6 : d <= 6) {p : Part} : ∀ (n low : Nat), p ∈ partsFrom d hi n low -> p.d <= 6 /\ p.x <= 1000000
 | 0, _, h => by simp [partsFrom] at h
 | n + 1, low, h => by
  unfold partsFrom at h
  split at h
  ·rename_i hl
   rcases List.mem_cons.1 h with e | h
   ·subst e
    have h1 : low / 10 ^ topK low hi <= low := Nat.div_le_self _ _
    have h2 : 10 ^ d <= 10 ^ 6 := Nat.pow_le_pow_right (by omega) h6
    exact ⟨by show d - _ <= 6; omega, by show low / _ <= 1000000; omega⟩
   ·exact parts_bound hd h6 n _ h
  ·cases h
theorem parts_sub {d lo hi : Nat} (hd : hi < 10 ^ d) (h6 : d <= 6) : ∃ xs : List PartB, xs.map Subtype.val = partsM d lo hi := by
 have h : ∀ l : List Part, (∀ p, p ∈ l -> p.d <= 6 /\ p.x <= 1000000) -> ∃ xs : List PartB, xs.map Subtype.val = l := by
  intro l
  induction l with
  | nil => intro _; exact ⟨[], rfl⟩
  | cons p r ih =>
   intro hl
   obtain ⟨xs, hx⟩ := ih (fun p hp => hl p (List.mem_cons_of_mem _ hp))
   exact ⟨⟨p, hl p List.mem_cons_self⟩ :: xs, by simp only [List.map_cons, hx]⟩
 exact h _ (fun p hp => parts_bound hd h6 _ _ hp)
theorem about_any (nm : ByteArray) (rk D lo hi : Nat) (ma : Option Addr) (mn mc : Nat) (has : Bool) (a7 a8 : Nat) (ca : Option Addr) (cn cc : Nat) (dc ch : Bool) (pa : Option Addr) (pn pc : Nat) (ah : Nat) (q : Part) (w : World)
  (hD : D <= 6) (hlo : lo <= 1000000) (hhi : hi < 10 ^ D) (hq : q.d <= 6 /\ q.x <= 1000000) :
  Calls Tryz.prog 103 #[rlV nm rk D lo hi ma mn mc has a7 a8 ca cn cc dc ch pa pn pc ah, partV q] w fun e w' => e = .returned (.int .i64 (aboutL q (partsM D lo hi))) /\ Below w.heap.size w w' := by
 obtain ⟨xs, hxs⟩ := parts_sub (lo := lo) hhi hD
 exact callsIn_wide.1 (about_in nm rk D lo hi ma mn mc has a7 a8 ca cn cc dc ch pa pn pc ah q w hD hlo hhi hq xs hxs)
end Go.Proofs.YtccikgogjfbpeabGreatDoor
