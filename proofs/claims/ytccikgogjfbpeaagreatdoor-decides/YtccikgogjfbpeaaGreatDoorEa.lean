import Derived.Test.YtccikgogjfbpeaaGreatDoorDf
import Derived.Test.YtccikgogjfbpeaaGreatDoorZh
namespace Go.Proofs.YtccikgogjfbpeaaGreatDoor
set_option maxRecDepth 30000
set_option maxHeartbeats 8000000
open Go.RowKit
theorem inL_cons (x : Nat) (r : List Nat) (n : Int) : inL (x :: r) n = (((x : Int) == n) || inL r n) := by
 unfold inL;rw [List.any_cons]
 congr 1
theorem inS_cons (x : ByteArray) (r : List ByteArray) (s : ByteArray) : inS (x :: r) s = ((x.toList == s.toList) || inS r s) := by
 unfold inS;rw [List.any_cons]
 congr 1
 exact BEq.comm
theorem rin_any (w : World) (a : Option Addr) (c : Nat) (l : List Nat) (n : Int) (h : IntsAt w a l) (hl : l.length <= 4000) :
  Calls Tryz.prog 139 #[.slice a l.length c, .int .i64 n] w fun e w' => e = .returned (.bool (inL l n)) /\ w' = w := by
 have HR := hid h;obtain ⟨m, hm⟩ : ∃ m, l.length = m := ⟨_, rfl⟩;have HM := hid hm;rw [hm] at hl ⊢;clear h hm;go_enter Tryz.func139, Tryz.ntmps139;go_wp2_with fail
 go_loop [5] (fun i => ∃ k : Nat, k <= m /\ i = .int .i64 k /\ Hid (inL l n = inL (l.drop k) n)) (fun i => m - (intOf i).toNat)
 case atStart => exact ⟨0, Nat.zero_le _, rfl, rfl⟩
 case round =>
  obtain ⟨k, hk, rfl, HN⟩ := hrel;by_cases hlt : k < m
  ·have hki : (k : Int) < (m : Int) := by omega
   obtain ⟨x, hx⟩ : ∃ x, l[k]? = some x := ⟨_, gE (by have := HM.o; omega)⟩;obtain ⟨g, rfl, hc⟩ := HR.o k x hx
   have HD : Hid (inL l n = (((x : Int) == n) || inL (l.drop (k + 1)) n)) := by
    obtain ⟨h1, h2⟩ := iG.1 hx
    show _ = _
    rw [HN.o, dC h1, h2, inL_cons]
   clear hx
   cases hq : ((x : Int) == n) with
   | true =>
    rw [hq, Bool.true_or] at HD;go_wp2_with fail;go_ret;exact ⟨congrArg (fun b => Ending.returned (Value.bool b)) HD.o.symm, rfl⟩
   | false =>
    rw [hq, Bool.false_or] at HD;go_wp2_with fail;exact ⟨⟨k + 1, by omega, by go_num, HD⟩, by simp [intOf]; omega⟩
  ·have hki : ¬ (k : Int) < (m : Int) := by omega
   have HQ : Hid (inL l n = false) := by show _ = _; rw [HN.o, dL (by have := HM.o; omega)]; rfl
   go_wp2_with fail;go_ret;exact ⟨congrArg (fun b => Ending.returned (Value.bool b)) HQ.o.symm, rfl⟩
theorem risDown_any (w : World) (a : Option Addr) (c : Nat) (l : List ByteArray) (s : ByteArray) (h : StrsAt w a l) (hl : l.length <= maxLen) :
  Calls Tryz.prog 101 #[.slice a l.length c, .string s] w fun e w' => e = .returned (.bool (inS l s)) /\ w' = w := by
 have HR := hid h;unfold maxLen at hl;obtain ⟨m, hm⟩ : ∃ m, l.length = m := ⟨_, rfl⟩;have HM := hid hm;rw [hm] at hl ⊢
 have hlI : (m : Int) <= 9223372036854775807 := by omega
 clear h hm hl;go_enter Tryz.func101, Tryz.ntmps101;go_wp2_with fail
 go_loop [5] (fun i => ∃ k : Nat, k <= m /\ i = .int .i64 k /\ Hid (inS l s = inS (l.drop k) s)) (fun i => m - (intOf i).toNat)
 case atStart => exact ⟨0, Nat.zero_le _, rfl, rfl⟩
 case round =>
  obtain ⟨k, hk, rfl, HN⟩ := hrel;by_cases hlt : k < m
  ·have hki : (k : Int) < (m : Int) := by omega
   obtain ⟨x, hx⟩ : ∃ x, l[k]? = some x := ⟨_, gE (by have := HM.o; omega)⟩;obtain ⟨g, o, rfl, hc⟩ := HR.o k x hx
   have HD : Hid (inS l s = ((x.toList == s.toList) || inS (l.drop (k + 1)) s)) := by
    obtain ⟨h1, h2⟩ := iG.1 hx
    show _ = _
    rw [HN.o, dC h1, h2, inS_cons]
   clear hx
   cases hq : (x.toList == s.toList) with
   | true =>
    rw [hq, Bool.true_or] at HD;go_wp2_with fail;go_ret;exact ⟨congrArg (fun b => Ending.returned (Value.bool b)) HD.o.symm, rfl⟩
   | false =>
    rw [hq, Bool.false_or] at HD;go_wp2_with fail;exact ⟨⟨k + 1, by omega, by go_num, HD⟩, by simp [intOf]; omega⟩
  ·have hki : ¬ (k : Int) < (m : Int) := by omega
   have HQ : Hid (inS l s = false) := by show _ = _; rw [HN.o, dL (by have := HM.o; omega)]; rfl
   go_wp2_with fail;go_ret;exact ⟨congrArg (fun b => Ending.returned (Value.bool b)) HQ.o.symm, rfl⟩
theorem rPayment_any (w : World) (p : PayM) (hs : p.pan.size <= maxLen) :
  Calls Tryz.prog 86 #[payV p] w fun e w' => e = .returned (.bool (payOk p)) /\ F0 w w' := by
 have HF : Hid (F0 w (w.alloc (payO p))) := (Fr.refl _ _).alloc _;have HX : Hid ((w.alloc (payO p)).heap[w.heap.size]? = some (payO p)) := aN w _;unfold payO at HF HX;unfold payV;unfold maxLen at hs
 have hsI : (p.pan.size : Int) <= 9223372036854775807 := by omega
 clear hs;go_enter Tryz.func86, Tryz.ntmps86;go_upto_region 1 with fail;generalize w.alloc (.cells #[.string p.pan, .int .i64 p.mcc, .int .i64 p.am, .int .i64 p.cur] 35) = W at *;generalize w.heap.size = X at *;have x0 := bC HX.o 0 _ rfl;have x1 := bC HX.o 1 _ rfl;have x2 := bC HX.o 2 _ rfl;have x3 := bC HX.o 3 _ rfl;go_wp2_with fail
 go_loop [3] (fun i => ∃ k : Nat, k <= p.pan.size /\ i = .int .i64 k /\ Hid (allFrom p.pan 0 = allFrom p.pan k)) (fun i => p.pan.size - (intOf i).toNat)
 case atStart => exact ⟨0, Nat.zero_le _, rfl, rfl⟩
 case round =>
  obtain ⟨k, hk, rfl, HN⟩ := hrel;by_cases hlt : k < p.pan.size
  ·have hki : (k : Int) < (p.pan.size : Int) := by omega
   have hix := fun w => index_at (P := Tryz.prog) Tryz.underlying9 p.pan k (k : Int) rfl hlt w
   have HS := hid (allFrom_step p.pan k hlt);obtain ⟨b, hb⟩ : ∃ b, bAt p.pan k = b := ⟨_, rfl⟩;rw [hb] at hix HS;clear hb;by_cases h48 : b < 48
   ·have HP : Hid (payOk p = false) := by
     show _ = _
     rw [payOk_eq, show panOk p.pan = false from ?_]
     ·rfl
     ·show (decide (6 <= p.pan.size) && (decide (p.pan.size <= 19) && allFrom p.pan 0)) = false
      rw [HN.o, HS.o];simp [iD];omega
    go_wp2_with fail;go_ret;exact ⟨congrArg (fun b => Ending.returned (Value.bool b)) HP.o.symm, HF.o⟩
   ·by_cases h57 : 57 < b
    ·have HP : Hid (payOk p = false) := by
      show _ = _
      rw [payOk_eq, show panOk p.pan = false from ?_]
      ·rfl
      ·show (decide (6 <= p.pan.size) && (decide (p.pan.size <= 19) && allFrom p.pan 0)) = false
       rw [HN.o, HS.o];simp [iD];omega
     go_wp2_with fail;go_ret;exact ⟨congrArg (fun b => Ending.returned (Value.bool b)) HP.o.symm, HF.o⟩
    ·have HN2 : Hid (allFrom p.pan 0 = allFrom p.pan (k + 1)) := by
      show _ = _
      rw [HN.o, HS.o, show iD b = true from by simp [iD]; omega, Bool.true_and]
     go_wp2_with fail;exact ⟨⟨k + 1, by omega, by go_num, HN2⟩, by simp [intOf]; omega⟩
  ·have hki : ¬ (k : Int) < (p.pan.size : Int) := by omega
   have HAL : Hid (allFrom p.pan 0 = true) := by show _ = _; rw [HN.o]; exact allFrom_end p.pan k (by omega)
   have HPO : Hid (payOk p = ((decide (6 <= p.pan.size) && (decide (p.pan.size <= 19) && true)) && (rngOk p.mcc 9999 && (rngOk p.am 1000000000 && rngOk p.cur 999)))) := by
    show _ = _
    rw [payOk_eq, <- HAL.o];rfl
   clear hk hlt;by_cases c1 : (6 : Int) <= (p.pan.size : Int)
   ·skip
    by_cases c2 : (p.pan.size : Int) <= 19
    ·skip
     by_cases c3 : 0 <= p.mcc
     ·skip
      by_cases c4 : p.mcc <= 9999
      ·skip
       by_cases c5 : 0 <= p.am
       ·skip
        by_cases c6 : p.am <= 1000000000
        ·skip
         by_cases c7 : 0 <= p.cur
         ·skip
          by_cases c8 : p.cur <= 999
          ·skip
           go_wp2_with fail;go_ret;exact ⟨congrArg (fun b => Ending.returned (Value.bool b)) (show true = payOk p from by rw [HPO.o]; simp [rngOk]; omega), HF.o⟩
          ·skip
           go_wp2_with fail;go_ret;exact ⟨congrArg (fun b => Ending.returned (Value.bool b)) (show false = payOk p from by rw [HPO.o]; simp [rngOk]; omega), HF.o⟩
         ·skip
          go_wp2_with fail;go_ret;exact ⟨congrArg (fun b => Ending.returned (Value.bool b)) (show false = payOk p from by rw [HPO.o]; simp [rngOk]; omega), HF.o⟩
        ·skip
         go_wp2_with fail;go_ret;exact ⟨congrArg (fun b => Ending.returned (Value.bool b)) (show false = payOk p from by rw [HPO.o]; simp [rngOk]; omega), HF.o⟩
       ·skip
        go_wp2_with fail;go_ret;exact ⟨congrArg (fun b => Ending.returned (Value.bool b)) (show false = payOk p from by rw [HPO.o]; simp [rngOk]; omega), HF.o⟩
      ·skip
       go_wp2_with fail;go_ret;exact ⟨congrArg (fun b => Ending.returned (Value.bool b)) (show false = payOk p from by rw [HPO.o]; simp [rngOk]; omega), HF.o⟩
     ·skip
      go_wp2_with fail;go_ret;exact ⟨congrArg (fun b => Ending.returned (Value.bool b)) (show false = payOk p from by rw [HPO.o]; simp [rngOk]; omega), HF.o⟩
    ·skip
     go_wp2_with fail;go_ret;exact ⟨congrArg (fun b => Ending.returned (Value.bool b)) (show false = payOk p from by rw [HPO.o]; simp [rngOk]; omega), HF.o⟩
   ·skip
    go_wp2_with fail;go_ret;exact ⟨congrArg (fun b => Ending.returned (Value.bool b)) (show false = payOk p from by rw [HPO.o]; simp [rngOk]; omega), HF.o⟩
theorem dg_extract {s : ByteArray} (h : panOk s = true) (d : Nat) (hd : d <= 6) : Dg (s.extract 0 d) /\ numOf (s.extract 0 d).data.toList = card6 s / 10 ^ (6 - d) := by
 obtain ⟨h6, _, hdg⟩ := pan_digit h
 have hl : (s.extract 0 d).data.toList = s.data.toList.take d := by rw [Lib.extract_data]; simp
 have hlen : s.data.toList.length = s.size := by simp
 refine ⟨⟨?_, fun k hk => ?_⟩, ?_⟩
 ·rw [ByteArray.size_extract]
  omega
 ·have hk' : k < (s.extract 0 d).data.toList.length := by simpa using hk
  unfold bAt;rw [gD, gE hk', Option.getD_some];have hm : (s.extract 0 d).data.toList[k] ∈ s.data.toList := List.mem_of_mem_take (i := d) (by rw [<- hl]; exact List.getElem_mem hk');have := hdg _ hm;omega
 ·rw [hl]
  unfold card6;have e := numOf_take hdg (6 - d) d (by omega);rw [show d + (6 - d) = 6 from by omega] at e;exact e.symm
def meetB (r : RuleM) (p : PayM) : Bool := decide (r.lo <= card6 p.pan / 10 ^ (6 - r.digits)) && (decide (card6 p.pan / 10 ^ (6 - r.digits) <= r.hi) && meetG r p)
def rrC (r : RuleM) (ma : Option Addr) (mc : Nat) (ca : Option Addr) (cc : Nat) (pa : Option Addr) (pc : Nat) : List Value :=
 [.string r.name, .int .i64 (r.rank : Nat), .int .i64 (r.digits : Nat), .int .i64 (r.lo : Nat), .int .i64 (r.hi : Nat), .slice ma r.mcc.length mc, .slice ca r.cur.length cc, .bool r.am.isSome, .int .i64 ((r.am.getD (0, 0)).1 : Nat), .int .i64 ((r.am.getD (0, 0)).2 : Nat), .slice pa r.routes.length pc, .bool r.decline, .bool r.cheapest]
theorem rMeets_any (w : World) (g o : Nat) (r : RuleM) (ma : Option Addr) (mc : Nat) (ca : Option Addr) (cc : Nat) (pa : Option Addr) (pc n : Nat) (p : PayM) (hc : ∀ j v, (rrC r ma mc ca cc pa pc)[j]? = some v -> w.cell? ⟨g, o + j, none⟩ = some v) (hm : IntsAt w ma r.mcc) (hu : IntsAt w ca r.cur) (ho : RlOk n r) (hp : panOk p.pan = true) :
  Calls Tryz.prog 87 #[.pointer (some ⟨g, o, none⟩), payV p] w fun e w' => e = .returned (.bool (meetB r p)) /\ F0 w w' := by
 have HF : Hid (F0 w (w.alloc (payO p))) := (Fr.refl _ _).alloc _;have HX : Hid ((w.alloc (payO p)).heap[w.heap.size]? = some (payO p)) := aN w _;unfold payO at HF HX;unfold payV;obtain ⟨hdg, hnum⟩ := dg_extract hp r.digits ho.bn.1;obtain ⟨nn, hnn⟩ : ∃ nn, card6 p.pan / 10 ^ (6 - r.digits) = nn := ⟨_, rfl⟩;rw [hnn] at hnum
 have HNU : Hid (∀ W, Calls Tryz.prog 133 #[.string (p.pan.extract 0 r.digits)] W fun e w' => e = .returned (.int .i64 (nn : Nat)) /\ w' = W) := fun W => by rw [<- hnum]; exact number_any _ W hdg
 have HIM : Hid (∀ W, F0 w W -> Calls Tryz.prog 139 #[.slice ma r.mcc.length mc, .int .i64 p.mcc] W fun e w' => e = .returned (.bool (inL r.mcc p.mcc)) /\ w' = W) := fun W hf => rin_any W ma mc r.mcc p.mcc (hm.fr hf (by simp)) ho.mc.1
 have HIC : Hid (∀ W, F0 w W -> Calls Tryz.prog 139 #[.slice ca r.cur.length cc, .int .i64 p.cur] W fun e w' => e = .returned (.bool (inL r.cur p.cur)) /\ w' = W) := fun W hf => rin_any W ca cc r.cur p.cur (hu.fr hf (by simp)) ho.cu.1
 obtain ⟨ab, hab⟩ : ∃ ab, r.am.getD (0, 0) = ab := ⟨_, rfl⟩
 have HB : Hid (meetB r p = (decide ((r.lo : Int) <= (nn : Int)) && (decide ((nn : Int) <= (r.hi : Int)) && ((decide (r.mcc.length = 0) || inL r.mcc p.mcc) && ((!r.am.isSome || (decide ((ab.1 : Int) <= p.am) && decide (p.am <= (ab.2 : Int)))) && (decide (r.cur.length = 0) || inL r.cur p.cur)))))) := by
  show _ = _
  unfold meetB meetG amOk;rw [hnn]
  have e1 : decide (r.lo <= nn) = decide ((r.lo : Int) <= (nn : Int)) := by congr 1; apply propext; omega
  have e2 : decide (nn <= r.hi) = decide ((nn : Int) <= (r.hi : Int)) := by congr 1; apply propext; omega
  have e3 : decide (r.mcc = []) = decide (r.mcc.length = 0) := by congr 1; apply propext; exact List.length_eq_zero_iff.symm
  have e4 : decide (r.cur = []) = decide (r.cur.length = 0) := by congr 1; apply propext; exact List.length_eq_zero_iff.symm
  rw [e1, e2, e3, e4, <- hab]
  cases r.am with
  | none => rfl
  | some ab => rfl
 have hc2 := fun j v hv => (HF.o.cell (p := ⟨g, o + j, none⟩) (bL w _ (hc j v hv)) (by simp)).trans (hc j v hv)
 have hsz := (pan_digit hp).1;have hd6 := ho.bn.1;obtain ⟨isS, his⟩ : ∃ b, r.am.isSome = b := ⟨_, rfl⟩;obtain ⟨mn, hmn⟩ : ∃ mn, r.mcc.length = mn := ⟨_, rfl⟩;obtain ⟨cn, hcn⟩ : ∃ cn, r.cur.length = cn := ⟨_, rfl⟩;obtain ⟨bm, hbm⟩ : ∃ b, inL r.mcc p.mcc = b := ⟨_, rfl⟩;obtain ⟨bc, hbc⟩ : ∃ b, inL r.cur p.cur = b := ⟨_, rfl⟩;rw [his, hmn, hcn, hbm, hbc] at HB;rw [hmn, hbm] at HIM;rw [hcn, hbc] at HIC
 have HCE : Hid (∀ W', F0 (w.alloc (.cells #[.string p.pan, .int .i64 p.mcc, .int .i64 p.am, .int .i64 p.cur] 35)) W' -> W'.cell? ⟨w.heap.size, 0, none⟩ = some (.string p.pan) /\ W'.cell? ⟨w.heap.size, 1, none⟩ = some (.int .i64 p.mcc) /\ W'.cell? ⟨w.heap.size, 2, none⟩ = some (.int .i64 p.am) /\ W'.cell? ⟨w.heap.size, 3, none⟩ = some (.int .i64 p.cur) /\ W'.cell? ⟨g, o + 2, none⟩ = some (.int .i64 (r.digits : Nat)) /\ W'.cell? ⟨g, o + 3, none⟩ = some (.int .i64 (r.lo : Nat)) /\ W'.cell? ⟨g, o + 4, none⟩ = some (.int .i64 (r.hi : Nat)) /\ W'.cell? ⟨g, o + 5, none⟩ = some (.slice ma mn mc) /\ W'.cell? ⟨g, o + 6, none⟩ = some (.slice ca cn cc) /\ W'.cell? ⟨g, o + 7, none⟩ = some (.bool isS) /\ W'.cell? ⟨g, o + 8, none⟩ = some (.int .i64 (ab.1 : Nat)) /\ W'.cell? ⟨g, o + 9, none⟩ = some (.int .i64 (ab.2 : Nat))) := by
  intro W' hf;have e := hf.whole HX.o (by simp)
  have hc3 := fun j v hv => (hf.cell (p := ⟨g, o + j, none⟩) (bL _ _ (hc2 j v hv)) (by simp)).trans (hc2 j v hv)
  rw [<- his, <- hmn, <- hcn, <- hab];exact ⟨bC e 0 _ rfl, bC e 1 _ rfl, bC e 2 _ rfl, bC e 3 _ rfl, hc3 2 _ rfl, hc3 3 _ rfl, hc3 4 _ rfl, hc3 5 _ rfl, hc3 6 _ rfl, hc3 7 _ rfl, hc3 8 _ rfl, hc3 9 _ rfl⟩
 clear hc hm hu ho hp hdg hnum hnn hab his hmn hcn hbm hbc hc2 HX;go_enter Tryz.func87, Tryz.ntmps87;go_upto_region 1 with fail;generalize w.alloc (.cells #[.string p.pan, .int .i64 p.mcc, .int .i64 p.am, .int .i64 p.cur] 35) = W at *;generalize w.heap.size = X at *;obtain ⟨x0, x1, x2, x3, v2, v3, v4, v5, v6, v7, v8, v9⟩ := HCE.o W (Fr.refl _ _)
 have hdi : (r.digits : Int) <= (p.pan.size : Int) := by omega
 go_quiet ((go_at_call 133; exact Calls.quiet_of_same (HNU.o _)))
 have HF1 : Hid (F0 W (W.drewN nq)) := ⟨rfl, rfl, rfl, Nat.le_refl _, fun _ _ _ => rfl⟩;clear x0 x1 x2 x3 v2 v3 v4 v5 v6 v7 v8 v9;obtain ⟨x0, x1, x2, x3, v2, v3, v4, v5, v6, v7, v8, v9⟩ := HCE.o _ HF1.o;generalize W.drewN nq = W1 at *;go_upto_region 2 with fail
 go_quiet ((go_at_call 139; exact Calls.quiet_of_same (HIM.o _ ((HF.o.trans HF1.o).trans ⟨rfl, rfl, rfl, Nat.le_refl _, fun _ _ _ => rfl⟩))))
 have HF2 : Hid (F0 W (W1.drewN nq)) := HF1.o.trans ⟨rfl, rfl, rfl, Nat.le_refl _, fun _ _ _ => rfl⟩;clear x0 x1 x2 x3 v2 v3 v4 v5 v6 v7 v8 v9 HF1;obtain ⟨x0, x1, x2, x3, v2, v3, v4, v5, v6, v7, v8, v9⟩ := HCE.o _ HF2.o;generalize W1.drewN nq = W2 at *;go_upto_region 3 with fail
 go_quiet ((go_at_call 139; exact Calls.quiet_of_same (HIC.o _ ((HF.o.trans HF2.o).trans ⟨rfl, rfl, rfl, Nat.le_refl _, fun _ _ _ => rfl⟩))))
 have HF3 : Hid (F0 W (W2.drewN nq)) := HF2.o.trans ⟨rfl, rfl, rfl, Nat.le_refl _, fun _ _ _ => rfl⟩;clear x0 x1 x2 x3 v2 v3 v4 v5 v6 v7 v8 v9 HF2;obtain ⟨x0, x1, x2, x3, v2, v3, v4, v5, v6, v7, v8, v9⟩ := HCE.o _ HF3.o;generalize W2.drewN nq = W3 at *;clear HCE HIM HIC HNU;go_upto_region 4 with fail;by_cases a1 : (r.lo : Int) <= (nn : Int)
 ·by_cases a2 : (nn : Int) <= (r.hi : Int)
  ·cases bm with
   | true =>
    cases bc with
    | true =>
     cases isS with
     | false =>
      go_quiet (fail)
      go_wp2_with fail;go_ret;exact ⟨congrArg (fun b => Ending.returned (Value.bool b)) (show true = meetB r p from by rw [HB.o]; simp; try omega), (HF.o.trans HF3.o).trans ⟨rfl, rfl, rfl, Nat.le_refl _, fun _ _ _ => rfl⟩⟩
     | true =>
      by_cases q1 : (ab.1 : Int) <= p.am
      ·by_cases q2 : p.am <= (ab.2 : Int)
       ·skip
        go_quiet (fail)
        go_wp2_with fail;go_ret;exact ⟨congrArg (fun b => Ending.returned (Value.bool b)) (show true = meetB r p from by rw [HB.o]; simp; try omega), (HF.o.trans HF3.o).trans ⟨rfl, rfl, rfl, Nat.le_refl _, fun _ _ _ => rfl⟩⟩
       ·skip
        go_quiet (fail)
        go_wp2_with fail;go_ret;exact ⟨congrArg (fun b => Ending.returned (Value.bool b)) (show false = meetB r p from by rw [HB.o]; simp; try omega), (HF.o.trans HF3.o).trans ⟨rfl, rfl, rfl, Nat.le_refl _, fun _ _ _ => rfl⟩⟩
      ·skip
       go_quiet (fail)
       go_wp2_with fail;go_ret;exact ⟨congrArg (fun b => Ending.returned (Value.bool b)) (show false = meetB r p from by rw [HB.o]; simp; try omega), (HF.o.trans HF3.o).trans ⟨rfl, rfl, rfl, Nat.le_refl _, fun _ _ _ => rfl⟩⟩
    | false =>
     by_cases zcn : cn = 0
     ·subst zcn
      cases isS with
      | false =>
       go_quiet (fail)
       go_wp2_with fail;go_ret;exact ⟨congrArg (fun b => Ending.returned (Value.bool b)) (show true = meetB r p from by rw [HB.o]; simp; try omega), (HF.o.trans HF3.o).trans ⟨rfl, rfl, rfl, Nat.le_refl _, fun _ _ _ => rfl⟩⟩
      | true =>
       by_cases q1 : (ab.1 : Int) <= p.am
       ·by_cases q2 : p.am <= (ab.2 : Int)
        ·skip
         go_quiet (fail)
         go_wp2_with fail;go_ret;exact ⟨congrArg (fun b => Ending.returned (Value.bool b)) (show true = meetB r p from by rw [HB.o]; simp; try omega), (HF.o.trans HF3.o).trans ⟨rfl, rfl, rfl, Nat.le_refl _, fun _ _ _ => rfl⟩⟩
        ·skip
         go_quiet (fail)
         go_wp2_with fail;go_ret;exact ⟨congrArg (fun b => Ending.returned (Value.bool b)) (show false = meetB r p from by rw [HB.o]; simp; try omega), (HF.o.trans HF3.o).trans ⟨rfl, rfl, rfl, Nat.le_refl _, fun _ _ _ => rfl⟩⟩
       ·skip
        go_quiet (fail)
        go_wp2_with fail;go_ret;exact ⟨congrArg (fun b => Ending.returned (Value.bool b)) (show false = meetB r p from by rw [HB.o]; simp; try omega), (HF.o.trans HF3.o).trans ⟨rfl, rfl, rfl, Nat.le_refl _, fun _ _ _ => rfl⟩⟩
     ·have zcn' : ((cn : Int) == 0) = false := by simp; omega
      go_quiet (fail)
      go_wp2_with fail;go_ret;exact ⟨congrArg (fun b => Ending.returned (Value.bool b)) (show false = meetB r p from by rw [HB.o]; simp; try omega), (HF.o.trans HF3.o).trans ⟨rfl, rfl, rfl, Nat.le_refl _, fun _ _ _ => rfl⟩⟩
   | false =>
    by_cases zmn : mn = 0
    ·subst zmn
     cases bc with
     | true =>
      cases isS with
      | false =>
       go_quiet (fail)
       go_wp2_with fail;go_ret;exact ⟨congrArg (fun b => Ending.returned (Value.bool b)) (show true = meetB r p from by rw [HB.o]; simp; try omega), (HF.o.trans HF3.o).trans ⟨rfl, rfl, rfl, Nat.le_refl _, fun _ _ _ => rfl⟩⟩
      | true =>
       by_cases q1 : (ab.1 : Int) <= p.am
       ·by_cases q2 : p.am <= (ab.2 : Int)
        ·skip
         go_quiet (fail)
         go_wp2_with fail;go_ret;exact ⟨congrArg (fun b => Ending.returned (Value.bool b)) (show true = meetB r p from by rw [HB.o]; simp; try omega), (HF.o.trans HF3.o).trans ⟨rfl, rfl, rfl, Nat.le_refl _, fun _ _ _ => rfl⟩⟩
        ·skip
         go_quiet (fail)
         go_wp2_with fail;go_ret;exact ⟨congrArg (fun b => Ending.returned (Value.bool b)) (show false = meetB r p from by rw [HB.o]; simp; try omega), (HF.o.trans HF3.o).trans ⟨rfl, rfl, rfl, Nat.le_refl _, fun _ _ _ => rfl⟩⟩
       ·skip
        go_quiet (fail)
        go_wp2_with fail;go_ret;exact ⟨congrArg (fun b => Ending.returned (Value.bool b)) (show false = meetB r p from by rw [HB.o]; simp; try omega), (HF.o.trans HF3.o).trans ⟨rfl, rfl, rfl, Nat.le_refl _, fun _ _ _ => rfl⟩⟩
     | false =>
      by_cases zcn : cn = 0
      ·subst zcn
       cases isS with
       | false =>
        go_quiet (fail)
        go_wp2_with fail;go_ret;exact ⟨congrArg (fun b => Ending.returned (Value.bool b)) (show true = meetB r p from by rw [HB.o]; simp; try omega), (HF.o.trans HF3.o).trans ⟨rfl, rfl, rfl, Nat.le_refl _, fun _ _ _ => rfl⟩⟩
       | true =>
        by_cases q1 : (ab.1 : Int) <= p.am
        ·by_cases q2 : p.am <= (ab.2 : Int)
         ·skip
          go_quiet (fail)
          go_wp2_with fail;go_ret;exact ⟨congrArg (fun b => Ending.returned (Value.bool b)) (show true = meetB r p from by rw [HB.o]; simp; try omega), (HF.o.trans HF3.o).trans ⟨rfl, rfl, rfl, Nat.le_refl _, fun _ _ _ => rfl⟩⟩
         ·skip
          go_quiet (fail)
          go_wp2_with fail;go_ret;exact ⟨congrArg (fun b => Ending.returned (Value.bool b)) (show false = meetB r p from by rw [HB.o]; simp; try omega), (HF.o.trans HF3.o).trans ⟨rfl, rfl, rfl, Nat.le_refl _, fun _ _ _ => rfl⟩⟩
        ·skip
         go_quiet (fail)
         go_wp2_with fail;go_ret;exact ⟨congrArg (fun b => Ending.returned (Value.bool b)) (show false = meetB r p from by rw [HB.o]; simp; try omega), (HF.o.trans HF3.o).trans ⟨rfl, rfl, rfl, Nat.le_refl _, fun _ _ _ => rfl⟩⟩
      ·have zcn' : ((cn : Int) == 0) = false := by simp; omega
       go_quiet (fail)
       go_wp2_with fail;go_ret;exact ⟨congrArg (fun b => Ending.returned (Value.bool b)) (show false = meetB r p from by rw [HB.o]; simp; try omega), (HF.o.trans HF3.o).trans ⟨rfl, rfl, rfl, Nat.le_refl _, fun _ _ _ => rfl⟩⟩
    ·have zmn' : ((mn : Int) == 0) = false := by simp; omega
     go_quiet (fail)
     go_wp2_with fail;go_ret;exact ⟨congrArg (fun b => Ending.returned (Value.bool b)) (show false = meetB r p from by rw [HB.o]; simp; try omega), (HF.o.trans HF3.o).trans ⟨rfl, rfl, rfl, Nat.le_refl _, fun _ _ _ => rfl⟩⟩
  ·skip
   go_quiet (fail)
   go_wp2_with fail;go_ret;exact ⟨congrArg (fun b => Ending.returned (Value.bool b)) (show false = meetB r p from by rw [HB.o]; simp; try omega), (HF.o.trans HF3.o).trans ⟨rfl, rfl, rfl, Nat.le_refl _, fun _ _ _ => rfl⟩⟩
 ·skip
  go_quiet (fail)
  go_wp2_with fail;go_ret;exact ⟨congrArg (fun b => Ending.returned (Value.bool b)) (show false = meetB r p from by rw [HB.o]; simp; try omega), (HF.o.trans HF3.o).trans ⟨rfl, rfl, rfl, Nat.le_refl _, fun _ _ _ => rfl⟩⟩
