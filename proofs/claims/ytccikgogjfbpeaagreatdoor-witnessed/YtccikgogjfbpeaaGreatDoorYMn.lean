/- Regions: Overlaps. A table's overlaps. -/
import Derived.Test.YtccikgogjfbpeaaGreatDoorYHa
import Derived.Test.YtccikgogjfbpeaaGreatDoorYMm
import Derived.Test.YtccikgogjfbpeaaGreatDoorYMk
namespace Go.Proofs.YtccikgogjfbpeaaGreatDoor
open Go.RowKit
abbrev OvM := ByteArray × ByteArray × PayM
def ov1 (rls : List RuleM) (i j : Nat) : List OvM := match rls[i]?, rls[j]? with
 | some r, some q => (match comY (arR r) (arR q) with | some y => [(r.name, q.name, tolP y.1)] | none => [])
 | _, _ => []
def ovJ (rls : List RuleM) (i : Nat) : Nat → List OvM
 | 0 => []
 | k + 1 => ovJ rls i k ++ ov1 rls i (i + 1 + k)
def ovI (rls : List RuleM) : Nat → List OvM
 | 0 => []
 | k + 1 => ovI rls k ++ ovJ rls k (rls.length - (k + 1))
def ovsN (rls : List RuleM) : List OvM := ovI rls rls.length
def ovRow (o : OvM) : List Value := [.string o.1, .string o.2.1, .string o.2.2.pan, .int .i64 o.2.2.mcc, .int .i64 o.2.2.am, .int .i64 o.2.2.cur]
def ovRows (l : List OvM) : List Value := l.flatMap ovRow
theorem ovRows_snoc (l : List OvM) (o : OvM) : ovRows (l ++ [o]) = ovRows l ++ ovRow o := by simp [ovRows]
theorem ovJ_len (rls : List RuleM) (i : Nat) : ∀ k, (ovJ rls i k).length ≤ k
 | 0 => Nat.le_refl _
 | k + 1 => by
  have := ovJ_len rls i k
  unfold ovJ
  rw [List.length_append]
  have : (ov1 rls i (i + 1 + k)).length ≤ 1 := by
   unfold ov1
   split
   ·split <;> simp
   ·simp
  omega
theorem ovI_len (rls : List RuleM) : ∀ k, (ovI rls k).length ≤ k * rls.length
 | 0 => by simp [ovI]
 | k + 1 => by
  have h1 := ovI_len rls k
  have h2 := ovJ_len rls k (rls.length - (k + 1))
  unfold ovI
  rw [List.length_append, Nat.add_mul, Nat.one_mul]
  omega
theorem com_p0 {n : Nat} {r : RuleM} (h : RlOk n r) {A2 : ArM} (ha : ArOk r) {y : PaM × Nat} (hy : comY (arR r) A2 = some y) : y.1.p0 < 1000000 := by
 have h1 := (comY_some (fun i s hs => (arR_at h ha i s hs).1) hy).1
 have h2 : hasM (arR r) 0 y.1.p0 = true := by
  have : (hasM (arR r) 0 y.1.p0 && (hasM (arR r) 1 y.1.p1 && (hasM (arR r) 2 y.1.p2 && (hasM (arR r) 3 y.1.p3 && true)))) = true := h1
  rw [Bool.and_eq_true] at this
  exact this.1
 have h3 : inSp (cardsM r.digits r.lo r.hi) y.1.p0 = true := by
  have : ([cardsM r.digits r.lo r.hi].any fun s => inSp s y.1.p0) = true := h2
  simpa using this
 obtain ⟨g1, g2, g3⟩ := h.bn
 unfold inSp cardsM at h3
 simp only [Bool.and_eq_true, decide_eq_true_eq] at h3
 have hp : 10 ^ r.digits * 10 ^ (6 - r.digits) = 1000000 := by rw [← Nat.pow_add, show r.digits + (6 - r.digits) = 6 from by omega]
 have e2 := Nat.mul_le_mul_right (10 ^ (6 - r.digits)) (show r.hi + 1 ≤ 10 ^ r.digits from g2)
 have hq : 0 < (r.hi + 1) * 10 ^ (6 - r.digits) := Nat.mul_pos (by omega) (Nat.pow_pos (by decide))
 omega
theorem Tryz.infoOver : (Tryz.prog.info? 44).map (fun i => (i.zero, i.size, i.bytes)) = some (some (.agg #[.string ByteArray.empty, .string ByteArray.empty, .string ByteArray.empty, .int .i64 0, .int .i64 0, .int .i64 0]), 6, 72) := by kernel_rfl
theorem own_box {w : World} {base : Nat} {e t : TypeId} {size n Q : Nat} {v : Value} {xs : List Value} {cs : Array Value} (h : w.ownsRow base e size v n xs) (hb : w.heap[Q]? = some (.cells cs t)) (hne : e ≠ t) : ¬ v.ownBlock = some Q := by
 intro he
 rcases h.2 with ⟨rfl, _⟩ | ⟨g, cap, cur, rfl, _, hg, _⟩
 ·cases he
 ·have : g = Q := by simpa [Value.ownBlock] using he
  subst this
  rw [hg] at hb
  injection hb with hb
  injection hb with _ hb _
  exact hne hb
set_option maxRecDepth 100000 in
set_option maxHeartbeats 8000000 in
theorem rOverlaps_any (w : World) (B : Nat) (va : Option Addr) (c N : Nat) (rls : List RuleM) (nr : Nat) (hB : w.cell? ⟨B, 1, none⟩ = some (.slice va N c)) (h : RuL w va rls) (hN : rls.length = N) (h8 : N ≤ 8) (hNc : N ≤ c) (hok : ∀ r, r ∈ rls → RlOk nr r ∧ ArOk r) (ht : Tab w) :
  Calls Tryz.prog 39 #[.pointer (some ⟨B, 0, none⟩)] w fun e w' => (∃ v, e = .returned v ∧ w'.ownsRow w.heap.size 44 6 v (ovsN rls).length (ovRows (ovsN rls))) ∧ Fr (fun _ => False) w w' := by
 obtain ⟨ij, hj', hy0, hy1, hy2⟩ := info_parts Tryz.infoOver
 have HR := hid h
 have HN := hid hN
 have HOk := hid hok
 have HT := hid ht
 have HBb := hid hB
 clear h hN hok ht
 go_enter Tryz.func39, Tryz.ntmps39
 go_wp2_with fail
 clear hB
 go_loopg [3, 15] N (fun m ov iv wr => ∃ k, k ≤ N ∧ m = N - k ∧ iv = .int .i64 (k : Nat) ∧ Hid (wr.ownsRow w.heap.size 44 6 ov (ovI rls k).length (ovRows (ovI rls k))) ∧ Hid (Fr (fun _ => False) w wr))
 case atStart => exact ⟨0, by omega, rfl, rfl, World.ownsRow_nil _ _ _ _, Fr.refl _ _⟩
 case round =>
  obtain ⟨i, hi, rfl, rfl, HO, HFr⟩ := hrel
  by_cases hlt : i < N
  ·have hki : (i : Int) < (N : Int) := by omega
   have hki1 : (i : Int) + 1 ≤ (N : Int) := by omega
   obtain ⟨r, hr⟩ : ∃ r, rls[i]? = some r := ⟨_, List.getElem?_eq_getElem (show i < rls.length by have := HN.out; omega)⟩
   obtain ⟨g, ma, mc, ca, cc, pa, pc, ea, hc, h1, h2⟩ := HR.out i r hr
   subst ea
   replace hc : ∀ o v, [Value.string r.name, .int .i64 r.rank, .int .i64 r.digits, .int .i64 r.lo, .int .i64 r.hi, .slice ma r.mcc.length mc, .bool r.am.isSome, .int .i64 (r.am.getD (0, 0)).1, .int .i64 (r.am.getD (0, 0)).2, .slice ca r.cur.length cc, .bool r.decline, .bool r.cheapest, .slice pa r.routes.length pc, .int .i64 r.ahead][o]? = some v → wr.cell? ⟨g, i * 14 + o, none⟩ = some v := fun o v ho => (HFr.out.cell (p := ⟨g, i * 14 + o, none⟩) (World.block_lt_of_cell? w _ (hc o v ho)) (by simp)).trans (hc o v ho)
   have v0 := hc 0 _ rfl
   have v1 := hc 1 _ rfl
   have v2 := hc 2 _ rfl
   have v3 := hc 3 _ rfl
   have v4 := hc 4 _ rfl
   have v5 := hc 5 _ rfl
   have v6 := hc 6 _ rfl
   have v7 := hc 7 _ rfl
   have v8 := hc 8 _ rfl
   have v9 := hc 9 _ rfl
   have v10 := hc 10 _ rfl
   have v11 := hc 11 _ rfl
   have v12 := hc 12 _ rfl
   have v13 := hc 13 _ rfl
   rw [Nat.add_zero] at v0
   have HI1 := hid h1
   have HI2 := hid h2
   have HRr := hid hr
   have HHr := hid (HOk.out r (List.mem_of_getElem? hr))
   have bB : wr.cell? ⟨B, 1, none⟩ = some (.slice (some ⟨g, 0, none⟩) N c) := (HFr.out.cell (p := ⟨B, 1, none⟩) (World.block_lt_of_cell? w _ HBb.out) (by simp)).trans HBb.out
   have HBx : Hid ((wr.alloc (.cells #[.string r.name, .int .i64 r.rank, .int .i64 r.digits, .int .i64 r.lo, .int .i64 r.hi, .slice ma r.mcc.length mc, .bool r.am.isSome, .int .i64 (r.am.getD (0, 0)).1, .int .i64 (r.am.getD (0, 0)).2, .slice ca r.cur.length cc, .bool r.decline, .bool r.cheapest, .slice pa r.routes.length pc, .int .i64 r.ahead] 120)).heap[wr.heap.size]? = some (.cells #[.string r.name, .int .i64 r.rank, .int .i64 r.digits, .int .i64 r.lo, .int .i64 r.hi, .slice ma r.mcc.length mc, .bool r.am.isSome, .int .i64 (r.am.getD (0, 0)).1, .int .i64 (r.am.getD (0, 0)).2, .slice ca r.cur.length cc, .bool r.decline, .bool r.cheapest, .slice pa r.routes.length pc, .int .i64 r.ahead] 120)) := heap_alloc_new wr _
   have HF1 : Hid (Fr (fun _ => False) wr (wr.alloc (.cells #[.string r.name, .int .i64 r.rank, .int .i64 r.digits, .int .i64 r.lo, .int .i64 r.hi, .slice ma r.mcc.length mc, .bool r.am.isSome, .int .i64 (r.am.getD (0, 0)).1, .int .i64 (r.am.getD (0, 0)).2, .slice ca r.cur.length cc, .bool r.decline, .bool r.cheapest, .slice pa r.routes.length pc, .int .i64 r.ahead] 120))) := (Fr.refl _ _).alloc _
   clear hc h1 h2 hr
   go_upto_region 5 with fail
   generalize wr.alloc (.cells #[.string r.name, .int .i64 r.rank, .int .i64 r.digits, .int .i64 r.lo, .int .i64 r.hi, .slice ma r.mcc.length mc, .bool r.am.isSome, .int .i64 (r.am.getD (0, 0)).1, .int .i64 (r.am.getD (0, 0)).2, .slice ca r.cur.length cc, .bool r.decline, .bool r.cheapest, .slice pa r.routes.length pc, .int .i64 r.ahead] 120) = w1 at *
   obtain ⟨Q, hQ⟩ : ∃ Q, wr.heap.size = Q := ⟨_, rfl⟩
   rw [hQ] at HBx
   rw [hQ]
   have b1 := (HF1.out.cell (p := ⟨B, 1, none⟩) (World.block_lt_of_cell? wr _ bB) (by simp)).trans bB
   obtain ⟨aa, haa⟩ : ∃ aa : Option Addr, (if c = i + 1 then some ⟨g, 0, none⟩ else some ⟨g, (i + 1) * 14, none⟩) = aa := ⟨_, rfl⟩
   clear v0 v1 v2 v3 v4 v5 v6 v7 v8 v9 v10 v11 v12 v13 hQ bB
   go_wp2_with fail
   obtain ⟨M, hM⟩ : ∃ M, N - (i + 1) = M := ⟨_, rfl⟩
   have HM := hid hM
   have HAA := hid haa
   rw [hM]
   have HO1 : Hid (w1.ownsRow w.heap.size 44 6 u3 (ovI rls i ++ ovJ rls i 0).length (ovRows (ovI rls i ++ ovJ rls i 0))) := by
    show World.ownsRow _ _ _ _ _ _ _
    rw [show ovI rls i ++ ovJ rls i 0 = ovI rls i from by simp [ovJ]]
    exact ownsRow_fr HO.out HF1.out (by simp)
   have HW1 := hid (HFr.out.trans HF1.out)
   clear hM haa b1
   go_loopg [3, 28] M (fun mm ov jv wx => ∃ j, j ≤ M ∧ mm = M - j ∧ jv = .int .i64 (j : Nat) ∧ Hid (wx.ownsRow w.heap.size 44 6 ov (ovI rls i ++ ovJ rls i j).length (ovRows (ovI rls i ++ ovJ rls i j))) ∧ Hid (wx.heap[Q]? = some (.cells #[.string r.name, .int .i64 r.rank, .int .i64 r.digits, .int .i64 r.lo, .int .i64 r.hi, .slice ma r.mcc.length mc, .bool r.am.isSome, .int .i64 (r.am.getD (0, 0)).1, .int .i64 (r.am.getD (0, 0)).2, .slice ca r.cur.length cc, .bool r.decline, .bool r.cheapest, .slice pa r.routes.length pc, .int .i64 r.ahead] 120)) ∧ Hid (Fr (fun _ => False) w wx))
   case atStart => exact ⟨0, by omega, rfl, rfl, HO1, HBx, HW1⟩
   case round =>
    obtain ⟨j, hj, rfl, rfl, HOj, HBj, HFj⟩ := hrel
    generalize wr = wj at *
    obtain ⟨oa, oc, ho⟩ := ownsRow_len HOj.out
    subst ho
    obtain ⟨nn, hnn⟩ : ∃ nn, (ovI rls i ++ ovJ rls i j).length = nn := ⟨_, rfl⟩
    have hnb : nn ≤ 100 := by
     rw [← hnn, List.length_append]
     have e1 := ovI_len rls i
     have e2 := ovJ_len rls i j
     have e3 := Nat.mul_le_mul (show i ≤ 8 by omega) (show rls.length ≤ 8 by have := HN.out; omega)
     have e4 := HM.out
     omega
    have HNN := hid hnn
    rw [hnn] at HOj
    rw [hnn]
    clear hnn
    by_cases hjl : j < M
    ·have hji : (j : Int) < (M : Int) := by omega
     have hij : i + 1 + j < N := by have := HM.out; omega
     have eaa : aa = some ⟨g, (i + 1) * 14, none⟩ := by rw [← HAA.out, if_neg (by omega)]
     subst eaa
     obtain ⟨q, hq⟩ : ∃ q, rls[i + 1 + j]? = some q := ⟨_, List.getElem?_eq_getElem (show i + 1 + j < rls.length by have := HN.out; omega)⟩
     obtain ⟨g', ma2, mc2, ca2, cc2, pa2, pc2, ea2, hcc, h3, h4⟩ := (HR.out.fr HFj.out) (i + 1 + j) q hq
     injection ea2 with ea2
     injection ea2 with ea2 _ _
     subst ea2
     have hc2 : ∀ o v, [Value.string q.name, .int .i64 q.rank, .int .i64 q.digits, .int .i64 q.lo, .int .i64 q.hi, .slice ma2 q.mcc.length mc2, .bool q.am.isSome, .int .i64 (q.am.getD (0, 0)).1, .int .i64 (q.am.getD (0, 0)).2, .slice ca2 q.cur.length cc2, .bool q.decline, .bool q.cheapest, .slice pa2 q.routes.length pc2, .int .i64 q.ahead][o]? = some v → wj.cell? ⟨g, (i + 1) * 14 + j * 14 + o, none⟩ = some v := fun o v ho => by
      have := hcc o v ho
      rwa [show (i + 1 + j) * 14 + o = (i + 1) * 14 + j * 14 + o from by omega] at this
     have x0 := hc2 0 _ rfl
     have x1 := hc2 1 _ rfl
     have x2 := hc2 2 _ rfl
     have x3 := hc2 3 _ rfl
     have x4 := hc2 4 _ rfl
     have x5 := hc2 5 _ rfl
     have x6 := hc2 6 _ rfl
     have x7 := hc2 7 _ rfl
     have x8 := hc2 8 _ rfl
     have x9 := hc2 9 _ rfl
     have x10 := hc2 10 _ rfl
     have x11 := hc2 11 _ rfl
     have x12 := hc2 12 _ rfl
     have x13 := hc2 13 _ rfl
     rw [Nat.add_zero] at x0
     have HJ1 := hid h3
     have HJ2 := hid h4
     have HHq := hid (HOk.out q (List.mem_of_getElem? hq))
     have HSn : Hid (ovJ rls i (j + 1) = ovJ rls i j ++ (match comY (arR r) (arR q) with | some y => [(r.name, q.name, tolP y.1)] | none => [])) := by
      show _ = _
      conv => lhs; unfold ovJ; unfold ov1; rw [HRr.out, hq]
     have HBy : Hid ((wj.alloc (.cells #[.string q.name, .int .i64 q.rank, .int .i64 q.digits, .int .i64 q.lo, .int .i64 q.hi, .slice ma2 q.mcc.length mc2, .bool q.am.isSome, .int .i64 (q.am.getD (0, 0)).1, .int .i64 (q.am.getD (0, 0)).2, .slice ca2 q.cur.length cc2, .bool q.decline, .bool q.cheapest, .slice pa2 q.routes.length pc2, .int .i64 q.ahead] 120)).heap[wj.heap.size]? = some (.cells #[.string q.name, .int .i64 q.rank, .int .i64 q.digits, .int .i64 q.lo, .int .i64 q.hi, .slice ma2 q.mcc.length mc2, .bool q.am.isSome, .int .i64 (q.am.getD (0, 0)).1, .int .i64 (q.am.getD (0, 0)).2, .slice ca2 q.cur.length cc2, .bool q.decline, .bool q.cheapest, .slice pa2 q.routes.length pc2, .int .i64 q.ahead] 120)) := heap_alloc_new wj _
     have HF2 : Hid (Fr (fun _ => False) wj (wj.alloc (.cells #[.string q.name, .int .i64 q.rank, .int .i64 q.digits, .int .i64 q.lo, .int .i64 q.hi, .slice ma2 q.mcc.length mc2, .bool q.am.isSome, .int .i64 (q.am.getD (0, 0)).1, .int .i64 (q.am.getD (0, 0)).2, .slice ca2 q.cur.length cc2, .bool q.decline, .bool q.cheapest, .slice pa2 q.routes.length pc2, .int .i64 q.ahead] 120))) := (Fr.refl _ _).alloc _
     clear hcc hc2 h3 h4 hq
     go_upto_region 8 with fail
     generalize wj.alloc (.cells #[.string q.name, .int .i64 q.rank, .int .i64 q.digits, .int .i64 q.lo, .int .i64 q.hi, .slice ma2 q.mcc.length mc2, .bool q.am.isSome, .int .i64 (q.am.getD (0, 0)).1, .int .i64 (q.am.getD (0, 0)).2, .slice ca2 q.cur.length cc2, .bool q.decline, .bool q.cheapest, .slice pa2 q.routes.length pc2, .int .i64 q.ahead] 120) = w2 at *
     obtain ⟨Q2, hQ2⟩ : ∃ Q2, wj.heap.size = Q2 := ⟨_, rfl⟩
     rw [hQ2] at HBy
     rw [hQ2]
     clear x0 x1 x2 x3 x4 x5 x6 x7 x8 x9 x10 x11 x12 x13 hQ2
     have HBx2 := hid (HF2.out.whole HBj.out (by simp))
     obtain ⟨c0, c1, c2, c3, c4, c5, c6, c7, c8, c9, c10, c11, c12, c13⟩ := cells14 HBx2.out
     obtain ⟨d0, d1, d2, d3, d4, d5, d6, d7, d8, d9, d10, d11, d12, d13⟩ := cells14 HBy.out
     have HCm := hid (common_any w2 r q nr ma mc ca cc pa pc ma2 mc2 ca2 cc2 pa2 pc2 HHr.out HHq.out (HI1.out.fr (HFj.out.trans HF2.out) (by simp)) (HI2.out.fr (HFj.out.trans HF2.out) (by simp)) (HJ1.out.fr HF2.out (by simp)) (HJ2.out.fr HF2.out (by simp)))
     have HTa := hid (HT.out.fr (HFj.out.trans HF2.out))
     have HF3 := hid (HFj.out.trans HF2.out)
     have HO3 := hid (ownsRow_fr HOj.out HF2.out (by simp))
     clear HOj
     cases hcm : comY (arR r) (arR q) with
     | none =>
      rw [hcm] at HCm HSn
      unfold comV at HCm
      unfold paV at HCm
      go_wp2_with (go_at_call 67; refine HCm.out.mono ?_)
      rintro e w3 rfl hf3
      have HF4 : Hid (Fr (fun _ => False) w (w3.alloc (.cells #[.int .i64 0, .int .i64 0, .int .i64 0, .int .i64 0] 139))) := (HF3.out.trans hf3).alloc _
      have HB4 : Hid ((w3.alloc (.cells #[.int .i64 0, .int .i64 0, .int .i64 0, .int .i64 0] 139)).heap[Q]? = some (.cells #[.string r.name, .int .i64 r.rank, .int .i64 r.digits, .int .i64 r.lo, .int .i64 r.hi, .slice ma r.mcc.length mc, .bool r.am.isSome, .int .i64 (r.am.getD (0, 0)).1, .int .i64 (r.am.getD (0, 0)).2, .slice ca r.cur.length cc, .bool r.decline, .bool r.cheapest, .slice pa r.routes.length pc, .int .i64 r.ahead] 120)) := (hf3.alloc (.cells #[.int .i64 0, .int .i64 0, .int .i64 0, .int .i64 0] 139)).whole HBx2.out (by simp)
      have HO4 : Hid ((w3.alloc (.cells #[.int .i64 0, .int .i64 0, .int .i64 0, .int .i64 0] 139)).ownsRow w.heap.size 44 6 (.slice oa nn oc) (ovI rls i ++ ovJ rls i (j + 1)).length (ovRows (ovI rls i ++ ovJ rls i (j + 1)))) := by
       show World.ownsRow _ _ _ _ _ _ _
       rw [HSn.out, List.append_nil, HNN.out]
       exact (ownsRow_fr HO3.out hf3 (by simp)).alloc _
      clear hf3 HCm c0 c1 c2 c3 c4 c5 c6 c7 c8 c9 c10 c11 c12 c13 d0 d1 d2 d3 d4 d5 d6 d7 d8 d9 d10 d11 d12 d13 hcm
      go_wp2_with fail
      go_roundg (M - (j + 1))
      case measure => omega
      case rel => exact ⟨j + 1, by omega, rfl, by go_num, HO4, HB4, HF4⟩
     | some y =>
      rw [hcm] at HCm HSn
      unfold comV at HCm
      unfold paV at HCm
      have HPy := hid (com_p0 HHr.out.1 HHr.out.2 hcm)
      clear hcm
      go_wp2_with (go_at_call 67; refine HCm.out.mono ?_)
      rintro e w3 rfl hf3
      have HBp : Hid ((w3.alloc (.cells #[.int .i64 (y.1.p0 : Nat), .int .i64 (y.1.p1 : Nat), .int .i64 (y.1.p2 : Nat), .int .i64 (y.1.p3 : Nat)] 139)).heap[w3.heap.size]? = some (.cells #[.int .i64 (y.1.p0 : Nat), .int .i64 (y.1.p1 : Nat), .int .i64 (y.1.p2 : Nat), .int .i64 (y.1.p3 : Nat)] 139)) := heap_alloc_new w3 _
      have HF4 : Hid (Fr (fun _ => False) w2 (w3.alloc (.cells #[.int .i64 (y.1.p0 : Nat), .int .i64 (y.1.p1 : Nat), .int .i64 (y.1.p2 : Nat), .int .i64 (y.1.p3 : Nat)] 139))) := hf3.alloc _
      clear hf3 HCm c0 c1 c2 c3 c4 c5 c6 c7 c8 c9 c10 c11 c12 c13 d0 d1 d2 d3 d4 d5 d6 d7 d8 d9 d10 d11 d12 d13
      go_upto_region 9 with fail
      generalize w3.alloc (.cells #[.int .i64 (y.1.p0 : Nat), .int .i64 (y.1.p1 : Nat), .int .i64 (y.1.p2 : Nat), .int .i64 (y.1.p3 : Nat)] 139) = w4 at *
      obtain ⟨Q3, hQ3⟩ : ∃ Q3, w3.heap.size = Q3 := ⟨_, rfl⟩
      rw [hQ3] at HBp
      rw [hQ3]
      clear hQ3
      have HBx4 := hid (HF4.out.whole HBx2.out (by simp))
      have HBy4 := hid (HF4.out.whole HBy.out (by simp))
      obtain ⟨c0, c1, c2, c3, c4, c5, c6, c7, c8, c9, c10, c11, c12, c13⟩ := cells14 HBx4.out
      obtain ⟨d0, d1, d2, d3, d4, d5, d6, d7, d8, d9, d10, d11, d12, d13⟩ := cells14 HBy4.out
      have p0 := block_cell HBp.out 0 _ rfl
      have p1 := block_cell HBp.out 1 _ rfl
      have p2 := block_cell HBp.out 2 _ rfl
      have p3 := block_cell HBp.out 3 _ rfl
      have HOv := hid (overlap_any w4 r q y.1 ma mc ca cc pa pc ma2 mc2 ca2 cc2 pa2 pc2 HHr.out.1.nm HHq.out.1.nm HPy.out (HTa.out.fr HF4.out))
      have HO4 := hid (ownsRow_fr HO3.out HF4.out (by simp))
      have HF5 := hid (HF3.out.trans HF4.out)
      obtain ⟨tp, htp⟩ : ∃ tp, tolP y.1 = tp := ⟨_, rfl⟩
      rw [htp] at HOv HSn
      unfold ovV paV at HOv
      clear htp
      go_wp2_with (go_at_call 68; refine HOv.out.mono ?_)
      rintro e w5 ⟨rfl, hf5⟩
      have HO5 := hid (ownsRow_fr HO4.out hf5 (by simp))
      have HF6 := hid (HF5.out.trans hf5)
      have HWz : Hid (w.heap.size ≤ w5.heap.size) := HF6.out.size
      have HBx5 := hid (hf5.whole HBx4.out (by simp))
      clear hf5 HOv c0 c1 c2 c3 c4 c5 c6 c7 c8 c9 c10 c11 c12 c13 d0 d1 d2 d3 d4 d5 d6 d7 d8 d9 d10 d11 d12 d13 p0 p1 p2 p3 HO4
      go_wp2_with (at_builtin; refine wpList_append_lies _ rfl (.tmp 39) (.tmp 44) 41 rfl w.heap.size 44 ij _ 6 72 Tryz.underlying41 hj' hy0 hy1 hy2 rfl (by decide) (.slice oa nn oc) nn (ovRows (ovI rls i ++ ovJ rls i j)) rfl ?h1 ⟨w5.heap.size, 0, none⟩ 1 1 [.string r.name, .string q.name, .string tp.pan, .int .i64 tp.mcc, .int .i64 tp.am, .int .i64 tp.cur] rfl rfl ?h2 ?h3 (by decide) ?h4 ?h5 ?h6 _ rfl ?h7)
      case h1 => exact HO5.out.alloc _
      case h2 => exact World.news_of_block (heap_alloc_new w5 (.cells #[.string r.name, .string q.name, .string tp.pan, .int .i64 tp.mcc, .int .i64 tp.am, .int .i64 tp.cur] 44))
      case h3 => simp [Value.oneCell']
      case h4 => unfold maxLen; omega
      case h5 => omega
      case h6 => have := HWz.out; simp; omega
      case h7 =>
       intro g2 cap2 w8 hown hgrow hor _
       have HF8 : Hid (Fr (fun _ => False) w w8) := (HF6.out.alloc _).grown hgrow (fun k hk => Or.inr (HO5.out.lt k hk).1)
       have HB8 : Hid (w8.heap[Q]? = some (.cells #[.string r.name, .int .i64 r.rank, .int .i64 r.digits, .int .i64 r.lo, .int .i64 r.hi, .slice ma r.mcc.length mc, .bool r.am.isSome, .int .i64 (r.am.getD (0, 0)).1, .int .i64 (r.am.getD (0, 0)).2, .slice ca r.cur.length cc, .bool r.decline, .bool r.cheapest, .slice pa r.routes.length pc, .int .i64 r.ahead] 120)) := by
        have f : Fr (fun k => (Value.slice oa nn oc).ownBlock = some k) w5 w8 := ((Fr.refl _ _).alloc _).grown hgrow (fun k hk => .inl hk)
        exact f.whole HBx5.out (own_box HO5.out HBx5.out (by decide))
       have HO8 : Hid (w8.ownsRow w.heap.size 44 6 (.slice (some ⟨g2, 0, none⟩) (nn + 1) cap2) (ovI rls i ++ ovJ rls i (j + 1)).length (ovRows (ovI rls i ++ ovJ rls i (j + 1)))) := by
        show World.ownsRow _ _ _ _ _ _ _
        rw [HSn.out, ← List.append_assoc, List.length_append, HNN.out, ovRows_snoc]
        exact hown
       clear hown hgrow hor
       go_wp2_with fail
       go_roundg (M - (j + 1))
       case measure => omega
       case rel => exact ⟨j + 1, by omega, rfl, by go_num, HO8, HB8, HF8⟩
    ·have hji : ¬ (j : Int) < (M : Int) := by omega
     have ej : j = M := by omega
     have HOn : Hid (wj.ownsRow w.heap.size 44 6 (.slice oa nn oc) (ovI rls (i + 1)).length (ovRows (ovI rls (i + 1)))) := by
      show World.ownsRow _ _ _ _ _ _ _
      have e : ovI rls (i + 1) = ovI rls i ++ ovJ rls i j := by
       conv => lhs; unfold ovI
       rw [HN.out, HM.out, ej]
      rw [e, HNN.out]
      exact HOj.out
     have HFn := HFj
     clear ej
     go_wp2_with fail
     go_roundg (N - (i + 1))
     case measure => omega
     case rel => exact ⟨i + 1, by omega, rfl, by go_num, HOn, HFn⟩
  ·have hki : ¬ (i : Int) < (N : Int) := by omega
   have ei : i = N := by omega
   have HEi := hid ei
   clear ei
   go_wp2_with fail
   go_ret
   refine ⟨⟨_, rfl, ?_⟩, HFr.out⟩
   have e := HO.out
   unfold ovsN
   rw [HN.out, ← HEi.out]
   exact e
end Go.Proofs.YtccikgogjfbpeaaGreatDoor

namespace Go.Proofs.YtccikgogjfbpeaaGreatDoor
open Go.RowKit
set_option maxRecDepth 30000 in
set_option maxHeartbeats 400000 in
theorem tOverlaps_any (w : World) (T : Nat) (rts : List RouteM) (R : List RuleM) (h : TqAt w T rts R) (ht : Tab w) :
  Calls Tryz.prog 20 #[.pointer (some ⟨T, 0, none⟩)] w fun e w' => (∃ v, e = .returned v ∧ w'.ownsRow w.heap.size 44 6 v (ovsN R).length (ovRows (ovsN R))) ∧ Fr (fun _ => False) w w' := by
 obtain ⟨_, ⟨Bb, vr, vl, xs, hT, hk⟩, ho, ha⟩ := h
 obtain ⟨va, c, e, hr⟩ := hk.rules
 have hc : R.length ≤ c := by
  have h1 := hk.lo
  rw [e] at h1
  rcases h1.2 with ⟨e1, e2⟩ | ⟨g, cap, cur, e1, _, _, e2, _⟩
  ·injection e1 with _ _ e3
   omega
  ·injection e1 with _ _ e3
   omega
 have h1 := hk.c1
 rw [e] at h1
 have HC := hid (rOverlaps_any w Bb va c R.length R rts.length h1 hr rfl ho.l8 hc (fun r hr => ⟨ho.rl r hr, ha r hr⟩) ht)
 clear hk hr ho ha h1 e ht hc
 go_enter Tryz.func20, Tryz.ntmps20
 go_wp2_with (go_at_call 39; refine HC.out.mono ?_; rintro e w1 ⟨⟨v, rfl, hv⟩, hf⟩; have HV := hid hv; have HF := hid hf; clear hv hf hT)
 go_ret
 exact ⟨⟨v, rfl, HV.out⟩, HF.out⟩
end Go.Proofs.YtccikgogjfbpeaaGreatDoor
