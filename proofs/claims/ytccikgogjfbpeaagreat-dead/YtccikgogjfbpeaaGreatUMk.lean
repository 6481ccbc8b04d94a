/- Regions: Dead. A table, its book, and which of its rules are dead. -/
import Derived.Test.YtccikgogjfbpeaaGreatUHa
import Derived.Test.YtccikgogjfbpeaaGreatUMj
import Derived.Test.YtccikgogjfbpeaaGreatUKb
namespace Go.Proofs.YtccikgogjfbpeaaGreat
open Go.RowKit

/-- Decided by areas alone. -/
def decA (A : ArM) (As : List ArM) : Bool := decB A (As.map fun B => ⟨B, ⟨none, 0⟩, ⟨none, 0⟩, ⟨none, 0⟩, ⟨none, 0⟩⟩)
theorem decA_iff {A : ArM} (hA : ∀ side s, s ∈ A.at side → s.1 ≤ s.2) (As : List ArM) : decA A As = true ↔ ∃ p, allB A 4 p = true ∧ ∀ B, B ∈ As → allB B 4 p = false := by
 unfold decA
 rw [decB_iff hA]
 simp
theorem decB_eq {A : ArM} (hA : ∀ side s, s ∈ A.at side → s.1 ≤ s.2) (es : List ArE) : decB A es = decA A (es.map ArE.A) := by
 rw [Bool.eq_iff_iff, decB_iff hA, decA_iff hA]
 simp
/-- Does the rule at a place decide any payment? -/
def livB (rls : List RuleM) (j : Nat) : Bool := match rls[j]? with
 | some r => decA (arR r) (ahdM rls j rls.length)
 | none => false
def dedL (rls : List RuleM) : Nat → List ByteArray
 | 0 => []
 | k + 1 => dedL rls k ++ (match rls[k]? with | some r => if livB rls k then [] else [r.name] | none => [])
theorem dedL_len (rls : List RuleM) : ∀ k, (dedL rls k).length ≤ k
 | 0 => Nat.le_refl _
 | k + 1 => by
  have := dedL_len rls k
  unfold dedL
  rw [List.length_append]
  split
  ·split <;> simp <;> omega
  ·simp; omega
def nmRow (l : List ByteArray) : List Value := l.map Value.string
set_option maxRecDepth 30000 in
set_option maxHeartbeats 8000000 in
theorem rDead_any (w : World) (B : Nat) (va : Option Addr) (c N : Nat) (rls : List RuleM) (nr : Nat) (hB : w.cell? ⟨B, 1, none⟩ = some (.slice va N c)) (h : RuL w va rls) (hN : rls.length = N) (h8 : N ≤ 8) (hok : ∀ r, r ∈ rls → RlOk nr r ∧ ArOk r) :
  Calls Tryz.prog 24 #[.pointer (some ⟨B, 0, none⟩)] w fun e w' => (∃ v, e = .returned v ∧ w'.ownsRow w.heap.size 9 1 v (dedL rls N).length (nmRow (dedL rls N)) ∧ (dedL rls N = [] → v = .slice none 0 0)) ∧ Fr (fun _ => False) w w' := by
 obtain ⟨ij, hj', hy0, hy1, hy2⟩ := info_parts Tryz.infoStrG
 have HR := hid h
 have HN := hid hN
 have HOk := hid hok
 have HBb := hid hB
 clear h hN hok
 go_enter Tryz.func24, Tryz.ntmps24
 go_wp2_with fail
 clear hB
 go_loopg [3, 11] N (fun m ov iv wr => ∃ k, k ≤ N ∧ m = N - k ∧ iv = .int .i64 (k : Nat) ∧ Hid (wr.ownsRow w.heap.size 9 1 ov (dedL rls k).length (nmRow (dedL rls k))) ∧ Hid (dedL rls k = [] → ov = .slice none 0 0) ∧ Hid (Fr (fun _ => False) w wr))
 case atStart => exact ⟨0, by omega, rfl, rfl, World.ownsRow_nil _ _ _ _, fun _ => rfl, Fr.refl _ _⟩
 case round =>
  obtain ⟨k, hk, rfl, rfl, HO, HZ, HFr⟩ := hrel
  obtain ⟨oa, oc, ho⟩ := ownsRow_len HO.out
  subst ho
  by_cases hlt : k < N
  ·have hki : (k : Int) < (N : Int) := by omega
   obtain ⟨r, hr⟩ : ∃ r, rls[k]? = some r := ⟨_, List.getElem?_eq_getElem (show k < rls.length by have := HN.out; omega)⟩
   obtain ⟨g, ma, mc, ca, cc, pa, pc, ea, hc, h1, h2⟩ := (HR.out.fr HFr.out) k r hr
   subst ea
   have v0 := hc 0 _ rfl
   have v1 := hc 1 _ rfl
   have v2 := hc 2 _ rfl
   have v3 := hc 3 _ rfl
   have v4 := hc 4 _ rfl
   have v5 := hc 5 _ rfl
   have v6 := hc 6 _ rfl
   have v7 := hc 7 _ rfl
   have v8 := hc 8 _ rfl
   have v9 := hc 9 _ rfl
   have v10 := hc 10 _ rfl
   have v11 := hc 11 _ rfl
   have v12 := hc 12 _ rfl
   have v13 := hc 13 _ rfl
   rw [Nat.add_zero] at v0
   have HI1 := hid h1
   have HI2 := hid h2
   have HRr := hid hr
   have HHr := hid (HOk.out r (List.mem_of_getElem? hr))
   have HSn : Hid (dedL rls (k + 1) = dedL rls k ++ (if livB rls k then [] else [r.name])) := by show _ = _; conv => lhs; unfold dedL; rw [hr]
   have HLv : Hid (livB rls k = decA (arR r) (ahdM rls k N)) := by show _ = _; unfold livB; rw [hr, HN.out]
   clear hc h1 h2 hr
   have HBx : Hid ((wr.alloc (.cells #[.string r.name, .int .i64 r.rank, .int .i64 r.digits, .int .i64 r.lo, .int .i64 r.hi, .slice ma r.mcc.length mc, .bool r.am.isSome, .int .i64 (r.am.getD (0, 0)).1, .int .i64 (r.am.getD (0, 0)).2, .slice ca r.cur.length cc, .bool r.decline, .bool r.cheapest, .slice pa r.routes.length pc, .int .i64 r.ahead] 83)).heap[wr.heap.size]? = some (.cells #[.string r.name, .int .i64 r.rank, .int .i64 r.digits, .int .i64 r.lo, .int .i64 r.hi, .slice ma r.mcc.length mc, .bool r.am.isSome, .int .i64 (r.am.getD (0, 0)).1, .int .i64 (r.am.getD (0, 0)).2, .slice ca r.cur.length cc, .bool r.decline, .bool r.cheapest, .slice pa r.routes.length pc, .int .i64 r.ahead] 83)) := heap_alloc_new wr _
   have HF1 : Hid (Fr (fun _ => False) wr (wr.alloc (.cells #[.string r.name, .int .i64 r.rank, .int .i64 r.digits, .int .i64 r.lo, .int .i64 r.hi, .slice ma r.mcc.length mc, .bool r.am.isSome, .int .i64 (r.am.getD (0, 0)).1, .int .i64 (r.am.getD (0, 0)).2, .slice ca r.cur.length cc, .bool r.decline, .bool r.cheapest, .slice pa r.routes.length pc, .int .i64 r.ahead] 83))) := (Fr.refl _ _).alloc _
   go_upto_region 5 with fail
   generalize wr.alloc (.cells #[.string r.name, .int .i64 r.rank, .int .i64 r.digits, .int .i64 r.lo, .int .i64 r.hi, .slice ma r.mcc.length mc, .bool r.am.isSome, .int .i64 (r.am.getD (0, 0)).1, .int .i64 (r.am.getD (0, 0)).2, .slice ca r.cur.length cc, .bool r.decline, .bool r.cheapest, .slice pa r.routes.length pc, .int .i64 r.ahead] 83) = w1 at *
   obtain ⟨Q, hQ⟩ : ∃ Q, wr.heap.size = Q := ⟨_, rfl⟩
   rw [hQ] at HBx
   rw [hQ]
   have HQ := hid hQ
   clear v0 v1 v2 v3 v4 v5 v6 v7 v8 v9 v10 v11 v12 v13 hQ
   have HSP : Hid (∀ W, Fr (fun _ => False) w1 W → W.heap[Q]? = some (.cells #[.string r.name, .int .i64 r.rank, .int .i64 r.digits, .int .i64 r.lo, .int .i64 r.hi, .slice ma r.mcc.length mc, .bool r.am.isSome, .int .i64 (r.am.getD (0, 0)).1, .int .i64 (r.am.getD (0, 0)).2, .slice ca r.cur.length cc, .bool r.decline, .bool r.cheapest, .slice pa r.routes.length pc, .int .i64 r.ahead] 83) ∧ W.cell? ⟨B, 1, none⟩ = some (.slice (some ⟨g, 0, none⟩) N c)) := fun W hf =>
    ⟨hf.whole HBx.out (by simp), (((HFr.out.trans HF1.out).trans hf).cell (p := ⟨B, 1, none⟩) (World.block_lt_of_cell? w _ HBb.out) (by simp)).trans HBb.out⟩
   refine wp_region_held_drew (S := fun W => W.heap[Q]? = some (.cells #[.string r.name, .int .i64 r.rank, .int .i64 r.digits, .int .i64 r.lo, .int .i64 r.hi, .slice ma r.mcc.length mc, .bool r.am.isSome, .int .i64 (r.am.getD (0, 0)).1, .int .i64 (r.am.getD (0, 0)).2, .slice ca r.cur.length cc, .bool r.decline, .bool r.cheapest, .slice pa r.routes.length pc, .int .i64 r.ahead] 83) ∧ W.cell? ⟨B, 1, none⟩ = some (.slice (some ⟨g, 0, none⟩) N c)) (by kernel_rfl) (HSP.out _ (Fr.refl _ _).drew) (fun hH => ?_)
   refine held_take 0 (v := ?v0z) rfl (by kernel_rfl) (by kernel_rfl) (by kernel_rfl) (fun _ _ _ h => h) rfl ?y0z hH ?r0z
   case y0z =>
    rintro w ⟨s0, s1⟩
    obtain ⟨c0, c1, c2, c3, c4, c5, c6, c7, c8, c9, c10, c11, c12, c13⟩ := cells14 s0
    clear s0
    go_simp
    with_reducible rfl
   try go_frame
   refine held_take 1 (v := ?v1z) rfl (by kernel_rfl) (by kernel_rfl) (by kernel_rfl) (fun _ _ _ h => h) rfl ?y1z hH ?r1z
   case y1z =>
    rintro w ⟨s0, s1⟩
    obtain ⟨c0, c1, c2, c3, c4, c5, c6, c7, c8, c9, c10, c11, c12, c13⟩ := cells14 s0
    clear s0
    go_simp
    with_reducible rfl
   try go_frame
   refine held_take 2 (v := ?v2z) rfl (by kernel_rfl) (by kernel_rfl) (by kernel_rfl) (fun _ _ _ h => h) rfl ?y2z hH ?r2z
   case y2z =>
    rintro w ⟨s0, s1⟩
    obtain ⟨c0, c1, c2, c3, c4, c5, c6, c7, c8, c9, c10, c11, c12, c13⟩ := cells14 s0
    clear s0
    go_simp
    with_reducible rfl
   try go_frame
   refine held_take 3 (v := ?v3z) rfl (by kernel_rfl) (by kernel_rfl) (by kernel_rfl) (fun _ _ _ h => h) rfl ?y3z hH ?r3z
   case y3z =>
    rintro w ⟨s0, s1⟩
    obtain ⟨c0, c1, c2, c3, c4, c5, c6, c7, c8, c9, c10, c11, c12, c13⟩ := cells14 s0
    clear s0
    go_simp
    with_reducible rfl
   try go_frame
   refine held_take 4 (v := ?v4z) rfl (by kernel_rfl) (by kernel_rfl) (by kernel_rfl) (fun _ _ _ h => h) rfl ?y4z hH ?r4z
   case y4z =>
    rintro w ⟨s0, s1⟩
    obtain ⟨c0, c1, c2, c3, c4, c5, c6, c7, c8, c9, c10, c11, c12, c13⟩ := cells14 s0
    clear s0
    go_simp
    with_reducible rfl
   try go_frame
   refine held_take 5 (v := ?v5z) rfl (by kernel_rfl) (by kernel_rfl) (by kernel_rfl) (fun _ _ _ h => h) rfl ?y5z hH ?r5z
   case y5z =>
    rintro w ⟨s0, s1⟩
    obtain ⟨c0, c1, c2, c3, c4, c5, c6, c7, c8, c9, c10, c11, c12, c13⟩ := cells14 s0
    clear s0
    go_simp
    with_reducible rfl
   try go_frame
   refine wpAnyH_ready (rs := [6]) (by kernel_rfl) (by simp) ?_
   refine held_cons rfl (fun K2 hK => ?_) AllReadyH.nil
   try rw [if_pos (by rfl)]
   go_simp
   refine (aahead_any w1.drew (some ⟨g, 0, none⟩) c N k rls nr (HR.out.fr ((HFr.out.trans HF1.out).trans (Fr.refl _ _).drew)) HN.out h8 hlt HOk.out).mono ?_
   rintro e w2 ⟨⟨a2, c2, es, rfl, hes, har⟩, hf2⟩
   have HF2 : Hid (Fr (fun _ => False) w1 w2) := ((Fr.refl _ _).drew).trans hf2
   have HE2 := hid hes
   have HA2 := hid har
   have hl10 : es.length ≤ 10 := by
    have h1 := congrArg List.length hes
    have h2 := ahdM_len rls k N
    rw [List.length_map] at h1
    omega
   have HL := hid hl10
   obtain ⟨n2, hn2⟩ : ∃ n, es.length = n := ⟨_, rfl⟩
   have HN2 := hid hn2
   rw [hn2]
   clear hf2 hes har hl10 hn2
   refine hK.out _ _ (HSP.out _ HF2.out) (fun hH => ?_)
   clear hK K2
   try go_frame
   refine wpAnyH_ready (rs := [7]) (by kernel_rfl) (by simp) ?_
   refine held_cons rfl (fun K2 hK => ?_) AllReadyH.nil
   try rw [if_pos (by rfl)]
   go_simp
   have hbd : ∀ e, e ∈ es → ∀ i s, i < 4 → s ∈ e.A.at i → s.1 ≤ 10000000000 ∧ s.2 ≤ 10000000000 := fun e he i s _ hs => by
    have h1 : e.A ∈ ahdM rls k N := by rw [← HE2.out]; exact List.mem_map_of_mem he
    obtain ⟨j, q, _, hq, _, eq⟩ := (ahdM_mem rls k e.A N).1 h1
    rw [eq] at hs
    have h2 := HOk.out q (List.mem_of_getElem? hq)
    exact (arR_at h2.1 h2.2 i s hs).2
   have HDc : Hid (Calls Tryz.prog 33 _ w2 _) := decides_any w2 r.name r.rank r.digits r.lo r.hi ma mc r.mcc r.am.isSome (r.am.getD (0, 0)).1 (r.am.getD (0, 0)).2 ca cc r.cur r.decline r.cheapest pa r.routes.length pc r.ahead a2 c2 es HHr.out.1.bn.1 HHr.out.1.bn.2.2 (Nat.lt_of_lt_of_le HHr.out.1.bn.2.1 (pow6 HHr.out.1.bn.1)) (HI1.out.fr (HF1.out.trans HF2.out) (by simp)) (Nat.le_trans HHr.out.2.m4 (by decide)) (HI2.out.fr (HF1.out.trans HF2.out) (by simp)) (Nat.le_trans HHr.out.2.c4 (by decide)) HA2.out HL.out hbd
   unfold rlV at HDc
   rw [HN2.out] at HDc
   refine HDc.out.mono ?_
   rintro e w3 ⟨rfl, hf3⟩
   have eb : decB (areaM r.digits r.lo r.hi r.mcc r.am.isSome (r.am.getD (0, 0)).1 (r.am.getD (0, 0)).2 r.cur) es = livB rls k := by
    rw [HLv.out, ← HE2.out]
    exact decB_eq (A := arR r) (fun i s hs => (arR_at HHr.out.1 HHr.out.2 i s hs).1) es
   rw [eb]
   have HF3 := hid (HF2.out.trans hf3)
   clear hf3 eb HDc hbd HN2 HL HE2 HA2
   refine hK.out _ _ (HSP.out _ HF3.out) (fun hH => ?_)
   clear hK K2
   try go_frame
   have HF4 := hid ((HFr.out.trans HF1.out).trans HF3.out)
   have HO4 := hid (ownsRow_fr HO.out (HF1.out.trans HF3.out) (by simp))
   obtain ⟨nn, hnn⟩ : ∃ nn, (dedL rls k).length = nn := ⟨_, rfl⟩
   have hnb : nn ≤ 8 := by have := dedL_len rls k; omega
   have HNN := hid hnn
   rw [hnn] at HO4
   rw [hnn]
   clear hnn
   cases hlv : livB rls k with
   | true =>
    refine held_take 8 (v := ?v8t) rfl (by kernel_rfl) (by kernel_rfl) (by kernel_rfl) (fun _ _ _ h => h) rfl ?y8t hH ?r8t
    case y8t =>
     rintro w ⟨s0, s1⟩
     obtain ⟨c0, c1, c2, c3, c4, c5, c6, c7, c8, c9, c10, c11, c12, c13⟩ := cells14 s0
     clear s0
     go_simp
     with_reducible rfl
    try go_frame
    refine wpAnyH_done (by kernel_rfl) ?_ _
    have HO5 : Hid (w3.ownsRow w.heap.size 9 1 (.slice oa nn oc) (dedL rls (k + 1)).length (nmRow (dedL rls (k + 1)))) := by show World.ownsRow _ _ _ _ _ _ _; rw [HSn.out, hlv, if_pos rfl, List.append_nil, HNN.out]; exact HO4.out
    have HZ5 : Hid (dedL rls (k + 1) = [] → Value.slice oa nn oc = .slice none 0 0) := by
     show _ → _
     rw [HSn.out, hlv, if_pos rfl, List.append_nil]
     have := HZ.out
     rw [HNN.out] at this
     exact this
    clear hlv hH
    go_wp2_with fail
    go_roundg (N - (k + 1))
    case measure => omega
    case rel => exact ⟨k + 1, by omega, rfl, by go_num, HO5, HZ5, HF4⟩
   | false =>
    refine held_take 8 (v := ?v8f) rfl (by kernel_rfl) (by kernel_rfl) (by kernel_rfl) (fun _ _ _ h => h) rfl ?y8f hH ?r8f
    case y8f =>
     rintro w ⟨s0, s1⟩
     obtain ⟨c0, c1, c2, c3, c4, c5, c6, c7, c8, c9, c10, c11, c12, c13⟩ := cells14 s0
     clear s0
     go_simp
     with_reducible rfl
    try go_frame
    refine wpAnyH_done (by kernel_rfl) ?_ _
    have HE5 : Hid (dedL rls (k + 1) = dedL rls k ++ [r.name]) := by show _ = _; rw [HSn.out, hlv]; rfl
    obtain ⟨h3, _⟩ := hH
    have c0 := (cells14 h3).1
    have HCl := hid (Clone_any r.name w3 HHr.out.1.nm)
    clear hlv h3
    go_wp2_with (go_at_call 35; refine HCl.out.mono ?_)
    rintro e w4 ⟨rfl, hf4⟩
    have HF5 := hid (HF4.out.trans hf4)
    have HO5 := hid (ownsRow_fr HO4.out hf4 (by simp))
    clear hf4 c0 HCl
    go_wp2_with (at_builtin; refine wpList_append_lies _ rfl (.tmp 25) (.tmp 29) 25 rfl w.heap.size 9 ij _ 1 16 Tryz.underlying25 hj' hy0 hy1 hy2 rfl (by decide) (.slice oa nn oc) nn (nmRow (dedL rls k)) rfl ?h1 ⟨w4.heap.size, 0, none⟩ 1 1 [.string r.name] rfl rfl ?h2 ?h3 (by decide) ?h4 ?h5 ?h6 _ rfl ?h7)
    case h1 => exact HO5.out.alloc _
    case h2 => exact World.news_of_block (heap_alloc_new w4 (.cells #[.string r.name] 9))
    case h3 => simp [Value.oneCell']
    case h4 => unfold maxLen; omega
    case h5 => omega
    case h6 => have := HF5.out.size; simp; omega
    case h7 =>
     intro g2 cap2 w8 hown hgrow hor _
     have HF8 := hid ((HF5.out.alloc _).grown hgrow (fun k hk => Or.inr (HO5.out.lt k hk).1))
     have HO8 : Hid (w8.ownsRow w.heap.size 9 1 (.slice (some ⟨g2, 0, none⟩) (nn + 1) cap2) (dedL rls (k + 1)).length (nmRow (dedL rls (k + 1)))) := by
      show World.ownsRow _ _ _ _ _ _ _
      rw [HE5.out, List.length_append, HNN.out, show nmRow (dedL rls k ++ [r.name]) = nmRow (dedL rls k) ++ [.string r.name] from by simp [nmRow]]
      exact hown
     have HZ8 : Hid (dedL rls (k + 1) = [] → Value.slice (some ⟨g2, 0, none⟩) (nn + 1) cap2 = .slice none 0 0) := fun h => by rw [HE5.out] at h; simp at h
     clear hown hgrow hor
     go_wp2_with fail
     go_roundg (N - (k + 1))
     case measure => omega
     case rel => exact ⟨k + 1, by omega, rfl, by go_num, HO8, HZ8, HF8⟩
  ·have hki : ¬ (k : Int) < (N : Int) := by omega
   have ek : k = N := by omega
   have HEk := hid ek
   clear ek
   go_wp2_with fail
   go_ret
   have e1 := HO.out
   have e2 := HZ.out
   rw [HEk.out] at e1 e2
   exact ⟨⟨_, rfl, by rw [HEk.out]; exact e1, fun h => by have := e2 h; rw [HEk.out]; exact this⟩, HFr.out⟩
end Go.Proofs.YtccikgogjfbpeaaGreat

namespace Go.Proofs.YtccikgogjfbpeaaGreat
open Go.RowKit

/-- A table of this book: what it decides, and its book. -/
def TqAt (w : World) (T : Nat) (rts : List RouteM) (R : List RuleM) : Prop := TbAt w T rts R ∧ (∃ Bb vr vl xs, w.cell? ⟨T, 0, none⟩ = some (.pointer (some ⟨Bb, 0, none⟩)) ∧ Bk w Bb vr vl rts R xs) ∧ BookOk rts R ∧ ∀ r, r ∈ R → ArOk r
theorem TqAt.fr {w w' : World} {T : Nat} {rts : List RouteM} {R : List RuleM} (h : TqAt w T rts R) (hf : Fr (fun _ => False) w w') : TqAt w' T rts R := by
 obtain ⟨h0, ⟨Bb, vr, vl, xs, h1, h2⟩, h3⟩ := h
 exact ⟨h0.fr hf, ⟨Bb, vr, vl, xs, (hf.cell (p := ⟨T, 0, none⟩) (World.block_lt_of_cell? w _ h1) (by simp)).trans h1, h2.fr hf (by simp)⟩, h3⟩
set_option maxRecDepth 30000 in
set_option maxHeartbeats 1000000 in
theorem ktq_any (s : ByteArray) (w : World) (p : List RouteM × List RuleM) (hR : readM s = .ok p) :
  Calls Tryz.prog 10 #[.string s] w fun e w' => (∃ T, e = .returned (.pointer (some ⟨T, 0, none⟩)) ∧ TqAt w' T p.1 p.2) ∧ Fr (fun _ => False) w w' := by
 have HC := hid (Compile_any s w)
 have HR := hid hR
 clear hR
 go_enter Tryz.func10, Tryz.ntmps10
 go_wp2_with fail
 refine HC.out.mono ?_
 rintro e w1 hP
 obtain ⟨⟨T, B, TT, vr, vl, xs, rfl, hT, hT0, hT1, hB, hk, htr⟩, hbl⟩ := (CPost.ok HR.out).1 hP
 have HF : Hid (Fr (fun _ => False) w w1) := Fr.of_below hbl
 have HT : Hid (TqAt w1 T p.1 p.2) := by
  refine ⟨?_, ⟨B, vr, vl, xs, hT0, hk⟩, readM_book HR.out, readM_ar HR.out⟩
  obtain ⟨ra, rc, e⟩ := ownsRow_len hk.ro
  subst e
  exact ⟨_, TT, ra, rc, hT1, htr, ownsRow_base hk.ro (Nat.zero_le _), readM_book HR.out⟩
 clear hP hT hT0 hT1 hB hk htr hbl HC
 go_wp2_with fail
 go_ret
 exact ⟨⟨T, rfl, HT.out⟩, HF.out⟩
/-- The dead of a list of rules. -/
def dedN (R : List RuleM) : List ByteArray := dedL R R.length
set_option maxRecDepth 30000 in
set_option maxHeartbeats 400000 in
theorem tDead_any (w : World) (T : Nat) (rts : List RouteM) (R : List RuleM) (h : TqAt w T rts R) :
  Calls Tryz.prog 17 #[.pointer (some ⟨T, 0, none⟩)] w fun e w' => (∃ v, e = .returned v ∧ w'.ownsRow w.heap.size 9 1 v (dedN R).length (nmRow (dedN R)) ∧ (dedN R = [] → v = .slice none 0 0)) ∧ Fr (fun _ => False) w w' := by
 obtain ⟨_, ⟨Bb, vr, vl, xs, hT, hk⟩, ho, ha⟩ := h
 obtain ⟨va, c, e, hr⟩ := hk.rules
 have h1 := hk.c1
 rw [e] at h1
 have HC := hid (rDead_any w Bb va c R.length R rts.length h1 hr rfl ho.l8 (fun r hr => ⟨ho.rl r hr, ha r hr⟩))
 clear hk hr ho ha h1 e
 go_enter Tryz.func17, Tryz.ntmps17
 go_wp2_with (go_at_call 24; refine HC.out.mono ?_; rintro e w1 ⟨⟨v, rfl, hv⟩, hf⟩; have HV := hid hv; have HF := hid hf; clear hv hf hT)
 go_ret
 exact ⟨⟨v, rfl, HV.out⟩, HF.out⟩
end Go.Proofs.YtccikgogjfbpeaaGreat
