/- Regions: starts, walked. -/
import Derived.Test.YtccikgogjfbpeaaGreatDoorYHa
import Derived.Test.YtccikgogjfbpeaaGreatDoorYMb
namespace Go.Proofs.YtccikgogjfbpeaaGreatDoor
open Go.RowKit
def startsM (side : Nat) (A : ArM) (es : List ArE) : List Nat := startN (stRaw side (A.at side) es)
theorem ownS_ne {g n c q : Nat} (h : g ≠ q) : ∀ k, (Value.slice (some ⟨g, 0, none⟩) n c).ownBlock = some k → k ≠ q := by
 intro k hk
 have e : g = k := by simpa [Value.ownBlock] using hk
 rw [← e]
 exact h
set_option maxRecDepth 30000 in
set_option maxHeartbeats 8000000 in
theorem starts_any (w : World) (side : Nat) (A : ArM) (x0 x1 x2 x3 : SlM) (a : Option Addr) (c : Nat) (es : List ArE) (hs : side < 4) (h : ArV w A x0 x1 x2 x3) (hne : A.at side ≠ []) (he : ArsAt w a es) (hl : es.length ≤ 10) (hb : ∀ e, e ∈ es → ∀ s, s ∈ e.A.at side → s.1 ≤ 10000000000 ∧ s.2 ≤ 10000000000) :
  Calls Tryz.prog 213 #[.int .i64 (side : Nat), .agg #[spV x0 A.s0, spV x1 A.s1, spV x2 A.s2, spV x3 A.s3], .slice a es.length c] w fun e w' => (∃ g cap, w.heap.size ≤ g ∧ e = .returned (.slice (some ⟨g, 0, none⟩) (startsM side A es).length cap) ∧ ∀ j n, (startsM side A es)[j]? = some n → w'.cell? ⟨g, j, none⟩ = some (.int .i64 (n : Nat))) ∧ Fr (fun _ => False) w w' := by
 obtain ⟨ii, hi, hz0, hz1, hz2⟩ := info_parts Tryz.infoInt
 have HE := hid he
 have HB := hid hb
 have hc := ar_cell (t := 215) (heap_alloc_new w (.cells (arCells A x0 x1 x2 x3) 215)) hs
 have HF0 : Hid (Fr (fun _ => False) w (w.alloc (.cells #[spV x0 A.s0, spV x1 A.s1, spV x2 A.s2, spV x3 A.s3] 215))) := (Fr.refl _ _).alloc _
 unfold arCells at hc
 obtain ⟨l, hll⟩ : ∃ l, A.at side = l := ⟨_, rfl⟩
 obtain ⟨x, hx⟩ : ∃ x, slAt x0 x1 x2 x3 side = x := ⟨_, rfl⟩
 have HS : Hid (SpAt w x.a l) := by have e := h.at side; rw [hll, hx] at e; exact e
 have HV : Hid (startsM side A es = startN (stRaw side l es)) := by show _ = _; unfold startsM; rw [hll]
 have HLn : Hid (l.length ≤ 10) := by have e := h.few side; rw [hll] at e; exact e
 have HEL : Hid (es.length ≤ 10) := hl
 have HFew : Hid (∀ e, e ∈ es → (e.A.at side).length ≤ 10) := fun e hm => by
  obtain ⟨k, hk, rfl⟩ := List.mem_iff_getElem.1 hm
  exact (he k _ (List.getElem?_eq_getElem hk)).1.few side
 have HNE : Hid (0 < l.length) := by rw [hll] at hne; exact List.length_pos_iff.2 hne
 rw [hll, hx] at hc
 have hki : (side : Int) < 4 := by omega
 unfold spV at hc HF0 ⊢
 clear h hll hx he hb hne
 obtain ⟨M, hM⟩ : ∃ M, es.length = M := ⟨_, rfl⟩
 have HM := hid hM
 have hM10 : M ≤ 10 := by omega
 rw [hM]
 clear hM hl
 go_enter Tryz.func213, Tryz.ntmps213
 go_wp2_with fail
 obtain ⟨N, hN⟩ : ∃ N, l.length = N := ⟨_, rfl⟩
 rw [hN] at hc ⊢
 have HN := hid hN
 have hN10 : N ≤ 10 := by have := HLn.out; omega
 clear hN hc
 go_loopg [7, 9, 11, 16] N (fun m ov _ _ iv wr => ∃ k, k ≤ N ∧ m = N - k ∧ iv = .int .i64 (k : Nat) ∧ Hid (wr.ownsRow w.heap.size 3 1 ov (stRaw side (l.take k) es).length (intRow (stRaw side (l.take k) es))) ∧ Hid (Fr (fun _ => False) w wr))
 case atStart => exact ⟨0, by omega, rfl, rfl, World.ownsRow_nil _ _ _ _, HF0⟩
 case round =>
  obtain ⟨k, hk, rfl, rfl, HO, HFr⟩ := hrel
  obtain ⟨oa, oc, ho⟩ := ownsRow_len HO.out
  subst ho
  obtain ⟨nn, hnn⟩ : ∃ nn, (stRaw side (l.take k) es).length = nn := ⟨_, rfl⟩
  have hnb : nn ≤ 2010 := by
   rw [← hnn]
   have h1 := stRaw_len side es HFew.out (l.take k)
   have h2 : (l.take k).length ≤ 10 := by rw [List.length_take]; have := HLn.out; omega
   have h3 := Nat.mul_le_mul (show 1 + 20 * es.length ≤ 201 by have := HEL.out; omega) h2
   omega
  have HNN := hid hnn
  rw [hnn] at HO
  rw [hnn]
  clear hnn
  by_cases hlt : k < N
  ·have hki : (k : Int) < (N : Int) := by omega
   have hx := List.getElem?_eq_getElem (show k < l.length by have := HN.out; omega)
   obtain ⟨g, o, ea, h1, h2⟩ := (HS.out.fr HFr.out (by simp)) k _ hx
   have HSn := hid (stRaw_snoc side (es := es) hx)
   generalize l[k]'(by have := HN.out; omega) = s at *
   obtain ⟨lo, hiv⟩ := s
   dsimp only at h1 h2
   obtain ⟨xa, xc⟩ := x
   dsimp only at ea
   subst ea
   rw [show o + 2 * k = o + k * 2 from by omega] at h1
   rw [show o + 2 * k + 1 = o + k * 2 + 1 from by omega] at h2
   have HB1 : Hid ((wr.alloc (.cells #[.int .i64 (lo : Int), .int .i64 (hiv : Int)] 118)).heap[wr.heap.size]? = some (.cells #[.int .i64 (lo : Int), .int .i64 (hiv : Int)] 118)) := heap_alloc_new wr _
   have HFa : Hid (Fr (fun _ => False) wr (wr.alloc (.cells #[.int .i64 (lo : Int), .int .i64 (hiv : Int)] 118))) := (Fr.refl _ _).alloc _
   have HOq : Hid (∀ k, (Value.slice oa nn oc).ownBlock = some k → k ≠ wr.heap.size) := fun k hk => by have := (HO.out.lt k hk).2; omega
   clear hx
   go_upto_region 5 with fail
   generalize wr.alloc (.cells #[.int .i64 (lo : Int), .int .i64 (hiv : Int)] 118) = w1 at *
   obtain ⟨q, hq⟩ : ∃ q, wr.heap.size = q := ⟨_, rfl⟩
   have HQ := hid hq
   rw [hq] at HB1 HOq
   rw [hq]
   clear hq h1 h2
   have z0 := block_cell HB1.out 0 _ rfl
   have z1 := block_cell HB1.out 1 _ rfl
   have HF1 := hid (HFr.out.trans HFa.out)
   have HO1 := hid (ownsRow_fr HO.out HFa.out (by simp))
   clear HO HFr HFa
   go_wp2_with (at_builtin; refine wpList_append_lies _ rfl (.tmp 20) (.tmp 23) 25 rfl w.heap.size 3 ii _ 1 8 Tryz.underlying25 hi hz0 hz1 hz2 rfl (by decide) (.slice oa nn oc) nn (intRow (stRaw side (l.take k) es)) rfl ?h1 ⟨w1.heap.size, 0, none⟩ 1 1 [.int .i64 (lo : Nat)] rfl rfl ?h2 ?h3 (by decide) ?h4 ?h5 ?h6 _ rfl ?h7)
   case h1 => exact HO1.out.alloc _
   try case h2 => exact World.news_of_block (heap_alloc_new w1 (.cells #[.int .i64 (lo : Nat)] 3))
   case h3 => simp [Value.oneCell']
   case h4 => unfold maxLen; omega
   case h5 => omega
   case h6 => have := HF1.out.size; simp; omega
   case h7 =>
    intro g2 cap2 w8 hown hgrow hor _
    have HF8 := hid ((HF1.out.alloc _).grown hgrow (fun k hk => Or.inr (HO1.out.lt k hk).1))
    have HB8 := hid ((((Fr.refl (fun k => (Value.slice oa nn oc).ownBlock = some k) w1).alloc _).grown hgrow (fun k hk => Or.inl hk)).whole HB1.out (fun e => HOq.out q e rfl))
    have HO8 : Hid (w8.ownsRow w.heap.size 3 1 (.slice (some ⟨g2, 0, none⟩) (nn + 1) cap2) (stRaw side (l.take k) es ++ st1 side (lo, hiv) (es.take 0)).length (intRow (stRaw side (l.take k) es ++ st1 side (lo, hiv) (es.take 0)))) := by
     have e : st1 side (lo, hiv) (es.take 0) = [lo] := by simp [st1]
     rw [e, List.length_append, HNN.out, intRow_app]
     exact hown
    have HQ8 : Hid (g2 ≠ q) := by
     show _ ≠ _
     rcases hor with e | e
     ·exact HOq.out g2 e
     ·have := (Array.getElem?_eq_some_iff.1 HB1.out).1
      omega
    clear hown hgrow hor z0 z1 HF1 HO1 HB1 HOq
    go_wp2_with fail
    go_loopg [7, 11, 27] M (fun m ov _ jv wq => ∃ j, j ≤ M ∧ m = M - j ∧ jv = .int .i64 (j : Nat) ∧ Hid (wq.ownsRow w.heap.size 3 1 ov (stRaw side (l.take k) es ++ st1 side (lo, hiv) (es.take j)).length (intRow (stRaw side (l.take k) es ++ st1 side (lo, hiv) (es.take j)))) ∧ Hid (Fr (fun _ => False) w wq) ∧ Hid (wq.heap[q]? = some (.cells #[.int .i64 (lo : Int), .int .i64 (hiv : Int)] 118)) ∧ Hid (∀ k, ov.ownBlock = some k → k ≠ q))
    case atStart => exact ⟨0, by omega, rfl, rfl, HO8, HF8, HB8, ownS_ne HQ8.out⟩
    case round =>
     obtain ⟨j, hj, rfl, rfl, HOj, HFj, HBj, HQj⟩ := hrel
     clear HO8 HF8 HB8 HQ8
     obtain ⟨pa, pc, ho⟩ := ownsRow_len HOj.out
     subst ho
     obtain ⟨pn, hpn⟩ : ∃ pn, (stRaw side (l.take k) es ++ st1 side (lo, hiv) (es.take j)).length = pn := ⟨_, rfl⟩
     have hpb : pn ≤ 2300 := by
      rw [← hpn, List.length_append, HNN.out]
      have h1 := st1_len side (lo, hiv) (es.take j) (fun e he => HFew.out e (List.mem_of_mem_take he))
      have h2 : (es.take j).length ≤ 10 := by rw [List.length_take]; have := HEL.out; omega
      omega
     have HPN := hid hpn
     rw [hpn] at HOj HQj
     rw [hpn]
     clear hpn
     by_cases hjm : j < M
     ·have hji : (j : Int) < (M : Int) := by omega
      have hx := List.getElem?_eq_getElem (show j < es.length by have := HM.out; omega)
      obtain ⟨h0, ge, oe, ea, hce⟩ := (HE.out.fr HFj.out) j _ hx
      have HBe := hid (HB.out _ (List.getElem_mem (show j < es.length by have := HM.out; omega)))
      have HSj := hid (st1_snoc side (lo, hiv) hx)
      generalize es[j]'(by have := HM.out; omega) = e at *
      subst ea
      have HSe := hid (ArE.at h0 side)
      have HFe : Hid ((e.A.at side).length ≤ 10) := h0.few side
      obtain ⟨A', y0, y1, y2, y3⟩ := e
      dsimp only at HSe HFe HBe HSj
      have c0 : wr.cell? ⟨ge, oe + j * 4, none⟩ = some (.slice y0.a A'.s0.length y0.c) := hce 0 _ rfl
      have c1 : wr.cell? ⟨ge, oe + j * 4 + 1, none⟩ = some (.slice y1.a A'.s1.length y1.c) := hce 1 _ rfl
      have c2 : wr.cell? ⟨ge, oe + j * 4 + 2, none⟩ = some (.slice y2.a A'.s2.length y2.c) := hce 2 _ rfl
      have c3 : wr.cell? ⟨ge, oe + j * 4 + 3, none⟩ = some (.slice y3.a A'.s3.length y3.c) := hce 3 _ rfl
      have HFa : Hid (Fr (fun _ => False) wr (wr.alloc (.cells #[.slice y0.a A'.s0.length y0.c, .slice y1.a A'.s1.length y1.c, .slice y2.a A'.s2.length y2.c, .slice y3.a A'.s3.length y3.c] 215))) := (Fr.refl _ _).alloc _
      have HBa : Hid ((wr.alloc (.cells #[.slice y0.a A'.s0.length y0.c, .slice y1.a A'.s1.length y1.c, .slice y2.a A'.s2.length y2.c, .slice y3.a A'.s3.length y3.c] 215)).cell? ⟨wr.heap.size, side, none⟩ = some (spV (slAt y0 y1 y2 y3 side) (A'.at side))) := ar_cell (t := 215) (heap_alloc_new wr (.cells (arCells A' y0 y1 y2 y3) 215)) hs
      have hl4 : ∀ k, (Value.slice pa pn pc).ownBlock = some k → k < wr.heap.size := fun k hk => (HOj.out.lt k hk).2
      have HL4 := hid hl4
      clear hx h0 hce hl4
      go_upto_region 9 with fail
      generalize wr.alloc (.cells #[.slice y0.a A'.s0.length y0.c, .slice y1.a A'.s1.length y1.c, .slice y2.a A'.s2.length y2.c, .slice y3.a A'.s3.length y3.c] 215) = w2 at *
      obtain ⟨r, hr⟩ : ∃ r, wr.heap.size = r := ⟨_, rfl⟩
      rw [hr] at HBa HL4
      rw [hr]
      have HR := hid hr
      clear hr c0 c1 c2 c3
      obtain ⟨L, hL⟩ : ∃ L, A'.at side = L := ⟨_, rfl⟩
      obtain ⟨y, hy⟩ : ∃ y, slAt y0 y1 y2 y3 side = y := ⟨_, rfl⟩
      rw [hL, hy] at HBa HSe
      rw [hL] at HFe HBe HSj
      clear hL hy
      unfold spV at HBa
      have HO2 := hid (ownsRow_fr HOj.out HFa.out (by simp))
      have HB2 := hid (HFa.out.whole HBj.out (by simp))
      have HS2 := hid (HSe.out.fr HFa.out (by simp))
      have HF2 := hid (HFj.out.trans HFa.out)
      have HSP : Hid (∀ W, Fr (fun k => (Value.slice pa pn pc).ownBlock = some k) w2 W → W.cell? ⟨q, 0, none⟩ = some (.int .i64 (lo : Int)) ∧ W.cell? ⟨q, 1, none⟩ = some (.int .i64 (hiv : Int)) ∧ W.cell? ⟨r, side, none⟩ = some (.slice y.a L.length y.c)) := fun W hf => by
       have e := hf.whole HB2.out (fun e => HQj.out q e rfl)
       exact ⟨block_cell e 0 _ rfl, block_cell e 1 _ rfl, (hf.cell (p := ⟨r, side, none⟩) (World.block_lt_of_cell? w2 _ HBa.out) (fun e => by have := HL4.out r e; omega)).trans HBa.out⟩
      clear HOj HFj HBj HSe
      refine wp_region_held_drew (S := fun W => W.cell? ⟨q, 0, none⟩ = some (.int .i64 (lo : Int)) ∧ W.cell? ⟨q, 1, none⟩ = some (.int .i64 (hiv : Int)) ∧ W.cell? ⟨r, side, none⟩ = some (.slice y.a L.length y.c)) (by kernel_rfl) (HSP.out _ (Fr.refl _ _).drew) (fun hH => ?_)
      refine held_take 0 (v := ?v0z) rfl (by kernel_rfl) (by kernel_rfl) (by kernel_rfl) (fun _ _ _ h => h) rfl ?y0z hH ?r0z
      case y0z => rintro w ⟨s0, s1, s2⟩; go_simp; with_reducible rfl
      try go_frame
      refine held_take 1 (v := ?v1z) rfl (by kernel_rfl) (by kernel_rfl) (by kernel_rfl) (fun _ _ _ h => h) rfl ?y1z hH ?r1z
      case y1z => rintro w ⟨s0, s1, s2⟩; go_simp; with_reducible rfl
      try go_frame
      refine held_take 2 (v := ?v2z) rfl (by kernel_rfl) (by kernel_rfl) (by kernel_rfl) (fun _ _ _ h => h) rfl ?y2z hH ?r2z
      case y2z => rintro w ⟨s0, s1, s2⟩; go_simp; with_reducible rfl
      try go_frame
      refine held_take 3 (v := ?v3z) rfl (by kernel_rfl) (by kernel_rfl) (by kernel_rfl) (fun _ _ _ h => h) rfl ?y3z hH ?r3z
      case y3z => rintro w ⟨s0, s1, s2⟩; go_simp; with_reducible rfl
      try go_frame
      refine held_take 4 (v := ?v4z) rfl (by kernel_rfl) (by kernel_rfl) (by kernel_rfl) (fun _ _ _ h => h) rfl ?y4z hH ?r4z
      case y4z => rintro w ⟨s0, s1, s2⟩; go_simp; with_reducible rfl
      try go_frame
      refine wpAnyH_ready (rs := [5]) (by kernel_rfl) (by simp) ?_
      refine held_cons rfl (fun K2 hK => ?_) AllReadyH.nil
      try rw [if_pos (by rfl)]
      go_simp
      have hcu := cuts_any w2.drew (lo, hiv) y L (HS2.out.fr (Fr.refl (fun _ => False) w2).drew (by simp)) HFe.out HBe.out
      dsimp only at hcu
      refine hcu.mono ?_
      rintro e w3 ⟨⟨v, rfl, hv, hv0⟩, hf3⟩
      have HF3 : Hid (Fr (fun _ => False) w2 w3) := ((Fr.refl _ _).drew).trans hf3
      have HV3 := hid hv
      have HO3 := hid (ownsRow_fr HO2.out HF3.out (by simp))
      obtain ⟨va, vc, hvv⟩ := ownsRow_len hv
      subst hvv
      obtain ⟨m, hm⟩ : ∃ m, (cutsM (lo, hiv) L).length = m := ⟨_, rfl⟩
      have hmb : m ≤ 20 := by rw [← hm]; have := cutsM_len (lo, hiv) L; have := HFe.out; omega
      have HMM := hid hm
      have HV0 := hid hv0
      rw [hm] at HV3 HV0
      rw [hm]
      clear hf3 hv hcu hm hv0
      refine hK.out _ _ (HSP.out _ (HF3.out.mono (fun _ h => h.elim))) (fun hH => ?_)
      clear hK K2
      try go_frame
      by_cases hm0 : m = 0
      ·have e0 := HV0.out hm0
       injection e0 with e1 e2 e3
       subst e1 e3 hm0
       refine wpAnyH_ready (rs := [6]) (by kernel_rfl) (by simp) ?_
       refine held_cons rfl (fun K2 hK => ?_) AllReadyH.nil
       try rw [if_pos (by rfl)]
       refine wp_append_none (.tmp 31) (.tmp 36) 25 rfl w.heap.size 3 ii 1 Tryz.underlying25 hi (.slice pa pn pc) pn (intRow (stRaw side (l.take k) es ++ st1 side (lo, hiv) (es.take j))) rfl HO3.out rfl ?hz
       have HOn : Hid (w3.ownsRow w.heap.size 3 1 (.slice pa pn pc) (stRaw side (l.take k) es ++ st1 side (lo, hiv) (es.take (j + 1))).length (intRow (stRaw side (l.take k) es ++ st1 side (lo, hiv) (es.take (j + 1))))) := by
        rw [HSj.out, List.eq_nil_of_length_eq_zero HMM.out, List.append_nil, HPN.out]
        exact HO3.out
       have HFn := hid (HF2.out.trans HF3.out)
       have HBn := hid (HF3.out.whole HB2.out (by simp))
       refine hK.out _ _ (HSP.out _ (HF3.out.mono (fun _ h => h.elim))) (fun hH => ?_)
       clear hK K2
       try go_frame
       refine held_take 7 (v := ?v7z) rfl (by kernel_rfl) (by kernel_rfl) (by kernel_rfl) (fun _ _ _ h => h) rfl ?y7z hH ?r7z
       case y7z => rintro w ⟨s0, s1, s2⟩; go_simp; with_reducible rfl
       try go_frame
       refine wpAnyH_done (by kernel_rfl) ?_ _
       go_wp2_with fail
       go_roundg (M - (j + 1))
       case measure => omega
       case rel => exact ⟨j + 1, by omega, rfl, by go_num, HOn, HFn, HBn, HQj⟩
      ·obtain ⟨g3, c3, e3, hg3, hg3'⟩ := HV3.out.form (by omega)
       injection e3 with e1 e2 e4
       subst e1
       have hnw : ∀ i u, (intRow (cutsM (lo, hiv) L))[i]? = some u → w3.cell? (Addr.add ⟨g3, 0, none⟩ i) = some u := by
        intro i u hu
        have hlt := (List.getElem?_eq_some_iff.1 hu).1
        rw [intRow_len, HMM.out] at hlt
        have e := HV3.out.cellAt i (by omega)
        rw [hu] at e
        rw [← e]
        simp [Addr.add]
        split <;> simp [*]
       have HNW := hid hnw
       clear hnw
       refine wpAnyH_ready (rs := [6]) (by kernel_rfl) (by simp) ?_
       refine held_cons rfl (fun K2 hK => ?_) AllReadyH.nil
       try rw [if_pos (by rfl)]
       refine wp_append_lies _ (.tmp 31) (.tmp 36) 25 rfl w.heap.size 3 ii _ 1 8 Tryz.underlying25 hi hz0 hz1 hz2 rfl (by decide) (.slice pa pn pc) pn (intRow (stRaw side (l.take k) es ++ st1 side (lo, hiv) (es.take j))) rfl HO3.out ⟨g3, 0, none⟩ m vc (intRow (cutsM (lo, hiv) L)) rfl ?g1 HNW.out (intRow_one _) (by omega) ?g4 ?g5 ?g6 _ rfl ?g7
       case g1 => rw [intRow_len, HMM.out, Nat.mul_one]
       case g4 => unfold maxLen; omega
       case g5 => omega
       case g6 => have := HF2.out.size; have := HF3.out.size; omega
       case g7 =>
        intro g4 cap4 w4 hown hgrow hor _
        have HFg : Hid (Fr (fun k => (Value.slice pa pn pc).ownBlock = some k) w2 w4) := (HF3.out.mono (fun _ h => h.elim)).grown hgrow (fun k hk => Or.inl hk)
        have HFn : Hid (Fr (fun _ => False) w w4) := (HF2.out.trans HF3.out).grown hgrow (fun k hk => Or.inr (HO3.out.lt k hk).1)
        have HBn := hid (HFg.out.whole HB2.out (fun e => HQj.out q e rfl))
        have HOn : Hid (w4.ownsRow w.heap.size 3 1 (.slice (some ⟨g4, 0, none⟩) (pn + m) cap4) (stRaw side (l.take k) es ++ st1 side (lo, hiv) (es.take (j + 1))).length (intRow (stRaw side (l.take k) es ++ st1 side (lo, hiv) (es.take (j + 1))))) := by
         rw [HSj.out, ← List.append_assoc, intRow_app, List.length_append, HPN.out, HMM.out]
         exact hown
        have HQn : Hid (g4 ≠ q) := by
         show _ ≠ _
         rcases hor with e | e
         ·exact HQj.out g4 e
         ·have := (Array.getElem?_eq_some_iff.1 HB2.out).1
          have := HF3.out.size
          omega
        clear hown hgrow hor
        refine hK.out _ _ (HSP.out _ HFg.out) (fun hH => ?_)
        clear hK K2
        try go_frame
        refine held_take 7 (v := ?v7q) rfl (by kernel_rfl) (by kernel_rfl) (by kernel_rfl) (fun _ _ _ h => h) rfl ?y7q hH ?r7q
        case y7q => rintro w ⟨s0, s1, s2⟩; go_simp; with_reducible rfl
        try go_frame
        refine wpAnyH_done (by kernel_rfl) ?_ _
        go_wp2_with fail
        go_roundg (M - (j + 1))
        case measure => omega
        case rel => exact ⟨j + 1, by omega, rfl, by go_num, HOn, HFn, HBn, ownS_ne HQn.out⟩
     ·have hji : ¬ (j : Int) < (M : Int) := by omega
      have ej : j = M := by omega
      have HOn : Hid (wr.ownsRow w.heap.size 3 1 (.slice pa pn pc) (stRaw side (l.take (k + 1)) es).length (intRow (stRaw side (l.take (k + 1)) es))) := by
       have e := HOj.out
       rw [HSn.out, show st1 side (lo, hiv) es = st1 side (lo, hiv) (es.take j) from by rw [List.take_of_length_le (by have := HM.out; omega)], HPN.out]
       exact e
      clear ej
      go_wp2_with fail
      go_roundg (N - (k + 1))
      case measure => omega
      case rel => exact ⟨k + 1, by omega, rfl, by go_num, HOn, HFj⟩
  ·have hki : ¬ (k : Int) < (N : Int) := by omega
   have ek : l.take k = l := List.take_of_length_le (by have := HN.out; omega)
   have h0 : 0 < nn := by
    rw [← HNN.out, ek]
    have hp := HNE.out
    cases l with
    | nil => simp at hp
    | cons s r => simp [stRaw, st1]
   obtain ⟨g, cap, eo, hg, hg'⟩ := HO.out.form h0
   injection eo with e1 e2 e3
   subst e1 e3
   have HO1 := HO
   rw [ek] at HO1 HNN
   obtain ⟨_, hcap, _, hln, _⟩ := holds_row HO1.out
   have HSort := hid (sort_row HO1.out (by omega))
   have HG := hid hg
   clear ek h0 hg hg'
   go_wp2_with fail
   refine HSort.out.mono ?_
   rintro e w5 ⟨rfl, hh5, hf5⟩
   have HCo := hid (compact_row (cap := oc) hh5 (show _ = nn by rw [List.length_mergeSort]; simpa [asI] using hln) hcap (by omega))
   have HF5 := hid (HFr.out.monoNew hf5 (fun i e => Or.inr (by have := HG.out; omega)))
   clear HSort hh5 hf5
   go_wp2_with fail
   refine HCo.out.mono ?_
   rintro e w6 ⟨rfl, hh6, hf6⟩
   have HF6 := hid (HF5.out.monoNew hf6 (fun i e => Or.inr (by have := HG.out; omega)))
   have HH6 := hid hh6
   clear HCo hh6 hf6
   go_wp2_with fail
   go_ret
   have es1 : Lib.compact ((asI (stRaw side l es)).mergeSort fun x y => decide (x ≤ y)) = asI (startsM side A es) := by rw [HV.out, ← startL_eq]; rfl
   refine ⟨⟨g, oc, HG.out, ?_, fun j n hj => ?_⟩, HF6.out⟩
   ·rw [es1]
    simp [asI]
   ·refine HH6.out j n ?_
    rw [es1]
    simp [asI, hj]
end Go.Proofs.YtccikgogjfbpeaaGreatDoor
