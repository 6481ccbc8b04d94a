/- The reader of images: many steps. The reader of images: a program. The reader of images: many programs. -/
import Derived.Test.YtccikgogjfbpeabGreatDoorWHa
import Derived.Test.YtccikgogjfbpeabGreatDoorWIc
namespace Go.Proofs.YtccikgogjfbpeabGreatDoor
open Go.RowKit
set_option maxRecDepth 30000 in
set_option maxHeartbeats 1000000 in
theorem manyStep_any (w : World) (B : Nat) (s : ByteArray) (i TT : Nat) (lo hi : Int) (ra : Option Addr) (nr rc : Nat) (na : Option Addr) (nn nc : Nat) (h : RdAt w B s i TT) (hne : TT ≠ B) (c0 : w.cell? ⟨TT, 0, none⟩ = some (.slice ra nr rc)) (c1 : w.cell? ⟨TT, 1, none⟩ = some (.slice na nn nc)) (hr6 : nr <= 6) (hn8 : nn <= 8) (hhi : hi <= 255) :
  Calls Tryz.prog 118 #[.pointer (some ⟨B, 0, none⟩), .int .i64 lo, .int .i64 hi, .func (.func 119) #[.pointer (some ⟨B, 0, none⟩)] #[]] w (RdP w B s TT (manyR s.data.toList lo hi (stepR s.data.toList nr nn) i) fun w' v xs => StRow w.heap.size w' w.heap.size v xs) := by
 obtain ⟨ij, hj', hy0, hy1, hy2⟩ := info_parts Tryz.infoStep
 have HH := hid (rnumber_any w B s i TT 1 1 lo hi h (by decide) rfl)
 have hBl : B < w.heap.size := (Array.getElem?_eq_some_iff.1 h.bx).1
 have HO : Hid (∀ W i, Fr (fun k => k = B) w W -> RdAt W B s i TT -> Calls Tryz.prog 119 #[.pointer (some ⟨B, 0, none⟩)] W (RdP W B s TT (stepR s.data.toList nr nn i) fun w' v x => ∃ (qa : Option Addr) (qc : Nat), v = rstV x.sort x.rule x.skip qa x.nums.length qc /\ w'.ownsRow W.heap.size 3 1 (.slice qa x.nums.length qc) x.nums.length (intRow x.nums))) := fun W i hf hR => rstep_any W B s i TT ra nr rc na nn nc hR hne ((hf.cell (p := ⟨TT, 0, none⟩) (World.block_lt_of_cell? w _ c0) hne).trans c0) ((hf.cell (p := ⟨TT, 1, none⟩) (World.block_lt_of_cell? w _ c1) hne).trans c1) hr6 hn8
 obtain ⟨N, hN⟩ : ∃ N, manyR s.data.toList lo hi (stepR s.data.toList nr nn) i = N := ⟨_, rfl⟩
 rw [hN]
 have HN := hid hN
 generalize stepR s.data.toList nr nn = one at *
 clear h hN c0 c1 hne
 go_enter Tryz.func118, Tryz.ntmps118
 go_wp2_with fail
 refine HH.o.mono ?_
 intro e w1 hp
 clear HH
 cases h1 : numR s.data.toList 1 lo hi i with
 | none =>
  rw [h1] at hp
  obtain ⟨he, hf⟩ := hp
  have eN : N = none := by rw [<- HN.o]; exact many_none h1
  subst eN
  unfold noE at he
  subst he
  exact ⟨rfl, rfl, hf⟩
 | some nj =>
  obtain ⟨n, j⟩ := nj
  rw [h1] at hp
  obtain ⟨⟨v, rfl, rfl⟩, hR1, hf1⟩ := hp
  have HR1 := hid hR1
  have HF1 := hid hf1
  have hn : n <= 255 := by have := (numR_some h1).2; omega
  have HN1 : Hid (restR one [] n j = N) := by show _ = _; rw [<- HN.o]; exact (many_rest h1).symm
  clear h1 hR1 hf1 HN
  go_wp2_with fail
  go_loopg [9, 14] n (fun m ov kv wr => ∃ (k : Nat) (xs : List StepM) (jj : Nat), k <= n /\ m = n - k /\ kv = .int .i64 (k : Nat) /\ xs.length = k /\ Hid (RdAt wr B s jj TT) /\ Hid (StRow w.heap.size wr w.heap.size ov xs) /\ Hid (restR one xs (n - k) jj = N) /\ Hid (Fr (fun k => k = B) w wr))
  case atStart => exact ⟨0, [], j, by omega, rfl, rfl, rfl, HR1, ⟨[], World.ownsRow_nil _ _ _ _, rfl⟩, HN1, HF1⟩
  case round =>
   obtain ⟨k, xs, jj, hk, rfl, rfl, hxs, HR, HOw, HNr, HFr⟩ := hrel
   obtain ⟨ys, hys, hst⟩ := HOw.o
   rw [hxs] at hys
   obtain ⟨oa, oc, ho⟩ := ownsRow_len hys
   subst ho
   have HYs := hid hys
   have HSt := hid hst
   clear hys hst
   by_cases hlt : k < n
   ·have hki : (k : Int) < (n : Int) := by omega
    have HN2 : Hid (restR one xs (n - (k + 1) + 1) jj = N) := by show _ = _; rw [show n - (k + 1) + 1 = n - k from by omega]; exact HNr.o
    clear HNr
    go_wp2_with fail
    refine (HO.o wr jj HFr.o HR.o).mono ?_
    intro e w2 hp
    cases h2 : one jj with
    | none =>
     rw [h2] at hp
     obtain ⟨he, hf⟩ := hp
     have eN : N = none := by rw [<- HN2.o]; exact rest_none h2
     subst eN
     unfold noE at he
     subst he
     exact ⟨rfl, rfl, HFr.o.trans hf⟩
    | some xj =>
     obtain ⟨x, j3⟩ := xj
     rw [h2] at hp
     obtain ⟨⟨v, rfl, qa, qc, rfl, hnu⟩, hR2, hf2⟩ := hp
     have HNu := hid (ownsRow_base hnu HFr.o.size)
     have HR2 := hid hR2
     have HF2 := hid (HFr.o.trans hf2)
     have HO2 := hid (ownsRow_fr HYs.o hf2 (fun k hk => by omega))
     have HSt2 := hid (HSt.o.keep (fun v n ys hv => ownsRow_fr hv hf2 (fun k hk => by omega)))
     have HN3 : Hid (restR one (xs ++ [x]) (n - (k + 1)) j3 = N) := by show _ = _; rw [<- HN2.o]; exact (rest_some h2).symm
     clear h2 hR2 hf2 HN2 HOw HR HFr hnu HYs HSt
     unfold rstV
     go_wp2_with (at_builtin; refine wpList_append_lies _ rfl (.tmp 16) (.tmp 19) 101 rfl w.heap.size 172 ij _ 4 48 Tryz.underlying101 hj' hy0 hy1 hy2 rfl (by decide) (.slice oa k oc) k ys rfl ?h1 ⟨w2.heap.size, 0, none⟩ 1 1 [.int .u8 (x.sort : Nat), .slice qa x.nums.length qc, .int .i64 (x.rule : Nat), .int .i64 (x.skip : Nat)] rfl rfl ?h2 ?h3 (by decide) ?h4 ?h5 ?h6 _ rfl ?h7)
     case h1 => exact HO2.o.alloc _
     try case h2 => exact World.news_of_block (heap_alloc_new w2 (.cells #[.int .u8 (x.sort : Nat), .slice qa x.nums.length qc, .int .i64 (x.rule : Nat), .int .i64 (x.skip : Nat)] 172))
     case h3 => simp [Value.oneCell']
     case h4 => unfold maxLen; omega
     case h5 => omega
     case h6 => have := HF2.o.size; simp; omega
     case h7 =>
      intro g2 cap2 w8 hown hgrow hor _
      have HF8 : Hid (Fr (fun k => k = B) w w8) := (HF2.o.alloc _).grown hgrow (fun k hk => Or.inr (HO2.o.lt k hk).1)
      have HR8 : Hid (RdAt w8 B s j3 TT) := by
       have f : Fr (fun k' => (Value.slice oa k oc).ownBlock = some k') w2 w8 := ((Fr.refl _ _).alloc _).grown hgrow (fun k hk => .inl hk)
       exact HR2.o.fr f (fun hb => by have := (HO2.o.lt B hb).1; omega)
      have HO8 : Hid (StRow w.heap.size w8 w.heap.size (.slice (some ⟨g2, 0, none⟩) (k + 1) cap2) (xs ++ [x])) := by
       have ha : ∀ v n zs, w2.ownsRow w.heap.size 3 1 v n zs -> (w2.alloc (.cells #[.int .u8 (x.sort : Nat), .slice qa x.nums.length qc, .int .i64 (x.rule : Nat), .int .i64 (x.skip : Nat)] 172)).ownsRow w.heap.size 3 1 v n zs := fun v n zs hv => hv.alloc _
       have e := StRow.grown (l' := [x]) (by rw [hxs]; exact HO2.o.alloc _) (HSt2.o.keep ha) ((StVs.one ⟨_, rfl, HNu.o⟩).keep ha) hgrow (by rw [hxs]; exact hown)
       rw [hxs] at e
       exact e
      clear hown hgrow hor
      go_wp2_with fail
      go_roundg (n - (k + 1))
      case measure => omega
      case rel => exact ⟨k + 1, xs ++ [x], j3, by omega, rfl, by go_num, by simp [hxs], HR8, HO8, HN3, HF8⟩
   ·have hki : ¬ (k : Int) < (n : Int) := by omega
    have eN : N = some (xs, jj) := by
     have e := HNr.o
     rw [show n - k = 0 from by omega, rest_end] at e
     exact e.symm
    subst eN
    clear HNr
    go_wp2_with fail
    go_ret
    exact ⟨⟨_, rfl, HOw.o⟩, HR.o, HFr.o⟩
end Go.Proofs.YtccikgogjfbpeabGreatDoor

namespace Go.Proofs.YtccikgogjfbpeabGreatDoor
open Go.RowKit
theorem leads_true {l : List StepM} (h : ∀ k s, l[k]? = some s -> k + s.skip < l.length) : leads l = true := by
 unfold leads
 rw [List.all_eq_true]
 intro k hk
 cases hs : l[k]? with
 | none => rfl
 | some s => simpa using h k s hs
theorem leads_false {l : List StepM} {k : Nat} {s : StepM} (hs : l[k]? = some s) (h : ¬ k + s.skip < l.length) : leads l = false := by
 cases e : leads l with
 | false => rfl
 | true =>
  have := List.all_eq_true.1 e k (List.mem_range.2 (List.getElem?_eq_some_iff.1 hs).1)
  rw [hs] at this
  exact absurd (by simpa using this) h
set_option maxRecDepth 30000 in
set_option maxHeartbeats 1000000 in
theorem rprogram_any (w : World) (B : Nat) (s : ByteArray) (i TT : Nat) (ra : Option Addr) (nr rc : Nat) (na : Option Addr) (nn nc : Nat) (h : RdAt w B s i TT) (hne : TT ≠ B) (c0 : w.cell? ⟨TT, 0, none⟩ = some (.slice ra nr rc)) (c1 : w.cell? ⟨TT, 1, none⟩ = some (.slice na nn nc)) (hr6 : nr <= 6) (hn8 : nn <= 8) :
  Calls Tryz.prog 86 #[.pointer (some ⟨B, 0, none⟩)] w (RdP w B s TT (progR s.data.toList nr nn i) fun w' v l => StRow w.heap.size w' w.heap.size v l) := by
 have hmf : ∀ (fn : Fn) (first cap : Array Value) (w : World), (Instr.makeFunc fn first cap).run Tryz.prog w = .ok (.func fn first cap) w := fun _ _ _ _ => rfl
 have HM := hid (manyStep_any w B s i TT 1 255 ra nr rc na nn nc h hne c0 c1 hr6 hn8 (by omega))
 obtain ⟨N, hN⟩ : ∃ N, progR s.data.toList nr nn i = N := ⟨_, rfl⟩
 rw [hN]
 unfold progR at hN
 obtain ⟨r, hr⟩ : ∃ r, manyR s.data.toList 1 255 (stepR s.data.toList nr nn) i = r := ⟨_, rfl⟩
 have HL : Hid (∀ l j, r = some (l, j) -> l.length <= 255 /\ ∀ q, q ∈ l -> q.skip <= 255) := fun l j e => by
  rw [e] at hr
  obtain ⟨_, e2, e3⟩ := manyR_some (P := StOk nr nn) (fun i x j hx => stepR_some hx) hr
  exact ⟨by omega, fun q hq => (e3 q hq).sk⟩
 rw [hr] at HM hN
 have HN := hid hN
 clear h hN c0 c1 hne hr
 go_enter Tryz.func86, Tryz.ntmps86
 go_wp2_with fail
 refine HM.o.mono ?_
 intro e w1 hp
 cases r with
 | none =>
  obtain ⟨he, hf⟩ := hp
  have eN : N = none := HN.o.symm
  subst eN
  unfold noE at he
  subst he
  exact ⟨rfl, rfl, hf⟩
 | some lj =>
  obtain ⟨l, j⟩ := lj
  obtain ⟨⟨v, rfl, hv⟩, hR, hf⟩ := hp
  have HR := hid hR
  have HF := hid hf
  have HV := hid hv
  obtain ⟨hl, hsk⟩ := HL.o l j rfl
  have HSk := hid hsk
  have hv' := hv
  obtain ⟨xs, hx, _⟩ := hv'
  obtain ⟨pa, pc, e1⟩ := ownsRow_len hx
  subst e1
  have HPg := hid (PgAt.of hv (Nat.le_refl w1.heap.size))
  have HN1 : Hid ((if leads l then some (l, j) else none) = N) := HN
  clear hv hR hf hx HL HM HN hsk
  obtain ⟨n, hn⟩ : ∃ n, l.length = n := ⟨_, rfl⟩
  have HLn := hid hn
  rw [hn] at hl ⊢
  rw [hn] at HV
  clear hn
  go_wp2_with fail
  go_loopg [12] n (fun m kv wr => ∃ k : Nat, k <= n /\ m = n - k /\ kv = .int .i64 (k : Nat) /\ Hid (∀ q st, q < k -> l[q]? = some st -> q + st.skip < n) /\ Hid (F0 w1 wr))
  case atStart => exact ⟨0, by omega, rfl, rfl, fun q _ h => by omega, Fr.refl _ _⟩
  case round =>
   obtain ⟨k, hk, rfl, rfl, HA, HFr⟩ := hrel
   by_cases hlt : k < n
   ·have hki : (k : Int) < (n : Int) := by omega
    obtain ⟨st, hst⟩ : ∃ st, l[k]? = some st := ⟨_, List.getElem?_eq_getElem (by have := HLn.o; omega)⟩
    obtain ⟨g, qa, qc, rfl, _, d0, d1, d2, d3, _, _⟩ := HPg.o k st hst
    have hgl := World.block_lt_of_cell? w1 _ d0
    have e0 := (HFr.o.cell (p := ⟨g, k * 4, none⟩) hgl (by simp)).trans d0
    have e1 := (HFr.o.cell (p := ⟨g, k * 4 + 1, none⟩) hgl (by simp)).trans d1
    have e2 := (HFr.o.cell (p := ⟨g, k * 4 + 2, none⟩) hgl (by simp)).trans d2
    have e3 := (HFr.o.cell (p := ⟨g, k * 4 + 3, none⟩) hgl (by simp)).trans d3
    have hs255 := HSk.o st (List.mem_of_getElem? hst)
    have HFa : Hid (F0 w1 (wr.alloc (.cells #[.int .u8 (st.sort : Nat), .slice qa st.nums.length qc, .int .i64 (st.rule : Nat), .int .i64 (st.skip : Nat)] 172))) := HFr.o.alloc _
    have HBa : Hid ((wr.alloc (.cells #[.int .u8 (st.sort : Nat), .slice qa st.nums.length qc, .int .i64 (st.rule : Nat), .int .i64 (st.skip : Nat)] 172)).heap[wr.heap.size]? = some (.cells #[.int .u8 (st.sort : Nat), .slice qa st.nums.length qc, .int .i64 (st.rule : Nat), .int .i64 (st.skip : Nat)] 172)) := heap_alloc_new wr _
    clear d0 d1 d2 d3
    go_upto_region 5 with fail
    generalize wr.alloc (.cells #[.int .u8 (st.sort : Nat), .slice qa st.nums.length qc, .int .i64 (st.rule : Nat), .int .i64 (st.skip : Nat)] 172) = W at *
    generalize wr.heap.size = X at *
    have x3 : W.cell? ⟨X, 3, none⟩ = some (.int .i64 (st.skip : Nat)) := block_cell HBa.o 3 _ rfl
    clear e0 e1 e2 e3
    by_cases hle : k + st.skip < n
    ·have hli : (k : Int) + (st.skip : Int) < (n : Int) := by omega
     have HA2 : Hid (∀ q st, q < k + 1 -> l[q]? = some st -> q + st.skip < n) := fun q t hq ht => by
      by_cases e : q = k
      ·subst e; rw [hst] at ht; injection ht with ht; subst ht; exact hle
      ·exact HA.o q t (by omega) ht
     clear hst
     go_wp2_with fail
     refine (insist_yes _).mono ?_
     rintro e w2 ⟨rfl, hw⟩
     replace hw := hw.symm
     subst hw
     go_wp2_with fail
     go_roundg (n - (k + 1))
     case measure => omega
     case rel => exact ⟨k + 1, by omega, rfl, by go_num, HA2, HFa⟩
    ·have hli : ¬ (k : Int) + (st.skip : Int) < (n : Int) := by omega
     have eN : N = none := by rw [<- HN1.o, leads_false hst (by rw [HLn.o]; exact hle)]; rfl
     subst eN
     clear hst
     go_wp2_with fail
     refine (insist_no _).mono ?_
     rintro e w2 ⟨he, hw⟩
     replace hw := hw.symm
     subst hw
     unfold noE at he
     subst he
     exact ⟨rfl, rfl, HF.o.trans (HFa.o.mono (by simp))⟩
   ·have hki : ¬ (k : Int) < (n : Int) := by omega
    have eN : N = some (l, j) := by
     rw [<- HN1.o, leads_true (fun q t ht => by
      have hq := (List.getElem?_eq_some_iff.1 ht).1
      have hl := HLn.o
      rw [hl] at hq ⊢
      exact HA.o q t (by omega) ht)]
     rfl
    subst eN
    go_wp2_with fail
    go_ret
    exact ⟨⟨_, rfl, stRow_fr HV.o HFr.o⟩, HR.o.fr HFr.o (by simp), HF.o.trans (HFr.o.mono (by simp))⟩
end Go.Proofs.YtccikgogjfbpeabGreatDoor

namespace Go.Proofs.YtccikgogjfbpeabGreatDoor
open Go.RowKit
theorem Tryz.infoIeP : (Tryz.prog.info? 101).map (fun i => (i.zero, i.size, i.bytes)) = some (some (.slice none 0 0), 1, 24) := by kernel_rfl
theorem StVs.base {zb zb' : Nat} {w : World} (hz : zb' <= zb) : ∀ {l : List StepM} {xs : List Value}, StVs zb w l xs -> StVs zb' w l xs
 | [], _, h => h
 | _ :: _, _, ⟨c, rest, e, ⟨vn, e1, h1⟩, h2⟩ => ⟨c, rest, e, ⟨vn, e1, ownsRow_base h1 hz⟩, StVs.base hz h2⟩
theorem StRow.base {b b' : Nat} {w : World} {v : Value} {l : List StepM} (h : StRow b w b v l) (hb : b' <= b) : StRow b' w b' v l := by
 obtain ⟨xs, h1, h2⟩ := h
 exact ⟨xs, ownsRow_base h1 hb, h2.base hb⟩
def PgRow (base : Nat) (w : World) (v : Value) (ps : List (List StepM)) : Prop := ∃ xs, w.ownsRow base 101 1 v ps.length xs /\ ∀ (j : Nat) (l : List StepM), ps[j]? = some l -> ∃ vj, xs[j]? = some vj /\ StRow base w base vj l
set_option maxRecDepth 30000 in
set_option maxHeartbeats 1000000 in
theorem manyProg_any (w : World) (B : Nat) (s : ByteArray) (i TT : Nat) (lo hi : Int) (ra : Option Addr) (nr rc : Nat) (na : Option Addr) (nn nc : Nat) (h : RdAt w B s i TT) (hne : TT ≠ B) (c0 : w.cell? ⟨TT, 0, none⟩ = some (.slice ra nr rc)) (c1 : w.cell? ⟨TT, 1, none⟩ = some (.slice na nn nc)) (hr6 : nr <= 6) (hn8 : nn <= 8) (hhi : hi <= 255) :
  Calls Tryz.prog 85 #[.pointer (some ⟨B, 0, none⟩), .int .i64 lo, .int .i64 hi, .func (.func 86) #[.pointer (some ⟨B, 0, none⟩)] #[]] w (RdP w B s TT (manyR s.data.toList lo hi (progR s.data.toList nr nn) i) fun w' v xs => PgRow w.heap.size w' v xs) := by
 obtain ⟨ij, hj', hy0, hy1, hy2⟩ := info_parts Tryz.infoIeP
 have HH := hid (rnumber_any w B s i TT 1 1 lo hi h (by decide) rfl)
 have hBl : B < w.heap.size := (Array.getElem?_eq_some_iff.1 h.bx).1
 have HO : Hid (∀ W i, Fr (fun k => k = B) w W -> RdAt W B s i TT -> Calls Tryz.prog 86 #[.pointer (some ⟨B, 0, none⟩)] W (RdP W B s TT (progR s.data.toList nr nn i) fun w' v x => StRow W.heap.size w' W.heap.size v x)) := fun W i hf hR => rprogram_any W B s i TT ra nr rc na nn nc hR hne ((hf.cell (p := ⟨TT, 0, none⟩) (World.block_lt_of_cell? w _ c0) hne).trans c0) ((hf.cell (p := ⟨TT, 1, none⟩) (World.block_lt_of_cell? w _ c1) hne).trans c1) hr6 hn8
 obtain ⟨N, hN⟩ : ∃ N, manyR s.data.toList lo hi (progR s.data.toList nr nn) i = N := ⟨_, rfl⟩
 rw [hN]
 have HN := hid hN
 generalize progR s.data.toList nr nn = one at *
 clear h hN c0 c1 hne
 go_enter Tryz.func85, Tryz.ntmps85
 go_wp2_with fail
 refine HH.o.mono ?_
 intro e w1 hp
 clear HH
 cases h1 : numR s.data.toList 1 lo hi i with
 | none =>
  rw [h1] at hp
  obtain ⟨he, hf⟩ := hp
  have eN : N = none := by rw [<- HN.o]; exact many_none h1
  subst eN
  unfold noE at he
  subst he
  exact ⟨rfl, rfl, hf⟩
 | some nj =>
  obtain ⟨n, j⟩ := nj
  rw [h1] at hp
  obtain ⟨⟨v, rfl, rfl⟩, hR1, hf1⟩ := hp
  have HR1 := hid hR1
  have HF1 := hid hf1
  have hn : n <= 255 := by have := (numR_some h1).2; omega
  have HN1 : Hid (restR one [] n j = N) := by show _ = _; rw [<- HN.o]; exact (many_rest h1).symm
  clear h1 hR1 hf1 HN
  go_wp2_with fail
  go_loopg [9, 14] n (fun m ov kv wr => ∃ (k : Nat) (xs : List (List StepM)) (jj : Nat), k <= n /\ m = n - k /\ kv = .int .i64 (k : Nat) /\ xs.length = k /\ Hid (RdAt wr B s jj TT) /\ Hid (PgRow w.heap.size wr ov xs) /\ Hid (restR one xs (n - k) jj = N) /\ Hid (Fr (fun k => k = B) w wr))
  case atStart => exact ⟨0, [], j, by omega, rfl, rfl, rfl, HR1, ⟨[], World.ownsRow_nil _ _ _ _, fun j l h => by simp at h⟩, HN1, HF1⟩
  case round =>
   obtain ⟨k, xs, jj, hk, rfl, rfl, hxs, HR, HOw, HNr, HFr⟩ := hrel
   obtain ⟨ys, hys, hst⟩ := HOw.o
   rw [hxs] at hys
   obtain ⟨oa, oc, ho⟩ := ownsRow_len hys
   subst ho
   have HYs := hid hys
   have HSt := hid hst
   clear hys hst
   by_cases hlt : k < n
   ·have hki : (k : Int) < (n : Int) := by omega
    have HN2 : Hid (restR one xs (n - (k + 1) + 1) jj = N) := by show _ = _; rw [show n - (k + 1) + 1 = n - k from by omega]; exact HNr.o
    clear HNr
    go_wp2_with fail
    refine (HO.o wr jj HFr.o HR.o).mono ?_
    intro e w2 hp
    cases h2 : one jj with
    | none =>
     rw [h2] at hp
     obtain ⟨he, hf⟩ := hp
     have eN : N = none := by rw [<- HN2.o]; exact rest_none h2
     subst eN
     unfold noE at he
     subst he
     exact ⟨rfl, rfl, HFr.o.trans hf⟩
    | some xj =>
     obtain ⟨x, j3⟩ := xj
     rw [h2] at hp
     obtain ⟨⟨v, rfl, hnu⟩, hR2, hf2⟩ := hp
     obtain ⟨zs, hzs, _⟩ := id hnu
     obtain ⟨qa, qc, e1⟩ := ownsRow_len hzs
     subst e1
     have HNu := hid (hnu.base HFr.o.size)
     clear hzs
     have HR2 := hid hR2
     have HF2 := hid (HFr.o.trans hf2)
     have HO2 := hid (ownsRow_fr HYs.o hf2 (fun k hk => by omega))
     have HSt2 : Hid (∀ (j : Nat) (l : List StepM), xs[j]? = some l -> ∃ vj, ys[j]? = some vj /\ StRow w.heap.size w2 w.heap.size vj l) := fun j l hj => by
      obtain ⟨vj, e1, e2⟩ := HSt.o j l hj
      exact ⟨vj, e1, stRow_low e2 (Nat.le_refl _) hf2 (fun k hk => by omega)⟩
     have HN3 : Hid (restR one (xs ++ [x]) (n - (k + 1)) j3 = N) := by show _ = _; rw [<- HN2.o]; exact (rest_some h2).symm
     clear h2 hR2 hf2 HN2 HOw HR HFr hnu HYs HSt
     go_wp2_with (at_builtin; refine wpList_append_lies _ rfl (.tmp 16) (.tmp 19) 87 rfl w.heap.size 101 ij _ 1 24 Tryz.underlying87 hj' hy0 hy1 hy2 rfl (by decide) (.slice oa k oc) k ys rfl ?h1 ⟨w2.heap.size, 0, none⟩ 1 1 [.slice qa x.length qc] rfl rfl ?h2 ?h3 (by decide) ?h4 ?h5 ?h6 _ rfl ?h7)
     case h1 => exact HO2.o.alloc _
     try case h2 => exact World.news_of_block (heap_alloc_new w2 (.cells #[.slice qa x.length qc] 101))
     case h3 => simp [Value.oneCell']
     case h4 => unfold maxLen; omega
     case h5 => omega
     case h6 => have := HF2.o.size; simp; omega
     case h7 =>
      intro g2 cap2 w8 hown hgrow hor _
      have HF8 : Hid (Fr (fun k => k = B) w w8) := (HF2.o.alloc _).grown hgrow (fun k hk => Or.inr (HO2.o.lt k hk).1)
      have HR8 : Hid (RdAt w8 B s j3 TT) := by
       have f : Fr (fun k' => (Value.slice oa k oc).ownBlock = some k') w2 w8 := ((Fr.refl _ _).alloc _).grown hgrow (fun k hk => .inl hk)
       exact HR2.o.fr f (fun hb => by have := (HO2.o.lt B hb).1; omega)
      have HO8 : Hid (PgRow w.heap.size w8 (.slice (some ⟨g2, 0, none⟩) (k + 1) cap2) (xs ++ [x])) := by
       have hk : ∀ v l, StRow w.heap.size w2 w.heap.size v l -> StRow w.heap.size w8 w.heap.size v l := fun v l hs => by
        obtain ⟨us, u1, u2⟩ := hs
        have o1 : (w2.alloc (.cells #[.slice qa x.length qc] 101)).ownsRow w.heap.size 101 1 (.slice oa k oc) k ys := HO2.o.alloc _
        exact ⟨us, (u1.alloc _).kept hgrow (own_ne (u1.alloc _) o1 (by decide)), u2.keep (fun v n zs hv => (hv.alloc _).kept hgrow (own_ne (hv.alloc _) o1 (by decide)))⟩
       refine ⟨ys ++ [.slice qa x.length qc], by rw [List.length_append, hxs]; exact hown, fun j l hj => ?_⟩
       have hyl : ys.length = k := by have e := HO2.o.1; simpa using e
       by_cases hjk : j < k
       ·rw [List.getElem?_append_left (by omega)] at hj
        obtain ⟨vj, e1, e2⟩ := HSt2.o j l hj
        exact ⟨vj, by rw [List.getElem?_append_left (by omega)]; exact e1, hk _ _ e2⟩
       ·rw [List.getElem?_append_right (by omega), hxs] at hj
        have hj0 : j - k = 0 := by
         have := (List.getElem?_eq_some_iff.1 hj).1
         simp at this
         omega
        rw [hj0] at hj
        simp at hj
        subst hj
        exact ⟨_, by rw [List.getElem?_append_right (by omega), hyl, hj0]; rfl, hk _ _ HNu.o⟩
      clear hown hgrow hor
      go_wp2_with fail
      go_roundg (n - (k + 1))
      case measure => omega
      case rel => exact ⟨k + 1, xs ++ [x], j3, by omega, rfl, by go_num, by simp [hxs], HR8, HO8, HN3, HF8⟩
   ·have hki : ¬ (k : Int) < (n : Int) := by omega
    have eN : N = some (xs, jj) := by
     have e := HNr.o
     rw [show n - k = 0 from by omega, rest_end] at e
     exact e.symm
    subst eN
    clear HNr
    go_wp2_with fail
    go_ret
    exact ⟨⟨_, rfl, HOw.o⟩, HR.o, HFr.o⟩
end Go.Proofs.YtccikgogjfbpeabGreatDoor
