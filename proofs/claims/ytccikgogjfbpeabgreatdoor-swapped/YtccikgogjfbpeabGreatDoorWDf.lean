/- Deciding: is it a payment; the tree's Decide, the table's Decide. Deciding: the table's Decide. -/
import Derived.Test.YtccikgogjfbpeabGreatDoorWDe
import Derived.Laws.Tables
import Derived.Test.YtccikgogjfbpeabGreatDoorWHa
namespace Go.Proofs.YtccikgogjfbpeabGreatDoor
open Go.RowKit
def payV (p : PayM) : Value := .agg #[.string p.pan, .int .i64 p.mcc, .int .i64 p.am, .int .i64 p.cur]
def payO (p : PayM) : Obj := .cells #[.string p.pan, .int .i64 p.mcc, .int .i64 p.am, .int .i64 p.cur] 24
def outV (o : Nat × ByteArray × ByteArray) : Value := .agg #[.int .i64 (o.1 : Nat), .string o.2.1, .string o.2.2]
def rngOk (n m : Int) : Bool := decide (0 <= n) && decide (n <= m)
theorem payOk_eq (p : PayM) : payOk p = (panOk p.pan && (rngOk p.mcc 9999 && (rngOk p.am 1000000000 && rngOk p.cur 999))) := by
 unfold payOk rngOk
 simp only [Bool.and_assoc]
set_option maxRecDepth 30000 in
set_option maxHeartbeats 2000000 in
theorem isPayment_any (w : World) (p : PayM) (hs : p.pan.size <= maxLen) :
  Calls Tryz.prog 48 #[payV p] w fun e w' => e = .returned (.bool (payOk p)) /\ F0 w w' := by
 have HP : Hid (∀ W, Calls Tryz.prog 88 #[.string p.pan] W fun e w' => e = .returned (.bool (panOk p.pan)) /\ F0 W w') := fun W => isPan_any p.pan W hs
 have HU : Hid (∀ W n m, Calls Tryz.prog 89 #[.int .i64 n, .int .i64 m] W fun e w' => e = .returned (.bool (rngOk n m)) /\ w' = W) := fun W n m => tupTo_any W n m
 have HF : Hid (F0 w (w.alloc (payO p))) := (Fr.refl _ _).alloc _
 have HX : Hid ((w.alloc (payO p)).heap[w.heap.size]? = some (payO p)) := heap_alloc_new w _
 rw [payOk_eq]
 obtain ⟨b0, h0⟩ : ∃ b, panOk p.pan = b := ⟨_, rfl⟩
 obtain ⟨b1, h1⟩ : ∃ b, rngOk p.mcc 9999 = b := ⟨_, rfl⟩
 obtain ⟨b2, h2⟩ : ∃ b, rngOk p.am 1000000000 = b := ⟨_, rfl⟩
 obtain ⟨b3, h3⟩ : ∃ b, rngOk p.cur 999 = b := ⟨_, rfl⟩
 have HU1 : Hid (∀ W, Calls Tryz.prog 89 #[.int .i64 p.mcc, .int .i64 9999] W fun e w' => e = .returned (.bool b1) /\ w' = W) := fun W => by rw [<- h1]; exact HU.o W _ _
 have HU2 : Hid (∀ W, Calls Tryz.prog 89 #[.int .i64 p.am, .int .i64 1000000000] W fun e w' => e = .returned (.bool b2) /\ w' = W) := fun W => by rw [<- h2]; exact HU.o W _ _
 have HU3 : Hid (∀ W, Calls Tryz.prog 89 #[.int .i64 p.cur, .int .i64 999] W fun e w' => e = .returned (.bool b3) /\ w' = W) := fun W => by rw [<- h3]; exact HU.o W _ _
 rw [h0] at HP
 rw [h0, h1, h2, h3]
 clear h0 h1 h2 h3 HU hs
 unfold payO at HF HX
 unfold payV
 go_enter Tryz.func48, Tryz.ntmps48
 go_upto_region 1 with fail
 generalize w.alloc (.cells #[.string p.pan, .int .i64 p.mcc, .int .i64 p.am, .int .i64 p.cur] 24) = W at *
 generalize w.heap.size = X at *
 have x0 := block_cell HX.o 0 _ rfl
 go_wp2_with fail
 refine (HP.o _).mono ?_
 rintro e w1 ⟨rfl, hf1⟩
 have HF1 : Hid (F0 w w1) := HF.o.trans hf1
 have HX1 := hf1.whole HX.o (by simp)
 have y1 := block_cell HX1 1 _ rfl
 have y2 := block_cell HX1 2 _ rfl
 have y3 := block_cell HX1 3 _ rfl
 clear hf1 HX1 x0
 cases b0 with
 | false =>
  go_wp2_with fail
  go_ret
  exact ⟨rfl, HF1.o⟩
 | true =>
  go_wp2_with fail
  refine (HU1.o _).mono ?_
  rintro e w2 ⟨rfl, hw⟩
  replace hw := hw.symm
  subst hw
  cases b1 with
  | false =>
   go_wp2_with fail
   go_ret
   exact ⟨rfl, HF1.o⟩
  | true =>
   go_wp2_with fail
   refine (HU2.o _).mono ?_
   rintro e w2 ⟨rfl, hw⟩
   replace hw := hw.symm
   subst hw
   cases b2 with
   | false =>
    go_wp2_with fail
    go_ret
    exact ⟨rfl, HF1.o⟩
   | true =>
    go_wp2_with fail
    refine (HU3.o _).mono ?_
    rintro e w2 ⟨rfl, hw⟩
    replace hw := hw.symm
    subst hw
    go_wp2_with fail
    go_ret
    exact ⟨rfl, HF1.o⟩
theorem set3 {w : World} {b : Nat} {t : TypeId} {u0 u1 u2 v0 v1 v2 : Value} (h : w.heap[b]? = some (.cells #[u0, u1, u2] t)) :
    (((w.setCell ⟨b, 0, none⟩ v0).setCell ⟨b, 1, none⟩ v1).setCell ⟨b, 2, none⟩ v2).heap[b]? = some (.cells #[v0, v1, v2] t) := by
  have e := heap_setCell_same _ b 2 _ _ v2 (heap_setCell_same _ b 1 _ _ v1 (heap_setCell_same w b 0 _ _ v0 h))
  simpa using e
structure TgAt (zb : Nat) (w : World) (TT : Nat) (rts : List RouteM) (ra : Option Addr) (rc : Nat) (nms : List ByteArray) (prs : List (List StepM)) (tr : Tr) : Prop where
 bx : ∃ vn vp a b, w.heap[TT]? = some (.cells #[.slice ra rts.length rc, vn, vp, a, b] 92) /\ w.ownsRow zb 9 1 vn nms.length (nms.map Value.string) /\ (∃ xs, w.ownsRow zb 101 1 vp prs.length xs /\ ∀ (j : Nat) (l : List StepM), prs[j]? = some l -> ∃ vj, xs[j]? = some vj /\ StRow zb w zb vj l) /\ TrAt w zb tr (.agg #[a, b])
 ro : w.ownsRow 0 144 3 (.slice ra rts.length rc) rts.length (rtRow rts)
theorem TgAt.fr {zb : Nat} {w w' : World} {TT : Nat} {rts : List RouteM} {ra : Option Addr} {rc : Nat} {nms : List ByteArray} {prs : List (List StepM)} {tr : Tr} (h : TgAt zb w TT rts ra rc nms prs tr) (hf : F0 w w') : TgAt zb w' TT rts ra rc nms prs tr := by
 obtain ⟨vn, vp, a, b, h1, h2, ⟨xs, h3, h4⟩, h5⟩ := h.bx
 refine ⟨⟨vn, vp, a, b, hf.whole h1 (by simp), ownsRow_fr h2 hf (by simp), ⟨xs, ownsRow_fr h3 hf (by simp), fun j m hj => ?_⟩, h5.keep' hf (by simp)⟩, ownsRow_fr h.ro hf (by simp)⟩
 obtain ⟨vj, e1, e2⟩ := h4 j m hj
 exact ⟨vj, e1, stRow_fr e2 hf⟩
theorem NmAt.ofN {w : World} {TT Q base nc : Nat} {na : Option Addr} {nms : List ByteArray} {i : Nat} {r : ByteArray} (hc : w.cell? ⟨TT, 1, none⟩ = some (.slice na nms.length nc)) (hr : w.ownsRow base 9 1 (.slice na nms.length nc) nms.length (nms.map Value.string)) (hQ : w.heap.size <= Q) (hi : nms[i]? = some r) (hs : r.size <= 3000) : ∃ g, NmAt w TT Q i r g nms.length nc := by
 have hT : TT < w.heap.size := World.block_lt_of_cell? w _ hc
 have hl := (List.getElem?_eq_some_iff.1 hi).1
 obtain ⟨g, cap, e, _, hg⟩ := hr.form (by omega)
 injection e with e _ _
 subst e
 have hx := hr.cells (g := g) rfl i (.string r) (by rw [List.getElem?_map, hi]; rfl)
 rw [addr_add', Nat.zero_add] at hx
 exact ⟨g, hc, hl, hx, hs, by omega, by omega⟩
structure PtOk (rts : List RouteM) (nms : List ByteArray) (prs : List (List StepM)) (tr : Tr) : Prop where
 rt : ∀ t, t ∈ rts -> RtOk t
 r6 : rts.length <= 6
 nm : ∀ s, s ∈ nms -> s.size <= 3000
 gd : ∀ l, l ∈ prs -> l.length <= 1000 /\ ∀ s, s ∈ l -> s.sort < 3 -> GdOk s
 dp : tr.deep 0
def EndsAt (rts : List RouteM) (nms : List ByteArray) (prs : List (List StepM)) (tr : Tr) (p : PayM) (s : StepM) : Prop :=
 ∃ l, prs[tr.find (dgt (card6 p.pan)) 0]? = some l /\ (∃ n, machM (okS p) l n 0 = some s) /\ (s.sort = 6 \/ ((s.sort = 3 \/ s.sort = 4 \/ s.sort = 5) /\ s.nums.length <= 4000 /\ (∀ x, x ∈ s.nums -> x < rts.length) /\ s.rule < nms.length))
def decG (rts : List RouteM) (nms : List ByteArray) (p : PayM) (dn : Nat -> Bool) (s : StepM) : Nat × ByteArray × ByteArray :=
 if payOk p then endOut rts (nms.getD s.rule ByteArray.empty) s dn p.am else (1, ByteArray.empty, ByteArray.empty)
structure TfAt (w : World) (zb TT : Nat) (rts : List RouteM) (ra : Option Addr) (rc : Nat) (nms : List ByteArray) (prs : List (List StepM)) (tr : Tr) : Prop where
 tg : TgAt zb w TT rts ra rc nms prs tr
 bk : PtOk rts nms prs tr
theorem TfAt.fr {w w' : World} {zb TT : Nat} {rts : List RouteM} {ra : Option Addr} {rc : Nat} {nms : List ByteArray} {prs : List (List StepM)} {tr : Tr} (h : TfAt w zb TT rts ra rc nms prs tr) (hf : F0 w w') : TfAt w' zb TT rts ra rc nms prs tr := ⟨h.tg.fr hf, h.bk⟩
def DnV (w : World) (TT : Nat) (fv : Value) (dn : Nat -> Bool) : Prop := ∀ W, F0 w W -> Calls Tryz.prog 49 #[.pointer (some ⟨TT, 0, none⟩), fv] W fun e w' => e = .returned (.agg #[.bool (dn 0), .bool (dn 1), .bool (dn 2), .bool (dn 3), .bool (dn 4), .bool (dn 5)]) /\ F0 W w'
set_option maxRecDepth 30000 in
set_option maxHeartbeats 4000000 in
theorem tDecide_f (w : World) (zb TT : Nat) (rts : List RouteM) (ra : Option Addr) (rc : Nat) (nms : List ByteArray) (prs : List (List StepM)) (tr : Tr) (fv : Value) (dn : Nat -> Bool) (p : PayM) (sE : StepM) (h : TfAt w zb TT rts ra rc nms prs tr) (hdn : DnV w TT fv dn) (he : payOk p = true -> EndsAt rts nms prs tr p sE) (hs : p.pan.size <= maxLen) :
  Calls Tryz.prog 26 #[.pointer (some ⟨TT, 0, none⟩), payV p, fv] w fun e w' => e = .returned (outV (decG rts nms p (dn) sE)) /\ F0 w w' := by
 have HH : Hid (TfAt w zb TT rts ra rc nms prs tr) := h
 have HEn := hid he
 have HDV := hid hdn
 have HIP : Hid (∀ W, Calls Tryz.prog 48 #[.agg #[.string p.pan, .int .i64 p.mcc, .int .i64 p.am, .int .i64 p.cur]] W fun e w' => e = .returned (.bool (payOk p)) /\ F0 W w') := fun W => isPayment_any W p hs
 have HF0 : Hid (F0 w ((w.alloc (payO p)).alloc (.cells #[.int .i64 0, .string ⟨#[]⟩, .string ⟨#[]⟩] 30))) := ((Fr.refl _ _).alloc _).alloc _
 have HP0 : Hid (((w.alloc (payO p)).alloc (.cells #[.int .i64 0, .string ⟨#[]⟩, .string ⟨#[]⟩] 30)).heap[w.heap.size]? = some (payO p)) := ((Fr.refl (fun _ => False) _).alloc _).whole (heap_alloc_new w _) (by simp)
 have HO0 : Hid (((w.alloc (payO p)).alloc (.cells #[.int .i64 0, .string ⟨#[]⟩, .string ⟨#[]⟩] 30)).heap[w.heap.size + 1]? = some (.cells #[.int .i64 0, .string ⟨#[]⟩, .string ⟨#[]⟩] 30)) := by
  have e := heap_alloc_new (w.alloc (payO p)) (.cells #[.int .i64 0, .string ⟨#[]⟩, .string ⟨#[]⟩] 30)
  rw [show (w.alloc (payO p)).heap.size = w.heap.size + 1 from by simp] at e
  exact e
 unfold payV
 unfold payO at HF0 HP0 HO0
 clear h hs he hdn
 go_enter Tryz.func26, Tryz.ntmps26
 go_upto_region 1 with fail
 generalize (w.alloc (.cells #[.string p.pan, .int .i64 p.mcc, .int .i64 p.am, .int .i64 p.cur] 24)).alloc (.cells #[.int .i64 0, .string ⟨#[]⟩, .string ⟨#[]⟩] 30) = W0 at *
 obtain ⟨P, hP⟩ : ∃ P, w.heap.size = P := ⟨_, rfl⟩
 have HPe : Hid (w.heap.size = P) := hP
 rw [hP] at HP0 HO0
 rw [hP]
 clear hP
 have x0 := block_cell HP0.o 0 _ rfl
 have x1 := block_cell HP0.o 1 _ rfl
 have x2 := block_cell HP0.o 2 _ rfl
 have x3 := block_cell HP0.o 3 _ rfl
 go_wp2_with fail
 refine (HIP.o _).mono ?_
 rintro e w1 ⟨rfl, hf1⟩
 have HF1 : Hid (F0 w w1) := HF0.o.trans hf1
 have HP1 : Hid (w1.heap[P]? = some (.cells #[.string p.pan, .int .i64 p.mcc, .int .i64 p.am, .int .i64 p.cur] 24)) := hf1.whole HP0.o (by simp)
 have HO1 : Hid (w1.heap[P + 1]? = some (.cells #[.int .i64 0, .string ⟨#[]⟩, .string ⟨#[]⟩] 30)) := hf1.whole HO0.o (by simp)
 have HH1 : Hid (TfAt w1 zb TT rts ra rc nms prs tr) := HH.o.fr HF1.o
 have hPw : w.heap.size <= P + 1 := by have := HPe.o; omega
 clear hf1 x0 x1 x2 x3 HP0 HO0
 cases hpo : payOk p with
 | false =>
  have HD : Hid (decG rts nms p (dn) sE = (1, ByteArray.empty, ByteArray.empty)) := by show _ = _; unfold decG; rw [if_neg (by rw [hpo]; simp)]
  have o0 := block_cell HO1.o 0 _ rfl
  have o1 := block_cell HO1.o 1 _ rfl
  have o2 := block_cell HO1.o 2 _ rfl
  have fo0 := block_frozen HO1.o 0
  have fo1 := block_frozen HO1.o 1
  have fo2 := block_frozen HO1.o 2
  go_wp2_with fail
  have e3 := set3 (v0 := .int .i64 1) (v1 := .string ⟨#[]⟩) (v2 := .string ⟨#[]⟩) HO1.o
  have s0 := block_cell e3 0 _ rfl
  have s1 := block_cell e3 1 _ rfl
  have s2 := block_cell e3 2 _ rfl
  refine bodyPost_ret (v := .agg #[.int .i64 1, .string ⟨#[]⟩, .string ⟨#[]⟩]) (by simp [results, Tryz.results26, go_sem, s0, s1, s2]) rfl ⟨by rw [HD.o]; rfl, ?_⟩
  exact ((HF1.o.setCell (p := ⟨P + 1, 0, none⟩) (Or.inr hPw) _).setCell (p := ⟨P + 1, 1, none⟩) (Or.inr hPw) _).setCell (p := ⟨P + 1, 2, none⟩) (Or.inr hPw) _
 | true =>
  have HPO : Hid (payOk p = true) := hpo
  clear hpo
  go_upto_region 3 with fail
  have HDN : Hid (∀ W, F0 w1 W -> Calls Tryz.prog 49 #[.pointer (some ⟨TT, 0, none⟩), fv] W fun e w' => e = .returned (.agg #[.bool (dn 0), .bool (dn 1), .bool (dn 2), .bool (dn 3), .bool (dn 4), .bool (dn 5)]) /\ F0 W w') := by
   exact fun W hW => HDV.o W (HF1.o.trans hW)
  have HSP : Hid (∀ W, F0 w1 W -> W.cell? ⟨P, 0, none⟩ = some (.string p.pan) /\ W.cell? ⟨P, 1, none⟩ = some (.int .i64 p.mcc) /\ W.cell? ⟨P, 2, none⟩ = some (.int .i64 p.am) /\ W.cell? ⟨P, 3, none⟩ = some (.int .i64 p.cur)) := fun W hW => by
   have e := hW.whole HP1.o (by simp)
   exact ⟨block_cell e 0 _ rfl, block_cell e 1 _ rfl, block_cell e 2 _ rfl, block_cell e 3 _ rfl⟩
  go_cut [7] (fun v wx => ∃ Q, v = .pointer (some ⟨Q, 0, none⟩) /\ Hid (F0 w1 wx /\ w1.heap.size <= Q /\ wx.heap[Q]? = some (rnO TT p (dn) 0 false (0, ByteArray.empty, ByteArray.empty))))
  case first =>
   refine wp_region_held_drew (S := fun W => W.cell? ⟨P, 0, none⟩ = some (.string p.pan) /\ W.cell? ⟨P, 1, none⟩ = some (.int .i64 p.mcc) /\ W.cell? ⟨P, 2, none⟩ = some (.int .i64 p.am) /\ W.cell? ⟨P, 3, none⟩ = some (.int .i64 p.cur)) (by kernel_rfl) (HSP.o _ (Fr.refl _ _).drew) (fun hH => ?_)
   refine htk 0 (v := ?v0z) ?y0z hH ?r0z
   case y0z => rintro w ⟨s0, s1, s2, s3⟩; go_simp; with_reducible rfl
   try go_frame
   refine htk 1 (v := ?v1z) ?y1z hH ?r1z
   case y1z => rintro w ⟨s0, s1, s2, s3⟩; go_simp; with_reducible rfl
   try go_frame
   refine htk 2 (v := ?v2z) ?y2z hH ?r2z
   case y2z => rintro w ⟨s0, s1, s2, s3⟩; go_simp; with_reducible rfl
   try go_frame
   refine htk 3 (v := ?v3z) ?y3z hH ?r3z
   case y3z => rintro w ⟨s0, s1, s2, s3⟩; go_simp; with_reducible rfl
   try go_frame
   refine wpAnyH_ready (rs := [4, 6]) (by kernel_rfl) (by simp) ?_
   refine held_cons rfl (fun K2 hK => ?_) ?_
   ·try rw [if_pos (by rfl)]
    go_simp
    refine (HDN.o _ ((Fr.refl _ _).drew)).mono ?_
    rintro e w5 ⟨rfl, hf5⟩
    have HF5 : Hid (F0 w1 w5) := ((Fr.refl _ _).drew).trans hf5
    clear hf5
    refine hK.out _ _ (HSP.o _ HF5.o) (fun hH => ?_)
    clear hK K2
    try go_frame
    refine htk 5 (v := ?v5A) ?y5A hH ?r5A
    case y5A => intro w hw; go_simp; with_reducible rfl
    try go_frame
    refine wpAnyH_ready (rs := [6]) (by kernel_rfl) (by simp) ?_
    refine held_cons rfl (fun K2 hK => ?_) AllReadyH.nil
    try rw [if_pos (by rfl)]
    go_simp
    refine hK.out _ _ (HSP.o _ (HF5.o.alloc _)) (fun hH => ?_)
    clear hK K2
    try go_frame
    refine wpAnyH_ready (rs := [7]) (by kernel_rfl) (by simp) ?_
    refine held_cons rfl (fun K2 hK => ?_) AllReadyH.nil
    try rw [if_pos (by rfl)]
    refine wp_store_row 99 _ _ rfl w5.heap.size #[.pointer (some ⟨TT, 0, none⟩), .string p.pan, .int .i64 p.mcc, .int .i64 p.am, .int .i64 p.cur, .bool (dn 0), .bool (dn 1), .bool (dn 2), .bool (dn 3), .bool (dn 4), .bool (dn 5), .int .i64 0, .bool false, .int .i64 0, .string ⟨#[]⟩, .string ⟨#[]⟩] rfl rfl 99 _ (heap_alloc_new w5 _) (by kernel_rfl) rfl (by simp [Value.oneCell']) ?_
    refine hK.out _ _ (HSP.o _ (Fr.setRow (HF5.o.alloc _) (Or.inr HF5.o.size) _)) (fun _ => ?_)
    clear hK K2
    try go_frame
    refine wpAnyH_done (by kernel_rfl) ?_ _
    go_wp2_with fail
    go_meet
    refine ⟨w5.heap.size, rfl, Fr.setRow (HF5.o.alloc _) (Or.inr HF5.o.size) _, HF5.o.size, ?_⟩
    have e := setRow_heap (w5.alloc (.cells #[.pointer none, .string ⟨#[]⟩, .int .i64 0, .int .i64 0, .int .i64 0, .bool false, .bool false, .bool false, .bool false, .bool false, .bool false, .int .i64 0, .bool false, .int .i64 0, .string ⟨#[]⟩, .string ⟨#[]⟩] 99)) w5.heap.size _ #[.pointer (some ⟨TT, 0, none⟩), .string p.pan, .int .i64 p.mcc, .int .i64 p.am, .int .i64 p.cur, .bool (dn 0), .bool (dn 1), .bool (dn 2), .bool (dn 3), .bool (dn 4), .bool (dn 5), .int .i64 0, .bool false, .int .i64 0, .string ⟨#[]⟩, .string ⟨#[]⟩] _ _ (heap_alloc_new w5 _)
    exact e
   ·refine held_cons rfl (fun K2 hK => ?_) AllReadyH.nil
    try rw [if_pos (by rfl)]
    go_simp
    refine hK.out _ _ (HSP.o _ (((Fr.refl _ _).drew).alloc _)) (fun hH => ?_)
    clear hK K2
    try go_frame
    have HFA : Hid (F0 w1 (w1.drew.alloc (.cells #[.pointer none, .string ⟨#[]⟩, .int .i64 0, .int .i64 0, .int .i64 0, .bool false, .bool false, .bool false, .bool false, .bool false, .bool false, .int .i64 0, .bool false, .int .i64 0, .string ⟨#[]⟩, .string ⟨#[]⟩] 99))) := ((Fr.refl _ _).drew).alloc _
    have HXA : Hid ((w1.drew.alloc (.cells #[.pointer none, .string ⟨#[]⟩, .int .i64 0, .int .i64 0, .int .i64 0, .bool false, .bool false, .bool false, .bool false, .bool false, .bool false, .int .i64 0, .bool false, .int .i64 0, .string ⟨#[]⟩, .string ⟨#[]⟩] 99)).heap[w1.heap.size]? = some (.cells #[.pointer none, .string ⟨#[]⟩, .int .i64 0, .int .i64 0, .int .i64 0, .bool false, .bool false, .bool false, .bool false, .bool false, .bool false, .int .i64 0, .bool false, .int .i64 0, .string ⟨#[]⟩, .string ⟨#[]⟩] 99)) := heap_alloc_new w1.drew _
    refine wpAnyH_ready (rs := [4]) (by kernel_rfl) (by simp) ?_
    refine held_cons rfl (fun K2 hK => ?_) AllReadyH.nil
    try rw [if_pos (by rfl)]
    go_simp
    refine (HDN.o _ HFA.o).mono ?_
    rintro e w5 ⟨rfl, hf5⟩
    have HF5 : Hid (F0 w1 w5) := HFA.o.trans hf5
    have HX5 : Hid (w5.heap[w1.heap.size]? = some (.cells #[.pointer none, .string ⟨#[]⟩, .int .i64 0, .int .i64 0, .int .i64 0, .bool false, .bool false, .bool false, .bool false, .bool false, .bool false, .int .i64 0, .bool false, .int .i64 0, .string ⟨#[]⟩, .string ⟨#[]⟩] 99)) := hf5.whole HXA.o (by simp)
    clear hf5
    refine hK.out _ _ (HSP.o _ HF5.o) (fun hH => ?_)
    clear hK K2
    try go_frame
    refine htk 5 (v := ?v5B) ?y5B hH ?r5B
    case y5B => intro w hw; go_simp; with_reducible rfl
    try go_frame
    refine wpAnyH_ready (rs := [7]) (by kernel_rfl) (by simp) ?_
    refine held_cons rfl (fun K2 hK => ?_) AllReadyH.nil
    try rw [if_pos (by rfl)]
    refine wp_store_row 99 _ _ rfl w1.heap.size #[.pointer (some ⟨TT, 0, none⟩), .string p.pan, .int .i64 p.mcc, .int .i64 p.am, .int .i64 p.cur, .bool (dn 0), .bool (dn 1), .bool (dn 2), .bool (dn 3), .bool (dn 4), .bool (dn 5), .int .i64 0, .bool false, .int .i64 0, .string ⟨#[]⟩, .string ⟨#[]⟩] rfl rfl 99 _ HX5.o (by kernel_rfl) rfl (by simp [Value.oneCell']) ?_
    refine hK.out _ _ (HSP.o _ (Fr.setRow HF5.o (Or.inr (Nat.le_refl _)) _)) (fun _ => ?_)
    clear hK K2
    try go_frame
    refine wpAnyH_done (by kernel_rfl) ?_ _
    go_wp2_with fail
    go_meet
    exact ⟨w1.heap.size, rfl, Fr.setRow HF5.o (Or.inr (Nat.le_refl _)) _, Nat.le_refl _, setRow_heap w5 w1.heap.size _ _ _ _ HX5.o⟩
  case rest =>
   obtain ⟨Q, rfl, HQ⟩ := hcut
   have hpan : panOk p.pan = true := by have e := HPO.o; rw [payOk_eq, Bool.and_eq_true] at e; exact e.1
   have ham : 0 <= p.am /\ p.am <= 1000000000 := by
    have e := HPO.o
    rw [payOk_eq] at e
    simp only [Bool.and_eq_true, rngOk, decide_eq_true_eq] at e
    exact e.2.2.1
   obtain ⟨lp, hm1, hm2, hen⟩ := HEn.o HPO.o
   obtain ⟨res, hres⟩ : ∃ res, tr.find (dgt (card6 p.pan)) 0 = res := ⟨_, rfl⟩
   rw [hres] at hm1
   obtain ⟨vn, vp, aa, bb, hbx, hnm, ⟨xs, hpg, hst⟩, htr⟩ := HH1.o.tg.bx
   obtain ⟨na, nc, e1⟩ := ownsRow_len hnm
   subst e1
   obtain ⟨vj, hvj, hsj⟩ := hst res lp hm1
   have hnp := (List.getElem?_eq_some_iff.1 hm1).1
   obtain ⟨pg, pc, e2, _, hpgl⟩ := hpg.form (by omega)
   subst e2
   have hvc := hpg.cells (g := pg) rfl res vj hvj
   rw [addr_add', Nat.zero_add] at hvc
   have hsj' := hsj
   obtain ⟨ys, hsr, _⟩ := hsj'
   obtain ⟨pa, pc2, e3⟩ := ownsRow_len hsr
   subst e3
   obtain ⟨np, hnpe⟩ : ∃ np, prs.length = np := ⟨_, rfl⟩
   obtain ⟨ll, hll⟩ : ∃ ll, lp.length = ll := ⟨_, rfl⟩
   have hQ := HQ.o
   have HPGt : Hid (PgAt w1 Q pa lp) := PgAt.of hsj hQ.2.1
   have HRt : Hid (RtAt w1 TT Q rts ra rc) := RtAt.of (block_cell hbx 0 _ rfl) HH1.o.tg.ro hQ.2.1 HH1.o.bk.rt
   have HLF : Hid (LfAt w1 zb TT 3 0 tr aa bb (dgt (card6 p.pan)) res) := ⟨block_cell hbx 3 _ rfl, block_cell hbx 4 _ rfl, htr, HH1.o.bk.dp, hres⟩
   have HEN : Hid (EnOk w1 TT Q rts (nms.getD sE.rule ByteArray.empty) sE) := by
    rcases hen with h6 | ⟨h3, h4, h5, hru⟩
    ·exact Or.inl h6
    ·obtain ⟨g, hg⟩ := NmAt.ofN (Q := Q) (i := sE.rule) (block_cell hbx 1 _ rfl) hnm hQ.2.1 (List.getElem?_eq_getElem hru) (HH1.o.bk.nm _ (List.getElem_mem _))
     rw [show nms.getD sE.rule ByteArray.empty = nms[sE.rule] from by simp [List.getD, hru]]
     exact Or.inr ⟨h3, h4, h5, g, _, _, hg⟩
   have HOUT : Hid (decG rts nms p (dn) sE = endOut rts (nms.getD sE.rule ByteArray.empty) sE (dn) p.am) := by show _ = _; unfold decG; rw [if_pos HPO.o]
   obtain ⟨out, hout⟩ : ∃ out, decG rts nms p (dn) sE = out := ⟨_, rfl⟩
   have HOE : Hid (decG rts nms p (dn) sE = out) := hout
   have HSC : Hid (∀ W', Fr (fun j => j = Q) wc W' -> W'.cell? ⟨TT, 2, none⟩ = some (.slice (some ⟨pg, 0, none⟩) np pc) /\ W'.cell? ⟨P, 0, none⟩ = some (.string p.pan) /\ W'.cell? ⟨pg, res, none⟩ = some (.slice pa ll pc2)) := by
    intro W' hf
    have f1 : Fr (fun j => j = Q) w1 W' := (hQ.1.mono (by simp)).trans hf
    have b1 : w1.cell? ⟨TT, 2, none⟩ = some (.slice (some ⟨pg, 0, none⟩) np pc) := by rw [<- hnpe]; exact block_cell hbx 2 _ rfl
    have b2 : w1.cell? ⟨P, 0, none⟩ = some (.string p.pan) := block_cell HP1.o 0 _ rfl
    have b3 : w1.cell? ⟨pg, res, none⟩ = some (.slice pa ll pc2) := by rw [<- hll]; exact hvc
    have k1 : TT < w1.heap.size := World.block_lt_of_cell? w1 _ b1
    have k2 : P < w1.heap.size := World.block_lt_of_cell? w1 _ b2
    have hq2 := hQ.2.1
    exact ⟨(f1.cell (p := ⟨TT, 2, none⟩) k1 (by show TT ≠ Q; omega)).trans b1, (f1.cell (p := ⟨P, 0, none⟩) k2 (by show P ≠ Q; omega)).trans b2, (f1.cell (p := ⟨pg, res, none⟩) hpgl (by show pg ≠ Q; omega)).trans b3⟩
   have HL : Hid (∀ W', Hid (F0 wc W') -> Calls Tryz.prog 51 #[.pointer (some ⟨TT, 0, none⟩), .string p.pan] W' fun e w' => e = .returned (.int .i64 (res : Nat)) /\ Hid (F0 wc w') /\ w'.cell? ⟨TT, 2, none⟩ = some (.slice (some ⟨pg, 0, none⟩) np pc) /\ w'.cell? ⟨P, 0, none⟩ = some (.string p.pan) /\ w'.cell? ⟨pg, res, none⟩ = some (.slice pa ll pc2)) := by
    intro W' hf
    have f1 := hQ.1.trans hf.o
    obtain ⟨l1, l2, l3, l4, l5⟩ := HLF.o
    refine (leaf_any W' zb TT _ aa bb p.pan res ⟨(f1.cell (p := ⟨TT, 3, none⟩) (World.block_lt_of_cell? w1 _ l1) (by simp)).trans l1, (f1.cell (p := ⟨TT, 3 + 1, none⟩) (World.block_lt_of_cell? w1 _ l2) (by simp)).trans l2, l3.keep' f1 (by simp), l4, l5⟩ hpan).mono ?_
    rintro e w' ⟨he, h3⟩
    have h4 := hf.o.trans h3
    exact ⟨he, h4, HSC.o _ (h4.mono (by simp))⟩
   have HT : Hid (∀ W', Hid (F0 wc W') -> Calls Tryz.prog 50 #[.pointer (some ⟨Q, 0, none⟩), .slice pa ll pc2] W' fun e w' => e = .returned (.tuple #[]) /\ Hid ((∃ k, w'.heap[Q]? = some (rnO TT p (dn) k true out)) /\ Fr (fun j => j = Q) wc w') /\ w'.cell? ⟨TT, 2, none⟩ = some (.slice (some ⟨pg, 0, none⟩) np pc) /\ w'.cell? ⟨P, 0, none⟩ = some (.string p.pan) /\ w'.cell? ⟨pg, res, none⟩ = some (.slice pa ll pc2)) := by
    intro W' hf
    have f1 : Fr (fun j => j = Q) w1 W' := (hQ.1.trans hf.o).mono (by simp)
    rw [<- hll]
    have hgd := HH1.o.bk.gd lp (List.mem_of_getElem? hm1)
    refine (through_any W' Q TT p (dn) (0, ByteArray.empty, ByteArray.empty) pa pc2 _ sE rts ra rc _ (hf.o.whole hQ.2.2 (by simp)) (HPGt.o.fr f1) hgd.2 hgd.1 hm2 (HEN.o.fr f1) (HRt.o.fr f1) HH1.o.bk.r6 ham).mono ?_
    ·rintro e w' ⟨he, h2, h3⟩
     have h4 := (hf.o.mono (T := fun j => j = Q) (by simp)).trans h3
     rw [<- HOUT.o, HOE.o] at h2
     have hS := HSC.o _ h4
     rw [<- hll] at hS
     exact ⟨he, ⟨h2, h4⟩, hS⟩
   have hS := HSC.o wc (Fr.refl _ _)
   have HZd : Hid (F0 wc wc.drew) := (Fr.refl _ _).drew
   have hri : (res : Int) < (np : Int) := by omega
   have HQS : Hid (w1.heap.size <= Q) := hQ.2.1
   have HQF : Hid (F0 w1 wc) := hQ.1
   clear hQ hen hpan ham hm1 hm2 hres hbx hnm hpg hst htr hvj hsj hnp hpgl hvc hsr hnpe hll hout HSC HLF HEN HOUT HPGt HRt HDN HSP
   go_upto_region 4 with fail
   go_region_held3 (fun W' => W'.cell? ⟨TT, 2, none⟩ = some (.slice (some ⟨pg, 0, none⟩) np pc) /\ W'.cell? ⟨P, 0, none⟩ = some (.string p.pan) /\ W'.cell? ⟨pg, res, none⟩ = some (.slice pa ll pc2)) (first | assumption | go_keep) (first
    | (go_at_call 51; refine (HL.o _ (by assumption)).mono ?_; rintro e w7 ⟨rfl, HZ7, hS7⟩)
    | (go_at_call 50; refine (HT.o _ (by assumption)).mono ?_; rintro e w7 ⟨rfl, HZE, hS7⟩))
   obtain ⟨kz, hqz⟩ := HZE.o.1
   have hP1 := (Array.getElem?_eq_some_iff.1 HO1.o).1
   have HO7 : Hid (w7.heap[P + 1]? = some (.cells #[.int .i64 0, .string ⟨#[]⟩, .string ⟨#[]⟩] 30)) := HZE.o.2.whole (HQF.o.whole HO1.o (by simp)) (fun e => by have := HQS.o; omega)
   have HF7 : Hid (F0 w w7) := (HF1.o.trans HQF.o).monoNew HZE.o.2 (fun k hk => Or.inr (by have := HQS.o; have := HF1.o.size; omega))
   have q13 : w7.cell? ⟨Q, 13, none⟩ = some (.int .i64 (out.1 : Nat)) := block_cell hqz 13 _ rfl
   have q14 : w7.cell? ⟨Q, 14, none⟩ = some (.string out.2.1) := block_cell hqz 14 _ rfl
   have q15 : w7.cell? ⟨Q, 15, none⟩ = some (.string out.2.2) := block_cell hqz 15 _ rfl
   have o0 := block_cell HO7.o 0 _ rfl
   have o1 := block_cell HO7.o 1 _ rfl
   have o2 := block_cell HO7.o 2 _ rfl
   have fo0 := block_frozen HO7.o 0
   have fo1 := block_frozen HO7.o 1
   have fo2 := block_frozen HO7.o 2
   clear hqz hP1 hS7 hS HL HT
   go_wp2_with fail
   have e3 := set3 (v0 := .int .i64 (out.1 : Nat)) (v1 := .string out.2.1) (v2 := .string out.2.2) HO7.o
   have s0 := block_cell e3 0 _ rfl
   have s1 := block_cell e3 1 _ rfl
   have s2 := block_cell e3 2 _ rfl
   refine bodyPost_ret (v := .agg #[.int .i64 (out.1 : Nat), .string out.2.1, .string out.2.2]) (by simp [results, Tryz.results26, go_sem, s0, s1, s2]) rfl ⟨by rw [HOE.o]; rfl, ?_⟩
   exact ((HF7.o.setCell (p := ⟨P + 1, 0, none⟩) (Or.inr hPw) _).setCell (p := ⟨P + 1, 1, none⟩) (Or.inr hPw) _).setCell (p := ⟨P + 1, 2, none⟩) (Or.inr hPw) _
structure TdAt (w : World) (zb TT D : Nat) (rts : List RouteM) (ra : Option Addr) (rc : Nat) (nms : List ByteArray) (prs : List (List StepM)) (tr : Tr) (a : Option Addr) (c : Nat) (l : List ByteArray) : Prop where
 tg : TgAt zb w TT rts ra rc nms prs tr
 bk : PtOk rts nms prs tr
 d0 : w.cell? ⟨D, 0, none⟩ = some (.slice a l.length c)
 st : StrsAt w a l
 ln : l.length <= maxLen
theorem TdAt.fr {w w' : World} {zb TT D : Nat} {rts : List RouteM} {ra : Option Addr} {rc : Nat} {nms : List ByteArray} {prs : List (List StepM)} {tr : Tr} {a : Option Addr} {c : Nat} {l : List ByteArray} (h : TdAt w zb TT D rts ra rc nms prs tr a c l) (hf : F0 w w') : TdAt w' zb TT D rts ra rc nms prs tr a c l :=
 ⟨h.tg.fr hf, h.bk, (hf.cell (p := ⟨D, 0, none⟩) (World.block_lt_of_cell? w _ h.d0) (by simp)).trans h.d0, h.st.fr hf (by simp), h.ln⟩
theorem tDecide_any (w : World) (zb TT D : Nat) (rts : List RouteM) (ra : Option Addr) (rc : Nat) (nms : List ByteArray) (prs : List (List StepM)) (tr : Tr) (a : Option Addr) (c : Nat) (l : List ByteArray) (p : PayM) (sE : StepM) (h : TdAt w zb TT D rts ra rc nms prs tr a c l) (he : payOk p = true -> EndsAt rts nms prs tr p sE) (hs : p.pan.size <= maxLen) :
  Calls Tryz.prog 26 #[.pointer (some ⟨TT, 0, none⟩), payV p, .func (.func 27) #[] #[.pointer (some ⟨D, 0, none⟩)]] w fun e w' => e = .returned (outV (decG rts nms p (dnF rts l) sE)) /\ F0 w w' :=
 tDecide_f w zb TT rts ra rc nms prs tr _ (dnF rts l) p sE ⟨h.tg, h.bk⟩ (fun W hW => by
  have hh := h.fr hW
  obtain ⟨vn, vp, aa, bb, hbx, _⟩ := hh.tg.bx
  exact downs_any W TT W.heap.size D rts ra rc a c l (RtAt.of (block_cell hbx 0 _ rfl) hh.tg.ro (Nat.le_refl _) hh.bk.rt) hh.bk.r6 hh.d0 hh.st hh.ln) he hs
end Go.Proofs.YtccikgogjfbpeabGreatDoor

namespace Go.Proofs.YtccikgogjfbpeabGreatDoor
open Go.RowKit
structure DgAt (w : World) (zb T TT : Nat) (rts : List RouteM) (ra : Option Addr) (rc : Nat) (nms : List ByteArray) (prs : List (List StepM)) (tr : Tr) (a : Option Addr) (l : List ByteArray) : Prop where
 t1 : w.cell? ⟨T, 1, none⟩ = some (.pointer (some ⟨TT, 0, none⟩))
 tg : TgAt zb w TT rts ra rc nms prs tr
 bk : PtOk rts nms prs tr
 st : StrsAt w a l
 ln : l.length <= maxLen
set_option maxRecDepth 30000 in
set_option maxHeartbeats 2000000 in
theorem Decide_g (w : World) (zb T TT : Nat) (rts : List RouteM) (ra : Option Addr) (rc : Nat) (nms : List ByteArray) (prs : List (List StepM)) (tr : Tr) (a : Option Addr) (c : Nat) (l : List ByteArray) (p : PayM) (sE : StepM) (h : DgAt w zb T TT rts ra rc nms prs tr a l) (hen : payOk p = true -> EndsAt rts nms prs tr p sE) (hs : p.pan.size <= maxLen) :
  Calls Tryz.prog 7 #[.pointer (some ⟨T, 0, none⟩), payV p, .slice a l.length c] w fun e w' => e = .returned (outV (decG rts nms p (dnF rts l) sE)) /\ F0 w w' := by
 have hmf : ∀ (fn : Fn) (first cap : Array Value) (w : World), (Instr.makeFunc fn first cap).run Tryz.prog w = .ok (.func fn first cap) w := fun _ _ _ _ => rfl
 have HF0 : Hid (F0 w (((w.alloc (payO p)).alloc (.cells #[.slice a l.length c] 33)).alloc (.cells #[.int .i64 0, .string ⟨#[]⟩, .string ⟨#[]⟩] 30))) := (((Fr.refl _ _).alloc _).alloc _).alloc _
 have HP0 : Hid ((((w.alloc (payO p)).alloc (.cells #[.slice a l.length c] 33)).alloc (.cells #[.int .i64 0, .string ⟨#[]⟩, .string ⟨#[]⟩] 30)).heap[w.heap.size]? = some (payO p)) := (((Fr.refl (fun _ => False) _).alloc _).alloc _).whole (heap_alloc_new w _) (by simp)
 have HD0 : Hid ((((w.alloc (payO p)).alloc (.cells #[.slice a l.length c] 33)).alloc (.cells #[.int .i64 0, .string ⟨#[]⟩, .string ⟨#[]⟩] 30)).heap[w.heap.size + 1]? = some (.cells #[.slice a l.length c] 33)) := by
  have e := heap_alloc_new (w.alloc (payO p)) (.cells #[.slice a l.length c] 33)
  rw [show (w.alloc (payO p)).heap.size = w.heap.size + 1 from by simp] at e
  exact ((Fr.refl (fun _ => False) _).alloc _).whole e (by simp)
 have HO0 : Hid ((((w.alloc (payO p)).alloc (.cells #[.slice a l.length c] 33)).alloc (.cells #[.int .i64 0, .string ⟨#[]⟩, .string ⟨#[]⟩] 30)).heap[w.heap.size + 1 + 1]? = some (.cells #[.int .i64 0, .string ⟨#[]⟩, .string ⟨#[]⟩] 30)) := by
  have e := heap_alloc_new ((w.alloc (payO p)).alloc (.cells #[.slice a l.length c] 33)) (.cells #[.int .i64 0, .string ⟨#[]⟩, .string ⟨#[]⟩] 30)
  rw [show ((w.alloc (payO p)).alloc (.cells #[.slice a l.length c] 33)).heap.size = w.heap.size + 1 + 1 from by simp] at e
  exact e
 have HH := hid h
 have HEn := hid hen
 unfold payV
 unfold payO at HF0 HP0 HO0 HD0
 obtain ⟨n, hn⟩ : ∃ n, l.length = n := ⟨_, rfl⟩
 have HN := hid hn
 rw [hn] at HF0 HP0 HO0 HD0 ⊢
 have HSZ := hid hs
 clear h hs hn hen
 go_enter Tryz.func7, Tryz.ntmps7
 go_upto_region 1 with fail
 generalize ((w.alloc (.cells #[.string p.pan, .int .i64 p.mcc, .int .i64 p.am, .int .i64 p.cur] 24)).alloc (.cells #[.slice a n c] 33)).alloc (.cells #[.int .i64 0, .string ⟨#[]⟩, .string ⟨#[]⟩] 30) = W at *
 obtain ⟨P, hP⟩ : ∃ P, w.heap.size = P := ⟨_, rfl⟩
 have HPe := hid hP
 rw [hP] at HP0 HO0 HD0
 rw [hP]
 clear hP
 have HTD : Hid (∀ W', F0 W W' -> Calls Tryz.prog 26 #[.pointer (some ⟨TT, 0, none⟩), .agg #[.string p.pan, .int .i64 p.mcc, .int .i64 p.am, .int .i64 p.cur], .func (.func 27) #[] #[.pointer (some ⟨P + 1, 0, none⟩)]] W' fun e w' => e = .returned (outV (decG rts nms p (dnF rts l) sE)) /\ F0 W' w') := by
  intro W' hf
  have f := HF0.o.trans hf
  have hh := HH.o
  exact tDecide_any W' zb TT (P + 1) rts ra rc nms prs tr a c l p sE ⟨hh.tg.fr f, hh.bk, by rw [HN.o]; exact block_cell (hf.whole HD0.o (by simp)) 0 _ rfl, hh.st.fr f (by simp), hh.ln⟩ HEn.o HSZ.o
 obtain ⟨out, hout⟩ : ∃ out, decG rts nms p (dnF rts l) sE = out := ⟨_, rfl⟩
 have HOE := hid hout
 rw [hout] at HTD
 unfold outV at HTD
 have HSC : Hid (∀ W', F0 W W' -> W'.cell? ⟨T, 1, none⟩ = some (.pointer (some ⟨TT, 0, none⟩)) /\ W'.cell? ⟨P, 0, none⟩ = some (.string p.pan) /\ W'.cell? ⟨P, 1, none⟩ = some (.int .i64 p.mcc) /\ W'.cell? ⟨P, 2, none⟩ = some (.int .i64 p.am) /\ W'.cell? ⟨P, 3, none⟩ = some (.int .i64 p.cur)) := fun W' hf => by
  have e := hf.whole HP0.o (by simp)
  have t1 := HH.o.t1
  exact ⟨((HF0.o.trans hf).cell (p := ⟨T, 1, none⟩) (World.block_lt_of_cell? w _ t1) (by simp)).trans t1, block_cell e 0 _ rfl, block_cell e 1 _ rfl, block_cell e 2 _ rfl, block_cell e 3 _ rfl⟩
 have HTP : Hid (T < P /\ w.heap.size <= P + 1 + 1) := ⟨by rw [<- HPe.o]; exact World.block_lt_of_cell? w _ HH.o.t1, by rw [HPe.o]; omega⟩
 clear hout
 refine wp_region_held_drew (S := fun W' => W'.cell? ⟨T, 1, none⟩ = some (.pointer (some ⟨TT, 0, none⟩)) /\ W'.cell? ⟨P, 0, none⟩ = some (.string p.pan) /\ W'.cell? ⟨P, 1, none⟩ = some (.int .i64 p.mcc) /\ W'.cell? ⟨P, 2, none⟩ = some (.int .i64 p.am) /\ W'.cell? ⟨P, 3, none⟩ = some (.int .i64 p.cur)) (by kernel_rfl) (HSC.o _ (Fr.refl _ _).drew) (fun hH => ?_)
 refine htk 0 (v := ?v0z) ?y0z hH ?r0z
 case y0z => rintro w ⟨s0, s1, s2, s3, s4⟩; go_simp; with_reducible rfl
 try go_frame
 refine htk 1 (v := ?v1z) ?y1z hH ?r1z
 case y1z => rintro w ⟨s0, s1, s2, s3, s4⟩; go_simp; with_reducible rfl
 try go_frame
 refine htk 2 (v := ?v2z) ?y2z hH ?r2z
 case y2z => rintro w ⟨s0, s1, s2, s3, s4⟩; go_simp; with_reducible rfl
 try go_frame
 refine htk 3 (v := ?v3z) ?y3z hH ?r3z
 case y3z => rintro w ⟨s0, s1, s2, s3, s4⟩; go_simp; with_reducible rfl
 try go_frame
 refine htk 4 (v := ?v4z) ?y4z hH ?r4z
 case y4z => rintro w ⟨s0, s1, s2, s3, s4⟩; go_simp; with_reducible rfl
 try go_frame
 refine htk 5 (v := ?v5z) ?y5z hH ?r5z
 case y5z => rintro w ⟨s0, s1, s2, s3, s4⟩; go_simp; with_reducible rfl
 try go_frame
 refine wpAnyH_ready (rs := [6]) (by kernel_rfl) (by simp) ?_
 refine held_cons rfl (fun K2 hK => ?_) AllReadyH.nil
 try rw [if_pos (by rfl)]
 go_simp
 refine (HTD.o _ ((Fr.refl _ _).drew)).mono ?_
 rintro e w7 ⟨rfl, hf7⟩
 have HF7 := hid (((Fr.refl _ _).drew).trans hf7)
 have HO7 := hid (HF7.o.whole HO0.o (by simp))
 clear hf7
 refine hK.out _ _ (HSC.o _ HF7.o) (fun hH => ?_)
 clear hK K2
 try go_frame
 have o0 := block_cell HO7.o 0 _ rfl
 have o1 := block_cell HO7.o 1 _ rfl
 have o2 := block_cell HO7.o 2 _ rfl
 have fo0 := block_frozen HO7.o 0
 have fo1 := block_frozen HO7.o 1
 have fo2 := block_frozen HO7.o 2
 refine wpAnyH_ready (rs := [7]) (by kernel_rfl) (by simp) ?_
 refine held_cons rfl (fun K2 hK => ?_) AllReadyH.nil
 try rw [if_pos (by rfl)]
 go_simp
 have HF8 : Fr (fun j => j = P + 1 + 1) w7 (((w7.setCell ⟨P + 1 + 1, 0, none⟩ (.int .i64 (out.1 : Nat))).setCell ⟨P + 1 + 1, 1, none⟩ (.string out.2.1)).setCell ⟨P + 1 + 1, 2, none⟩ (.string out.2.2)) := (((Fr.refl (fun j => j = P + 1 + 1) w7).setCell (p := ⟨P + 1 + 1, 0, none⟩) (Or.inl rfl) _).setCell (p := ⟨P + 1 + 1, 1, none⟩) (Or.inl rfl) _).setCell (p := ⟨P + 1 + 1, 2, none⟩) (Or.inl rfl) _
 have HFn : F0 w (((w7.setCell ⟨P + 1 + 1, 0, none⟩ (.int .i64 (out.1 : Nat))).setCell ⟨P + 1 + 1, 1, none⟩ (.string out.2.1)).setCell ⟨P + 1 + 1, 2, none⟩ (.string out.2.2)) := (HF0.o.trans HF7.o).monoNew HF8 (fun k hk => Or.inr (by have := HTP.o.2; omega))
 have HE3 := set3 (v0 := .int .i64 (out.1 : Nat)) (v1 := .string out.2.1) (v2 := .string out.2.2) HO7.o
 obtain ⟨s0, s1, s2, s3, s4⟩ := HSC.o _ HF7.o
 have kk : ∀ X o v, X < P + 1 + 1 -> w7.cell? ⟨X, o, none⟩ = some v -> (((w7.setCell ⟨P + 1 + 1, 0, none⟩ (.int .i64 (out.1 : Nat))).setCell ⟨P + 1 + 1, 1, none⟩ (.string out.2.1)).setCell ⟨P + 1 + 1, 2, none⟩ (.string out.2.2)).cell? ⟨X, o, none⟩ = some v := fun X o v hX hv => (HF8.cell (p := ⟨X, o, none⟩) (World.block_lt_of_cell? w7 _ hv) (by show X ≠ P + 1 + 1; omega)).trans hv
 have hTP := HTP.o.1
 refine hK.out _ _ ⟨kk T 1 _ (by omega) s0, kk P 0 _ (by omega) s1, kk P 1 _ (by omega) s2, kk P 2 _ (by omega) s3, kk P 3 _ (by omega) s4⟩ (fun _ => ?_)
 clear hK K2 kk s0 s1 s2 s3 s4 HF8
 try go_frame
 generalize ((w7.setCell ⟨P + 1 + 1, 0, none⟩ (.int .i64 (out.1 : Nat))).setCell ⟨P + 1 + 1, 1, none⟩ (.string out.2.1)).setCell ⟨P + 1 + 1, 2, none⟩ (.string out.2.2) = W8 at *
 refine wpAnyH_done (by kernel_rfl) ?_ _
 go_wp2_with fail
 have s0 := block_cell HE3 0 _ rfl
 have s1 := block_cell HE3 1 _ rfl
 have s2 := block_cell HE3 2 _ rfl
 refine bodyPost_ret (v := .agg #[.int .i64 (out.1 : Nat), .string out.2.1, .string out.2.2]) (by simp [results, Tryz.results7, go_sem, s0, s1, s2]) rfl ⟨by rw [HOE.o]; rfl, HFn⟩
structure DcAt (w : World) (zb T TT : Nat) (rts : List RouteM) (R : List RuleM) (ra : Option Addr) (rc : Nat) (a : Option Addr) (l : List ByteArray) : Prop where
 t1 : w.cell? ⟨T, 1, none⟩ = some (.pointer (some ⟨TT, 0, none⟩))
 tr : TreeAt zb w TT (.slice ra rts.length rc) R (stageF (rankF R) R.length)
 ro : w.ownsRow 0 144 3 (.slice ra rts.length rc) rts.length (rtRow rts)
 bk : BookOk rts R
 st : StrsAt w a l
 ln : l.length <= maxLen
theorem grown_pt {rts : List RouteM} {R : List RuleM} (hb : BookOk rts R) : PtOk rts (R.map RuleM.name) ((growM R 7 ⟨0, 0⟩ 0 (2 ^ R.length - 1) []).2.map fun m => writeM R m (ordL R.length (stageF (rankF R) R.length))) (growM R 7 ⟨0, 0⟩ 0 (2 ^ R.length - 1) []).1 := by
 refine ⟨hb.rt, hb.r6, fun s hs => ?_, fun l hl => ?_, grown_deep hb⟩
 ·obtain ⟨r, hr, rfl⟩ := List.mem_map.1 hs
  exact (hb.rl r hr).nm
 ·obtain ⟨m, hm, rfl⟩ := List.mem_map.1 hl
  refine ⟨?_, fun s hs h3 => write_guards hb.rl m _ s hs h3⟩
  have e1 := writeM_len R m (ordL R.length (stageF (rankF R) R.length))
  have e2 : (ordL R.length (stageF (rankF R) R.length)).length = R.length := by simp [ordL]
  have e3 := hb.l8
  omega
theorem TreeAt.tg {zb : Nat} {w : World} {TT : Nat} {rts : List RouteM} {ra : Option Addr} {rc : Nat} {R : List RuleM} (h : TreeAt zb w TT (.slice ra rts.length rc) R (stageF (rankF R) R.length)) (hr : w.ownsRow 0 144 3 (.slice ra rts.length rc) rts.length (rtRow rts)) : TgAt zb w TT rts ra rc (R.map RuleM.name) ((growM R 7 ⟨0, 0⟩ 0 (2 ^ R.length - 1) []).2.map fun m => writeM R m (ordL R.length (stageF (rankF R) R.length))) (growM R 7 ⟨0, 0⟩ 0 (2 ^ R.length - 1) []).1 := by
 obtain ⟨vn, vp, a, b, h1, h2, ⟨xs, h3, h4⟩, h5⟩ := h.bx
 refine ⟨⟨vn, vp, a, b, h1, by rw [List.length_map]; exact h2, ⟨xs, by rw [List.length_map]; exact h3, fun j l hj => ?_⟩, h5⟩, hr⟩
 rw [List.getElem?_map] at hj
 obtain ⟨m, hm, e⟩ := Option.map_eq_some_iff.1 hj
 subst e
 exact h4 j m hm
theorem grown_ends {rts : List RouteM} {R : List RuleM} (hb : BookOk rts R) (p : PayM) (hp : payOk p = true) : EndsAt rts (R.map RuleM.name) ((growM R 7 ⟨0, 0⟩ 0 (2 ^ R.length - 1) []).2.map fun m => writeM R m (ordL R.length (stageF (rankF R) R.length))) (growM R 7 ⟨0, 0⟩ 0 (2 ^ R.length - 1) []).1 p (endM R (bestR (rankF R) (meetC R p (card6 p.pan)) R.length)) := by
 have hpan : panOk p.pan = true := by have e := hp; rw [payOk_eq, Bool.and_eq_true] at e; exact e.1
 obtain ⟨m, hm1, hm2⟩ := grown_ok hb p hpan
 refine ⟨_, by rw [List.getElem?_map, hm1]; rfl, hm2, ?_⟩
 have ho := bestR_ok (rankF R) (meetC R p (card6 p.pan)) R.length
 cases hq : bestR (rankF R) (meetC R p (card6 p.pan)) R.length with
 | none => exact Or.inl rfl
 | some i =>
  rw [hq] at ho
  obtain ⟨r, hr⟩ : ∃ r, R[i]? = some r := ⟨_, List.getElem?_eq_getElem ho.1⟩
  have hro := hb.rl r (List.mem_of_getElem? hr)
  refine Or.inr ?_
  have hi : i < (R.map RuleM.name).length := by rw [List.length_map]; exact ho.1
  simp only [endM, hr]
  unfold actM
  split
  ·exact ⟨Or.inl rfl, by simp, by simp, hi⟩
  ·split
   ·exact ⟨Or.inr (Or.inr rfl), hro.pl.1, hro.pl.2, hi⟩
   ·exact ⟨Or.inr (Or.inl rfl), hro.pl.1, hro.pl.2, hi⟩
theorem grown_dec {rts : List RouteM} {R : List RuleM} (p : PayM) (dn : Nat -> Bool) : decG rts (R.map RuleM.name) p dn (endM R (bestR (rankF R) (meetC R p (card6 p.pan)) R.length)) = decM rts R p dn := by
 unfold decG
 by_cases hp : payOk p = true
 ·rw [if_pos hp, end_out p dn hp _ rfl]
  cases hq : bestR (rankF R) (meetC R p (card6 p.pan)) R.length with
  | none => simp [endM, endOut]
  | some i =>
   have ho := bestR_ok (rankF R) (meetC R p (card6 p.pan)) R.length
   rw [hq] at ho
   obtain ⟨r, hr⟩ : ∃ r, R[i]? = some r := ⟨_, List.getElem?_eq_getElem ho.1⟩
   have e : (endM R (some i)).rule = i := by
    simp only [endM, hr]
    unfold actM
    split
    ·rfl
    ·split <;> rfl
   rw [e]
   simp [List.getD, hr]
 ·rw [if_neg hp]
  unfold decM
  rw [if_neg hp]
theorem Decide_any (w : World) (zb T TT : Nat) (rts : List RouteM) (R : List RuleM) (ra : Option Addr) (rc : Nat) (a : Option Addr) (c : Nat) (l : List ByteArray) (p : PayM) (h : DcAt w zb T TT rts R ra rc a l) (hs : p.pan.size <= maxLen) :
  Calls Tryz.prog 7 #[.pointer (some ⟨T, 0, none⟩), payV p, .slice a l.length c] w fun e w' => e = .returned (outV (decM rts R p (dnF rts l))) /\ F0 w w' := by
 have e := Decide_g w zb T TT rts ra rc _ _ _ a c l p _ ⟨h.t1, h.tr.tg h.ro, grown_pt h.bk, h.st, h.ln⟩ (grown_ends h.bk p) hs
 rw [grown_dec] at e
 exact e
end Go.Proofs.YtccikgogjfbpeabGreatDoor
