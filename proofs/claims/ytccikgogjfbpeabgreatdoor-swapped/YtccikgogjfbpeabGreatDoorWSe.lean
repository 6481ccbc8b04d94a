/- The switch: a message handled. The keep Swapped: its messages; where its tables and switches stand. -/
import Derived.Test.YtccikgogjfbpeabGreatDoorWHa
import Derived.Test.YtccikgogjfbpeabGreatDoorWSb
import Derived.Test.YtccikgogjfbpeabGreatDoorWIh
import Derived.Test.YtccikgogjfbpeabGreatDoorWKc
namespace Go.Proofs.YtccikgogjfbpeabGreatDoor
open Go.RowKit Go.Maps Go.WideMaps
theorem dnv_sw {w : World} {zb TT X M T0 n : Nat} {D : DataW Unit} {rts : List RouteM} {ra : Option Addr} {rc : Nat} {nms : List ByteArray} {prs : List (List StepM)} {tr : Tr} (h : SwM w X M T0 n D) (ht : TfAt w zb TT rts ra rc nms prs tr) : DnV w TT (.func (.func 38) #[.pointer (some ⟨X, 0, none⟩)] #[]) (dnW rts D) := fun W hW => by
 have hh := ht.fr hW
 obtain ⟨vn, vp, aa, bb, hbx, _⟩ := hh.tg.bx
 exact downs_sw W TT W.heap.size X M T0 n D rts ra rc (RtAt.of (block_cell hbx 0 _ rfl) hh.tg.ro (Nat.le_refl _) hh.bk.rt) hh.bk.r6 (h.fr hW (by simp) (by simp))
set_option maxRecDepth 30000 in
set_option maxHeartbeats 2000000 in
theorem Handle_g (w : World) (X M TT n zb : Nat) (D : DataW Unit) (rts : List RouteM) (ra : Option Addr) (rc : Nat) (nms : List ByteArray) (prs : List (List StepM)) (tr : Tr) (pan m a c : List UInt8) (sE : StepM) (h : SwM w X M TT n D) (ht : TfAt w zb TT rts ra rc nms prs tr) (hp : 32 ∉ pan) (hp1 : 4 <= pan.length /\ pan.length <= 100) (hm : DW m 4) (ha : DW a 10) (hc : DW c 3)
  (he : payOk ⟨bs pan, (numOf m : Nat), (numOf a : Nat), (numOf c : Nat)⟩ = true -> EndsAt rts nms prs tr ⟨bs pan, (numOf m : Nat), (numOf a : Nat), (numOf c : Nat)⟩ sE) :
  Calls Tryz.prog 17 #[.pointer (some ⟨X, 0, none⟩), .string (bs (wireL pan m a c))] w fun e w' => e = .returned (outV (decG rts nms ⟨bs pan, (numOf m : Nat), (numOf a : Nat), (numOf c : Nat)⟩ (dnW rts D) sE)) /\ F0 w w' := by
 have hmf : ∀ (fn : Fn) (first cap : Array Value) (w : World), (Instr.makeFunc fn first cap).run Tryz.prog w = .ok (.func fn first cap) w := fun _ _ _ _ => rfl
 have HRM := hid (fun W => readMessage_any pan m a c W hp hp1 hm ha hc)
 have hps : (bs pan).size <= maxLen := by rw [bs_size]; unfold maxLen; omega
 obtain ⟨p, hpe⟩ : ∃ p : PayM, (⟨bs pan, (numOf m : Nat), (numOf a : Nat), (numOf c : Nat)⟩ : PayM) = p := ⟨_, rfl⟩
 have hs : p.pan.size <= maxLen := by rw [<- hpe]; exact hps
 rw [hpe] at HRM he ⊢
 generalize bs (wireL pan m a c) = S at *
 have HO0 := hid (heap_alloc_new w (.cells #[.int .i64 0, .string ⟨#[]⟩, .string ⟨#[]⟩] 30))
 have HF0 : Hid (F0 w (w.alloc (.cells #[.int .i64 0, .string ⟨#[]⟩, .string ⟨#[]⟩] 30))) := (Fr.refl _ _).alloc _
 have HT : Hid (∀ W, F0 w W -> Calls Tryz.prog 26 #[.pointer (some ⟨TT, 0, none⟩), .agg #[.string p.pan, .int .i64 p.mcc, .int .i64 p.am, .int .i64 p.cur], .func (.func 38) #[.pointer (some ⟨X, 0, none⟩)] #[]] W fun e w' => e = .returned (outV (decG rts nms p (dnW rts D) sE)) /\ F0 W w') := fun W hf => tDecide_f W zb TT rts ra rc nms prs tr _ (dnW rts D) p sE (ht.fr hf) (dnv_sw (h.fr hf (by simp) (by simp)) (ht.fr hf)) he hs
 have HX : Hid (∀ W, F0 w W -> W.cell? ⟨X, 0, none⟩ = some (.pointer (some ⟨TT, 0, none⟩))) := fun W hf => block_cell (hf.whole h.bx (by simp)) 0 _ rfl
 have HXl := hid h.lt.1
 clear h ht hp hp1 hm ha hc he hps hpe hs
 unfold payV at HRM
 go_enter Tryz.func17, Tryz.ntmps17
 go_upto_region 1 with fail
 generalize w.alloc _ = w0 at *
 obtain ⟨Q, hQ⟩ : ∃ Q, w.heap.size = Q := ⟨_, rfl⟩
 have HQ : Hid (w.heap.size <= Q /\ X < Q) := ⟨Nat.le_of_eq hQ, by rw [<- hQ]; exact HXl.o⟩
 rw [hQ] at HO0 ⊢
 clear hQ HXl
 go_wp2_with fail
 refine (HRM.o w0).mono ?_
 rintro e w1 ⟨rfl, hf1⟩
 have HF2 : Hid (F0 w (w1.alloc (.cells #[.string p.pan, .int .i64 p.mcc, .int .i64 p.am, .int .i64 p.cur] 24))) := (HF0.o.trans hf1).alloc _
 have HO2 := hid ((hf1.alloc (.cells #[.string p.pan, .int .i64 p.mcc, .int .i64 p.am, .int .i64 p.cur] 24)).whole HO0.o (by simp))
 have HP2 := hid (heap_alloc_new w1 (.cells #[.string p.pan, .int .i64 p.mcc, .int .i64 p.am, .int .i64 p.cur] 24))
 have HPq : Hid (Q < w1.heap.size) := Nat.lt_of_lt_of_le (Array.getElem?_eq_some_iff.1 HO0.o).1 hf1.size
 clear hf1 HF0 HO0 HRM
 go_upto_region 4 with fail
 generalize w1.alloc _ = w2 at *
 generalize w1.heap.size = P at *
 have HSC : Hid (∀ W', Fr (fun j => j = Q) w2 W' -> W'.cell? ⟨X, 0, none⟩ = some (.pointer (some ⟨TT, 0, none⟩)) /\ W'.cell? ⟨P, 0, none⟩ = some (.string p.pan) /\ W'.cell? ⟨P, 1, none⟩ = some (.int .i64 p.mcc) /\ W'.cell? ⟨P, 2, none⟩ = some (.int .i64 p.am) /\ W'.cell? ⟨P, 3, none⟩ = some (.int .i64 p.cur)) := fun W' hf => by
  have e := hf.whole HP2.o (by have := HPq.o; show P ≠ Q; omega)
  have hx := HX.o _ HF2.o
  have hq := HQ.o.2
  exact ⟨(hf.cell (p := ⟨X, 0, none⟩) (World.block_lt_of_cell? w2 _ hx) (by show X ≠ Q; omega)).trans hx, block_cell e 0 _ rfl, block_cell e 1 _ rfl, block_cell e 2 _ rfl, block_cell e 3 _ rfl⟩
 obtain ⟨out, hout⟩ : ∃ out, decG rts nms p (dnW rts D) sE = out := ⟨_, rfl⟩
 have HOE := hid hout
 rw [hout] at HT
 clear hout
 unfold outV at HT
 refine wp_region_held_drew (S := fun W' => W'.cell? ⟨X, 0, none⟩ = some (.pointer (some ⟨TT, 0, none⟩)) /\ W'.cell? ⟨P, 0, none⟩ = some (.string p.pan) /\ W'.cell? ⟨P, 1, none⟩ = some (.int .i64 p.mcc) /\ W'.cell? ⟨P, 2, none⟩ = some (.int .i64 p.am) /\ W'.cell? ⟨P, 3, none⟩ = some (.int .i64 p.cur)) (by kernel_rfl) (HSC.o _ (Fr.refl _ _).drew) (fun hH => ?_)
 refine htk 0 (v := ?v0z) ?y0z hH ?r0z
 case y0z => rintro w ⟨s0, s1, s2, s3, s4⟩; go_simp; with_reducible rfl
 try go_frame
 refine htk 1 (v := ?v1z) ?y1z hH ?r1z
 case y1z => rintro w ⟨s0, s1, s2, s3, s4⟩; go_simp; with_reducible rfl
 try go_frame
 refine htk 2 (v := ?v2z) ?y2z hH ?r2z
 case y2z => rintro w ⟨s0, s1, s2, s3, s4⟩; go_simp; with_reducible rfl
 try go_frame
 refine htk 3 (v := ?v3z) ?y3z hH ?r3z
 case y3z => rintro w ⟨s0, s1, s2, s3, s4⟩; go_simp; with_reducible rfl
 try go_frame
 refine htk 4 (v := ?v4z) ?y4z hH ?r4z
 case y4z => rintro w ⟨s0, s1, s2, s3, s4⟩; go_simp; with_reducible rfl
 try go_frame
 refine htk 5 (v := ?v5z) ?y5z hH ?r5z
 case y5z => rintro w ⟨s0, s1, s2, s3, s4⟩; go_simp; with_reducible rfl
 try go_frame
 refine htk 6 (v := ?v6z) ?y6z hH ?r6z
 case y6z => rintro w ⟨s0, s1, s2, s3, s4⟩; go_simp; with_reducible rfl
 try go_frame
 refine wpAnyH_ready (rs := [7]) (by kernel_rfl) (by simp) ?_
 refine held_cons rfl (fun K2 hK => ?_) AllReadyH.nil
 try rw [if_pos (by rfl)]
 go_simp
 refine (HT.o _ HF2.o.drew).mono ?_
 rintro e w7 ⟨rfl, hf7⟩
 have HF7 := hid (((Fr.refl (fun _ => False) w2).drew).trans hf7)
 have HO7 := hid (HF7.o.whole HO2.o (by simp))
 clear hf7
 refine hK.out _ _ (HSC.o _ (HF7.o.mono (by simp))) (fun hH => ?_)
 clear hK K2
 try go_frame
 have o0 := block_cell HO7.o 0 _ rfl
 have o1 := block_cell HO7.o 1 _ rfl
 have o2 := block_cell HO7.o 2 _ rfl
 have fo0 := block_frozen HO7.o 0
 have fo1 := block_frozen HO7.o 1
 have fo2 := block_frozen HO7.o 2
 refine wpAnyH_ready (rs := [8]) (by kernel_rfl) (by simp) ?_
 refine held_cons rfl (fun K2 hK => ?_) AllReadyH.nil
 try rw [if_pos (by rfl)]
 go_simp
 have HF8 : Fr (fun j => j = Q) w7 (((w7.setCell ⟨Q, 0, none⟩ (.int .i64 (out.1 : Nat))).setCell ⟨Q, 1, none⟩ (.string out.2.1)).setCell ⟨Q, 2, none⟩ (.string out.2.2)) := (((Fr.refl (fun j => j = Q) w7).setCell (p := ⟨Q, 0, none⟩) (Or.inl rfl) _).setCell (p := ⟨Q, 1, none⟩) (Or.inl rfl) _).setCell (p := ⟨Q, 2, none⟩) (Or.inl rfl) _
 have HFn : F0 w (((w7.setCell ⟨Q, 0, none⟩ (.int .i64 (out.1 : Nat))).setCell ⟨Q, 1, none⟩ (.string out.2.1)).setCell ⟨Q, 2, none⟩ (.string out.2.2)) := (HF2.o.trans HF7.o).monoNew HF8 (fun k hk => Or.inr (by have := HQ.o.1; omega))
 have HE3 := set3 (v0 := .int .i64 (out.1 : Nat)) (v1 := .string out.2.1) (v2 := .string out.2.2) HO7.o
 refine hK.out _ _ (HSC.o _ ((HF7.o.mono (by simp)).trans HF8)) (fun _ => ?_)
 clear hK K2 HF8
 try go_frame
 generalize ((w7.setCell ⟨Q, 0, none⟩ (.int .i64 (out.1 : Nat))).setCell ⟨Q, 1, none⟩ (.string out.2.1)).setCell ⟨Q, 2, none⟩ (.string out.2.2) = W8 at *
 refine wpAnyH_done (by kernel_rfl) ?_ _
 go_wp2_with fail
 have s0 := block_cell HE3 0 _ rfl
 have s1 := block_cell HE3 1 _ rfl
 have s2 := block_cell HE3 2 _ rfl
 refine bodyPost_ret (v := .agg #[.int .i64 (out.1 : Nat), .string out.2.1, .string out.2.2]) (by simp [results, Tryz.results17, go_sem, s0, s1, s2]) rfl ⟨by rw [HOE.o]; rfl, HFn⟩
end Go.Proofs.YtccikgogjfbpeabGreatDoor

namespace Go.Proofs.YtccikgogjfbpeabGreatDoor
open Go.RowKit Go.Maps Go.WideMaps
def mccL (p : PayM) : List UInt8 := digL p.mcc.toNat 1
def amL (p : PayM) : List UInt8 := digL p.am.toNat 1
def curL (p : PayM) : List UInt8 := digL p.cur.toNat 1
theorem pay_rng {p : PayM} (h : payOk p = true) : panOk p.pan = true /\ (0 <= p.mcc /\ p.mcc <= 9999) /\ (0 <= p.am /\ p.am <= 1000000000) /\ 0 <= p.cur /\ p.cur <= 999 := by
 rw [payOk_eq] at h
 simp only [Bool.and_eq_true, rngOk, decide_eq_true_eq] at h
 exact h
theorem dig_DW {n k : Nat} (h : n < 10 ^ k) (hk : 1 <= k) : DW (digL n 1) k := by
 have h1 := digL_ge n 1
 exact ⟨fun e => by rw [e] at h1; simp at h1, digL_le2 k n 1 h hk, digL_dg _ n 1 rfl⟩
theorem pay_DW {p : PayM} (h : payOk p = true) : DW (mccL p) 4 /\ DW (amL p) 10 /\ DW (curL p) 3 := by
 obtain ⟨_, h1, h2, h3⟩ := pay_rng h
 exact ⟨dig_DW (by omega) (by omega), dig_DW (by omega) (by omega), dig_DW (by omega) (by omega)⟩
theorem pan_no {s : ByteArray} (h : panOk s = true) : 32 ∉ s.data.toList /\ 6 <= s.data.toList.length /\ s.data.toList.length <= 19 := by
 unfold panOk at h
 simp only [Bool.and_eq_true, decide_eq_true_eq, List.all_eq_true] at h
 have e : s.data.toList.length = s.size := by simp
 refine ⟨fun hm => absurd (h.2.2 32 hm).1 (by decide), by omega, by omega⟩
theorem pay_back {p : PayM} (h : payOk p = true) : (⟨bs p.pan.data.toList, (numOf (mccL p) : Nat), (numOf (amL p) : Nat), (numOf (curL p) : Nat)⟩ : PayM) = p := by
 obtain ⟨_, h1, h2, h3⟩ := pay_rng h
 unfold mccL amL curL
 rw [tx_num, tx_num, tx_num, Int.toNat_of_nonneg h1.1, Int.toNat_of_nonneg h2.1, Int.toNat_of_nonneg h3.1]
def wireP (p : PayM) : ByteArray := bs (wireL p.pan.data.toList (mccL p) (amL p) (curL p))
def pay5 (p : PayM) : PayM := ⟨bs (48 :: p.pan.data.toList), (numOf (mccL p) : Nat), (numOf (amL p) : Nat), (numOf (curL p ++ [48]) : Nat)⟩
theorem wire5 (p : PayM) : ((⟨#[48]⟩ : ByteArray) ++ wireP p) ++ ⟨#[48]⟩ = bs (wireL (48 :: p.pan.data.toList) (mccL p) (amL p) (curL p ++ [48])) := by
 unfold wireP
 rw [show (⟨#[48]⟩ : ByteArray) = bs [48] from rfl, bs_append, bs_append]
 congr 1
 simp [wireL]
theorem cur5 {p : PayM} (h : payOk p = true) (hc : p.cur <= 3) : DW (curL p ++ [48]) 3 := by
 obtain ⟨_, _, _, h3⟩ := pay_rng h
 have h1 := dig_DW (n := p.cur.toNat) (k := 1) (by omega) (by omega)
 refine ⟨by simp, by have := h1.2.1; simp [curL]; omega, fun c hm => ?_⟩
 rcases List.mem_append.1 hm with hm | hm
 ·exact h1.2.2 c hm
 ·simp at hm
  subst hm
  decide
theorem pay5_long {p : PayM} (h : p.pan.size = 19) : payOk (pay5 p) = false := by
 rw [payOk_eq]
 have : panOk (pay5 p).pan = false := by
  unfold panOk pay5
  have : (bs (48 :: p.pan.data.toList)).size = 20 := by rw [bs_size]; simp; omega
  simp [this]
 rw [this]
 rfl
theorem Handle_p (w : World) (X M TT n H : Nat) (D : DataW Unit) (t : TrD) (rts : List RouteM) (R : List RuleM) (p : PayM) (h : SwM w X M TT n D) (ht : TyAt H w TT t) (hd : Dcs t rts R) (hp : payOk p = true) :
  Calls Tryz.prog 17 #[.pointer (some ⟨X, 0, none⟩), .string (wireP p)] w fun e w' => e = .returned (outV (decM rts R p (dnW rts D))) /\ F0 w w' := by
 obtain ⟨zb, ra, rc, _, _, hl⟩ := ht
 obtain ⟨h1, h2, h3⟩ := pay_DW hp
 have hpn := pan_no (pay_rng hp).1
 have e := Handle_g w X M TT n zb D t.rts ra rc t.nms t.prs t.root p.pan.data.toList (mccL p) (amL p) (curL p) (endM R (bestR (rankF R) (meetC R p (card6 p.pan)) R.length)) h ⟨hl.1, hd.p⟩ hpn.1 ⟨by omega, by omega⟩ h1 h2 h3 (by rw [pay_back hp]; exact hd.e p)
 rw [pay_back hp, dcs_dec hd, hd.r] at e
 exact e
theorem Handle_5 (w : World) (X M TT n H : Nat) (D : DataW Unit) (t : TrD) (rts : List RouteM) (R : List RuleM) (p : PayM) (h : SwM w X M TT n D) (ht : TyAt H w TT t) (hd : Dcs t rts R) (hp : payOk p = true) (hc : p.cur <= 3) :
  Calls Tryz.prog 17 #[.pointer (some ⟨X, 0, none⟩), .string (((⟨#[48]⟩ : ByteArray) ++ wireP p) ++ ⟨#[48]⟩)] w fun e w' => (∃ o, e = .returned (outV o) /\ (p.pan.size = 19 -> o.1 = 1)) /\ F0 w w' := by
 obtain ⟨zb, ra, rc, _, _, hl⟩ := ht
 obtain ⟨h1, h2, h3⟩ := pay_DW hp
 have hpn := pan_no (pay_rng hp).1
 have e := Handle_g w X M TT n zb D t.rts ra rc t.nms t.prs t.root (48 :: p.pan.data.toList) (mccL p) (amL p) (curL p ++ [48]) (endM R (bestR (rankF R) (meetC R (pay5 p) (card6 (pay5 p).pan)) R.length)) h ⟨hl.1, hd.p⟩ (fun hm => by
  rcases List.mem_cons.1 hm with h | h
  ·exact absurd h (by decide)
  ·exact hpn.1 h) ⟨by rw [List.length_cons]; omega, by rw [List.length_cons]; omega⟩ h1 h2 (cur5 hp hc) (hd.e (pay5 p))
 rw [wire5]
 refine e.mono ?_
 rintro e w' ⟨rfl, hf⟩
 refine ⟨⟨_, rfl, fun h19 => ?_⟩, hf⟩
 have h5 := pay5_long h19
 show (decG t.rts t.nms (pay5 p) (dnW t.rts D) _).1 = 1
 unfold decG
 rw [h5]
 rfl
theorem Handle_0 (w : World) (X M TT n zb : Nat) (D : DataW Unit) (ra : Option Addr) (rc : Nat) (p : PayM) (h : SwM w X M TT n D) (ht : TgAt zb w TT [] ra rc [] (grownT [] []).prs (grownT [] []).root) (hp : payOk p = true) :
  Calls Tryz.prog 17 #[.pointer (some ⟨X, 0, none⟩), .string (wireP p)] w fun e w' => (∃ o, e = .returned (outV o) /\ o.1 = 2) /\ F0 w w' := by
 have hd := grown_dcs empty_book
 obtain ⟨h1, h2, h3⟩ := pay_DW hp
 have hpn := pan_no (pay_rng hp).1
 have e := Handle_g w X M TT n zb D [] ra rc [] (grownT [] []).prs (grownT [] []).root p.pan.data.toList (mccL p) (amL p) (curL p) (endM [] (bestR (rankF []) (meetC [] p (card6 p.pan)) ([] : List RuleM).length)) h ⟨ht, hd.p⟩ hpn.1 ⟨by omega, by omega⟩ h1 h2 h3 (by rw [pay_back hp]; exact hd.e p)
 rw [pay_back hp] at e
 refine e.mono ?_
 rintro e w' ⟨rfl, hf⟩
 refine ⟨⟨_, rfl, ?_⟩, hf⟩
 have e2 := dcs_dec hd p (dnW [] D)
 have e3 : decG [] [] p (dnW [] D) (endM [] (bestR (rankF []) (meetC [] p (card6 p.pan)) ([] : List RuleM).length)) = decM [] [] p (dnW [] D) := e2
 rw [e3]
 unfold decM
 rw [if_pos hp]
 rfl
end Go.Proofs.YtccikgogjfbpeabGreatDoor
