/- Deciding: the table of doings; the way through a program. Deciding: what a grown tree gives to who decides by it. -/
import Derived.Test.YtccikgogjfbpeabGreatDoorWDc
namespace Go.Proofs.YtccikgogjfbpeabGreatDoor
open Go.RowKit
set_option maxRecDepth 30000 in
set_option maxHeartbeats 400000 in
theorem doings_any (w : World) : Calls Tryz.prog 90 #[] w fun e w' => e = .returned (.agg #[.func (.func 120) #[] #[], .func (.func 121) #[] #[], .func (.func 122) #[] #[], .func (.func 123) #[] #[], .func (.func 124) #[] #[], .func (.func 125) #[] #[], .func (.func 126) #[] #[]]) /\ F0 w w' := by
 have hsf := fun (w : World) (a : Addr) (m : Mode) (fn : Fn) (x y : Array Value) => run_store Tryz.prog w a (.func fn x y) m rfl
 go_enter Tryz.func90, Tryz.ntmps90
 have hA := heap_alloc_new w (.cells #[.nilFunc, .nilFunc, .nilFunc, .nilFunc, .nilFunc, .nilFunc, .nilFunc] 168)
 have HF : Hid (F0 w (w.alloc (.cells #[.nilFunc, .nilFunc, .nilFunc, .nilFunc, .nilFunc, .nilFunc, .nilFunc] 168))) := (Fr.refl _ _).alloc _
 go_upto_region 1 with fail
 generalize w.alloc (.cells #[.nilFunc, .nilFunc, .nilFunc, .nilFunc, .nilFunc, .nilFunc, .nilFunc] 168) = W at *
 obtain ⟨A, hAA⟩ : ∃ A, w.heap.size = A := ⟨_, rfl⟩
 have HA : Hid (w.heap.size = A) := hAA
 rw [hAA] at hA
 rw [hAA]
 clear hAA
 have b0 : W.cell? ⟨A, 0, none⟩ = some .nilFunc := block_cell hA 0 _ rfl
 have f0 := block_frozen hA 0
 have b1 : W.cell? ⟨A, 1, none⟩ = some .nilFunc := block_cell hA 1 _ rfl
 have f1 := block_frozen hA 1
 have b2 : W.cell? ⟨A, 2, none⟩ = some .nilFunc := block_cell hA 2 _ rfl
 have f2 := block_frozen hA 2
 have b3 : W.cell? ⟨A, 3, none⟩ = some .nilFunc := block_cell hA 3 _ rfl
 have f3 := block_frozen hA 3
 have b4 : W.cell? ⟨A, 4, none⟩ = some .nilFunc := block_cell hA 4 _ rfl
 have f4 := block_frozen hA 4
 have b5 : W.cell? ⟨A, 5, none⟩ = some .nilFunc := block_cell hA 5 _ rfl
 have f5 := block_frozen hA 5
 have b6 : W.cell? ⟨A, 6, none⟩ = some .nilFunc := block_cell hA 6 _ rfl
 have f6 := block_frozen hA 6
 have HE : Hid _ := heap_setCell_same _ A 6 _ _ (.func (.func 126) #[] #[]) (heap_setCell_same _ A 5 _ _ (.func (.func 125) #[] #[]) (heap_setCell_same _ A 4 _ _ (.func (.func 124) #[] #[]) (heap_setCell_same _ A 3 _ _ (.func (.func 123) #[] #[]) (heap_setCell_same _ A 2 _ _ (.func (.func 122) #[] #[]) (heap_setCell_same _ A 1 _ _ (.func (.func 121) #[] #[]) (heap_setCell_same W A 0 _ _ (.func (.func 120) #[] #[]) hA))))))
 clear hA
 go_wp2_with fail
 have s0 := block_cell HE.o 0 (.func (.func 120) #[] #[]) rfl
 have s1 := block_cell HE.o 1 (.func (.func 121) #[] #[]) rfl
 have s2 := block_cell HE.o 2 (.func (.func 122) #[] #[]) rfl
 have s3 := block_cell HE.o 3 (.func (.func 123) #[] #[]) rfl
 have s4 := block_cell HE.o 4 (.func (.func 124) #[] #[]) rfl
 have s5 := block_cell HE.o 5 (.func (.func 125) #[] #[]) rfl
 have s6 := block_cell HE.o 6 (.func (.func 126) #[] #[]) rfl
 have hA : w.heap.size <= A := Nat.le_of_eq HA.o
 refine bodyPost_ret (v := .agg #[.func (.func 120) #[] #[], .func (.func 121) #[] #[], .func (.func 122) #[] #[], .func (.func 123) #[] #[], .func (.func 124) #[] #[], .func (.func 125) #[] #[], .func (.func 126) #[] #[]]) (by simp [results, Tryz.results90, go_sem, s0, s1, s2, s3, s4, s5, s6]) rfl ⟨rfl, ?_⟩
 exact ((((((HF.o.setCell (p := ⟨A, 0, none⟩) (Or.inr hA) _).setCell (p := ⟨A, 1, none⟩) (Or.inr hA) _).setCell (p := ⟨A, 2, none⟩) (Or.inr hA) _).setCell (p := ⟨A, 3, none⟩) (Or.inr hA) _).setCell (p := ⟨A, 4, none⟩) (Or.inr hA) _).setCell (p := ⟨A, 5, none⟩) (Or.inr hA) _).setCell (p := ⟨A, 6, none⟩) (Or.inr hA) _
def PgAt (w : World) (Q : Nat) (pa : Option Addr) (l : List StepM) : Prop :=
 ∀ k s, l[k]? = some s -> ∃ g na nc, pa = some ⟨g, 0, none⟩ /\ g ≠ Q /\ w.cell? ⟨g, k * 4, none⟩ = some (.int .u8 (s.sort : Nat)) /\ w.cell? ⟨g, k * 4 + 1, none⟩ = some (.slice na s.nums.length nc) /\ w.cell? ⟨g, k * 4 + 2, none⟩ = some (.int .i64 (s.rule : Nat)) /\ w.cell? ⟨g, k * 4 + 3, none⟩ = some (.int .i64 (s.skip : Nat)) /\ IntsAt w na s.nums /\ ∀ g', na = some ⟨g', 0, none⟩ -> g' ≠ Q
theorem PgAt.fr {w w' : World} {Q : Nat} {pa : Option Addr} {l : List StepM} (h : PgAt w Q pa l) (hf : Fr (fun j => j = Q) w w') : PgAt w' Q pa l := by
 intro k s hs
 obtain ⟨g, na, nc, e1, e2, e3, e4, e5, e6, e7, e8⟩ := h k s hs
 have hl := World.block_lt_of_cell? w _ e3
 exact ⟨g, na, nc, e1, e2, (hf.cell (p := ⟨g, k * 4, none⟩) hl e2).trans e3, (hf.cell (p := ⟨g, k * 4 + 1, none⟩) hl e2).trans e4, (hf.cell (p := ⟨g, k * 4 + 2, none⟩) hl e2).trans e5, (hf.cell (p := ⟨g, k * 4 + 3, none⟩) hl e2).trans e6, e7.fr hf e8, e8⟩
def GdOk (s : StepM) : Prop := s.nums.length <= 4000 /\ s.skip <= 255 /\ (s.sort = 1 -> ∃ x y, s.nums = [x, y])
def endOut (rts : List RouteM) (nm : ByteArray) (s : StepM) (dn : Nat -> Bool) (am : Int) : Nat × ByteArray × ByteArray :=
 if s.sort = 3 then (3, nm, ByteArray.empty) else if s.sort = 4 then outB rts nm (bestM false (feeM rts am) dn s.nums none) else if s.sort = 5 then outB rts nm (bestM true (feeM rts am) dn s.nums none) else (2, ByteArray.empty, ByteArray.empty)
def EnOk (w : World) (TT Q : Nat) (rts : List RouteM) (nm : ByteArray) (s : StepM) : Prop :=
 s.sort = 6 \/ ((s.sort = 3 \/ s.sort = 4 \/ s.sort = 5) /\ s.nums.length <= 4000 /\ (∀ x, x ∈ s.nums -> x < rts.length) /\ ∃ g m nc, NmAt w TT Q s.rule nm g m nc)
theorem EnOk.fr {w w' : World} {TT Q : Nat} {rts : List RouteM} {nm : ByteArray} {s : StepM} (h : EnOk w TT Q rts nm s) (hf : Fr (fun j => j = Q) w w') : EnOk w' TT Q rts nm s := by
 rcases h with h | ⟨h1, h2, h3, g, m, nc, h4⟩
 ·exact Or.inl h
 ·exact Or.inr ⟨h1, h2, h3, g, m, nc, h4.fr hf⟩
def ThS (W : World) (Q TT : Nat) (p : PayM) (dn : Nat -> Bool) (o : Nat × ByteArray × ByteArray) (l : List StepM) (sE : StepM) (out : Nat × ByteArray × ByteArray) (m : Nat) (wr : World) : Prop :=
 Fr (fun j => j = Q) W wr /\ ((∃ k, wr.heap[Q]? = some (rnO TT p dn k false o) /\ machM (okS p) l m k = some sE) \/ ∃ k, wr.heap[Q]? = some (rnO TT p dn k true out))
theorem mach_step {ok : StepM -> Bool} {l : List StepM} {m k : Nat} {sE : StepM} (h : machM ok l m k = some sE) : ∃ m' s, m = m' + 1 /\ l[k]? = some s /\ (s.sort < 3 /\ machM ok l m' (if ok s then k + 1 else k + s.skip) = some sE \/ ¬ s.sort < 3 /\ s = sE) := by
 cases m with
 | zero => simp [machM] at h
 | succ m' =>
  unfold machM at h
  cases hs : l[k]? with
  | none => rw [hs] at h; cases h
  | some s =>
   rw [hs] at h
   dsimp only at h
   refine ⟨m', s, rfl, rfl, ?_⟩
   split at h
   ·rename_i hlt
    exact Or.inl ⟨hlt, h⟩
   ·rename_i hlt
    injection h with h
    exact Or.inr ⟨hlt, h⟩
set_option maxRecDepth 30000 in
set_option maxHeartbeats 4000000 in
theorem through_any (w : World) (Q TT : Nat) (p : PayM) (dn : Nat -> Bool) (o : Nat × ByteArray × ByteArray) (pa : Option Addr) (pc : Nat) (l : List StepM) (sE : StepM) (rts : List RouteM) (ra : Option Addr) (rc : Nat) (nm : ByteArray)
  (h : w.heap[Q]? = some (rnO TT p dn 0 false o)) (hpg : PgAt w Q pa l) (hgd : ∀ s, s ∈ l -> s.sort < 3 -> GdOk s) (hl : l.length <= 1000) (hm : ∃ n, machM (okS p) l n 0 = some sE) (hen : EnOk w TT Q rts nm sE) (hr : RtAt w TT Q rts ra rc) (h6 : rts.length <= 6) (ham : 0 <= p.am /\ p.am <= 1000000000) :
  Calls Tryz.prog 50 #[.pointer (some ⟨Q, 0, none⟩), .slice pa l.length pc] w fun e w' => e = .returned (.tuple #[]) /\ (∃ k, w'.heap[Q]? = some (rnO TT p dn k true (endOut rts nm sE dn p.am))) /\ Fr (fun j => j = Q) w w' := by
 obtain ⟨n0, hm⟩ := hm
 obtain ⟨out, hout⟩ : ∃ out, endOut rts nm sE dn p.am = out := ⟨_, rfl⟩
 have HOUT : Hid (endOut rts nm sE dn p.am = out) := hout
 have HH : Hid (w.heap[Q]? = some (rnO TT p dn 0 false o)) := h
 have HPG : Hid (PgAt w Q pa l) := hpg
 have HGD : Hid (∀ s, s ∈ l -> s.sort < 3 -> GdOk s) := hgd
 have HM : Hid (machM (okS p) l n0 0 = some sE) := hm
 have HEN : Hid (EnOk w TT Q rts nm sE) := hen
 have HR : Hid (RtAt w TT Q rts ra rc) := hr
 have H6 : Hid (rts.length <= 6) := h6
 have HAM : Hid (0 <= p.am /\ p.am <= 1000000000) := ham
 obtain ⟨n, hn⟩ : ∃ n, l.length = n := ⟨_, rfl⟩
 have HN : Hid (l.length = n) := hn
 rw [hn] at hl
 rw [hn, hout]
 clear h hpg hgd hm hen hr h6 ham hout hn
 have hsf := fun (w : World) (a : Addr) (m : Mode) (fn : Fn) (x y : Array Value) => run_store Tryz.prog w a (.func fn x y) m rfl
 go_enter Tryz.func50, Tryz.ntmps50
 go_wp2_with fail
 refine (doings_any w).mono ?_
 rintro e w1 ⟨rfl, hf1⟩
 have HF1 : Hid (F0 w (w1.alloc (.cells #[.func (.func 120) #[] #[], .func (.func 121) #[] #[], .func (.func 122) #[] #[], .func (.func 123) #[] #[], .func (.func 124) #[] #[], .func (.func 125) #[] #[], .func (.func 126) #[] #[]] 168))) := hf1.alloc _
 have HA : Hid ((w1.alloc (.cells #[.func (.func 120) #[] #[], .func (.func 121) #[] #[], .func (.func 122) #[] #[], .func (.func 123) #[] #[], .func (.func 124) #[] #[], .func (.func 125) #[] #[], .func (.func 126) #[] #[]] 168)).heap[w1.heap.size]? = some (.cells #[.func (.func 120) #[] #[], .func (.func 121) #[] #[], .func (.func 122) #[] #[], .func (.func 123) #[] #[], .func (.func 124) #[] #[], .func (.func 125) #[] #[], .func (.func 126) #[] #[]] 168)) := heap_alloc_new w1 _
 have HAQ : Hid (w1.heap.size ≠ Q) := by have := (Array.getElem?_eq_some_iff.1 HH.o).1; have := hf1.size; show _ ≠ _; omega
 clear hf1
 go_upto_region 1 with fail
 generalize w1.alloc (.cells #[.func (.func 120) #[] #[], .func (.func 121) #[] #[], .func (.func 122) #[] #[], .func (.func 123) #[] #[], .func (.func 124) #[] #[], .func (.func 125) #[] #[], .func (.func 126) #[] #[]] 168) = W at *
 generalize w1.heap.size = A at *
 have HZ0 : Hid (ThS W Q TT p dn o l sE out n0 W) := ⟨Fr.refl _ _, Or.inl ⟨0, HF1.o.whole HH.o (by simp), HM.o⟩⟩
 have HPG1 : Hid (PgAt W Q pa l) := HPG.o.fr (HF1.o.mono (by simp))
 have HEN1 : Hid (EnOk W TT Q rts nm sE) := HEN.o.fr (HF1.o.mono (by simp))
 have HR1 : Hid (RtAt W TT Q rts ra rc) := HR.o.fr (HF1.o.mono (by simp))
 clear HPG HEN HR HH HM hsf
 go_loopg [5] n0 (fun m _ wr => Hid (ThS W Q TT p dn o l sE out m wr))
 case atStart => exact HZ0
 case round =>
  obtain ⟨hfw, ⟨k, hq, hmm⟩ | ⟨k, hq⟩⟩ := hrel.o
  ·obtain ⟨m', s, rfl, hs, hcase⟩ := mach_step hmm
   obtain ⟨g, na, nc, rfl, hgQ, e0, e1, e2, e3, hin, hnq⟩ := (HPG1.o.fr hfw) k s hs
   have q12 : wr.cell? ⟨Q, 12, none⟩ = some (.bool false) := block_cell hq 12 _ rfl
   have q11 : wr.cell? ⟨Q, 11, none⟩ = some (.int .i64 (k : Nat)) := block_cell hq 11 _ rfl
   have hkn : k < n := by have := (List.getElem?_eq_some_iff.1 hs).1; have := HN.o; omega
   have hki : (k : Int) < (n : Int) := by omega
   have HK : Hid (k <= 100000) := by show _ <= _; omega
   have HFW : Hid (Fr (fun j => j = Q) W wr) := hfw
   have HQ : Hid (wr.heap[Q]? = some (rnO TT p dn k false o)) := hq
   have HQl : Hid (Q < wr.heap.size) := (Array.getElem?_eq_some_iff.1 hq).1
   have HS : Hid (s ∈ l) := List.mem_of_getElem? hs
   have HCS : Hid (s.sort < 3 /\ machM (okS p) l m' (if okS p s then k + 1 else k + s.skip) = some sE \/ ¬ s.sort < 3 /\ s = sE) := hcase
   have HIN : Hid (IntsAt wr na s.nums /\ ∀ g', na = some ⟨g', 0, none⟩ -> g' ≠ Q) := ⟨hin, hnq⟩
   have HF2 : Hid (F0 wr (wr.alloc (.cells #[.int .u8 (s.sort : Nat), .slice na s.nums.length nc, .int .i64 (s.rule : Nat), .int .i64 (s.skip : Nat)] 172))) := (Fr.refl _ _).alloc _
   have HX3 : Hid ((wr.alloc (.cells #[.int .u8 (s.sort : Nat), .slice na s.nums.length nc, .int .i64 (s.rule : Nat), .int .i64 (s.skip : Nat)] 172)).heap[wr.heap.size]? = some (.cells #[.int .u8 (s.sort : Nat), .slice na s.nums.length nc, .int .i64 (s.rule : Nat), .int .i64 (s.skip : Nat)] 172)) := heap_alloc_new wr _
   have HNE : Hid (wr.heap.size ≠ Q /\ A ≠ Q) := ⟨by have := HQl.o; omega, HAQ.o⟩
   clear hs hcase hin hnq hq hmm hrel hfw
   go_upto_region 3 with fail
   generalize wr.alloc (.cells #[.int .u8 (s.sort : Nat), .slice na s.nums.length nc, .int .i64 (s.rule : Nat), .int .i64 (s.skip : Nat)] 172) = W3 at *
   generalize wr.heap.size = X at *
   clear e0 e1 e2 e3 q11 q12
   have HQ3 : Hid (W3.heap[Q]? = some (rnO TT p dn k false o)) := HF2.o.whole HQ.o (by simp)
   have HA3 := HF2.o.whole (HFW.o.whole HA.o HAQ.o) (by simp)
   have HA3 : Hid _ := HA3
   have HFW3 : Hid (Fr (fun j => j = Q) W W3) := HFW.o.trans (HF2.o.mono (by simp))
   have HI3 : Hid (IntsAt W3 na s.nums) := HIN.o.1.fr HF2.o (by simp)
   rcases HCS.o with ⟨hlt, hnx⟩ | ⟨hge, hsE⟩
   ·have HNX : Hid (machM (okS p) l m' (if okS p s then k + 1 else k + s.skip) = some sE) := hnx
    obtain ⟨hl4, hsk, hs1⟩ := HGD.o s HS.o hlt
    have HLS : Hid (s.nums.length <= 4000 /\ s.skip <= 100000) := ⟨hl4, by omega⟩
    have HS1 : Hid (s.sort = 1 -> ∃ x y, s.nums = [x, y]) := hs1
    clear hnx hl4 hsk hs1
    have h3 : s.sort = 0 \/ s.sort = 1 \/ s.sort = 2 := by omega
    rcases h3 with hso | hso | hso
    ·have HSO : Hid (s.sort = 0) := hso
     clear hlt hso
     have HSX : Hid (∀ W', Fr (fun j => j = Q) W3 W' -> W'.cell? ⟨X, 0, none⟩ = some (.int .u8 0) /\ W'.cell? ⟨X, 1, none⟩ = some (.slice na s.nums.length nc) /\ W'.cell? ⟨X, 2, none⟩ = some (.int .i64 (s.rule : Nat)) /\ W'.cell? ⟨X, 3, none⟩ = some (.int .i64 (s.skip : Nat)) /\ W'.cell? ⟨A, 0, none⟩ = some (.func (.func 120) #[] #[])) := by
      intro W' hf
      have hx := hf.whole HX3.o (fun e => HNE.o.1 e)
      have ha := hf.whole HA3.o (fun e => HNE.o.2 e)
      have h0 := block_cell hx 0 _ rfl
      rw [HSO.o] at h0
      exact ⟨h0, block_cell hx 1 _ rfl, block_cell hx 2 _ rfl, block_cell hx 3 _ rfl, block_cell ha 0 _ rfl⟩
     have hS := HSX.o W3 (Fr.refl _ _)
     have HZd : Hid (F0 W3 W3.drew) := (Fr.refl _ _).drew
     have HC : Hid (∀ W', Hid (F0 W3 W') -> Calls Tryz.prog 120 #[.pointer (some ⟨Q, 0, none⟩), .agg #[.int .u8 0, .slice na s.nums.length nc, .int .i64 (s.rule : Nat), .int .i64 (s.skip : Nat)]] W' fun e w' => e = .returned (.tuple #[]) /\ Hid (ThS W Q TT p dn o l sE out m' w') /\ w'.cell? ⟨X, 0, none⟩ = some (.int .u8 0) /\ w'.cell? ⟨X, 1, none⟩ = some (.slice na s.nums.length nc) /\ w'.cell? ⟨X, 2, none⟩ = some (.int .i64 (s.rule : Nat)) /\ w'.cell? ⟨X, 3, none⟩ = some (.int .i64 (s.skip : Nat)) /\ w'.cell? ⟨A, 0, none⟩ = some (.func (.func 120) #[] #[])) := by
      intro W' hf
      refine (askMcc_any W' Q TT k p dn o 0 na s.nums nc s.rule s.skip (hf.o.whole HQ3.o (by simp)) HK.o HLS.o.2 (HI3.o.fr hf.o (by simp)) HLS.o.1).mono ?_
      rintro e w' ⟨he, h2, h3⟩
      have h4 := (hf.o.mono (T := fun j => j = Q) (by simp)).trans h3
      have e := HNX.o
      rw [show okS p s = inL s.nums p.mcc from by unfold okS; rw [if_pos HSO.o]] at e
      exact ⟨he, ⟨HFW3.o.trans h4, Or.inl ⟨_, h2, e⟩⟩, HSX.o _ h4⟩
     clear HSX
     go_region_held3 (fun W' => W'.cell? ⟨X, 0, none⟩ = some (.int .u8 0) /\ W'.cell? ⟨X, 1, none⟩ = some (.slice na s.nums.length nc) /\ W'.cell? ⟨X, 2, none⟩ = some (.int .i64 (s.rule : Nat)) /\ W'.cell? ⟨X, 3, none⟩ = some (.int .i64 (s.skip : Nat)) /\ W'.cell? ⟨A, 0, none⟩ = some (.func (.func 120) #[] #[])) (first | assumption | go_keep) (first
      | (go_at_call 120; refine (HC.o _ (by assumption)).mono ?_; rintro e w7 ⟨rfl, HZE, hS7⟩))
     go_wp2_with fail
     go_roundg m'
     case measure => omega
     case rel => exact HZE
    ·have HSO : Hid (s.sort = 1) := hso
     clear hlt hso
     have HSX : Hid (∀ W', Fr (fun j => j = Q) W3 W' -> W'.cell? ⟨X, 0, none⟩ = some (.int .u8 1) /\ W'.cell? ⟨X, 1, none⟩ = some (.slice na s.nums.length nc) /\ W'.cell? ⟨X, 2, none⟩ = some (.int .i64 (s.rule : Nat)) /\ W'.cell? ⟨X, 3, none⟩ = some (.int .i64 (s.skip : Nat)) /\ W'.cell? ⟨A, 1, none⟩ = some (.func (.func 121) #[] #[])) := by
      intro W' hf
      have hx := hf.whole HX3.o (fun e => HNE.o.1 e)
      have ha := hf.whole HA3.o (fun e => HNE.o.2 e)
      have h0 := block_cell hx 0 _ rfl
      rw [HSO.o] at h0
      exact ⟨h0, block_cell hx 1 _ rfl, block_cell hx 2 _ rfl, block_cell hx 3 _ rfl, block_cell ha 1 _ rfl⟩
     have hS := HSX.o W3 (Fr.refl _ _)
     have HZd : Hid (F0 W3 W3.drew) := (Fr.refl _ _).drew
     obtain ⟨x, y, hxy⟩ := HS1.o HSO.o
     have HXY : Hid (s.nums = [x, y]) := hxy
     clear hxy
     have HC : Hid (∀ W', Hid (F0 W3 W') -> Calls Tryz.prog 121 #[.pointer (some ⟨Q, 0, none⟩), .agg #[.int .u8 1, .slice na s.nums.length nc, .int .i64 (s.rule : Nat), .int .i64 (s.skip : Nat)]] W' fun e w' => e = .returned (.tuple #[]) /\ Hid (ThS W Q TT p dn o l sE out m' w') /\ w'.cell? ⟨X, 0, none⟩ = some (.int .u8 1) /\ w'.cell? ⟨X, 1, none⟩ = some (.slice na s.nums.length nc) /\ w'.cell? ⟨X, 2, none⟩ = some (.int .i64 (s.rule : Nat)) /\ w'.cell? ⟨X, 3, none⟩ = some (.int .i64 (s.skip : Nat)) /\ w'.cell? ⟨A, 1, none⟩ = some (.func (.func 121) #[] #[])) := by
      intro W' hf
      have e2 : s.nums.length = 2 := by rw [HXY.o]; rfl
      rw [e2]
      have hi := HI3.o.fr hf.o (by simp)
      rw [HXY.o] at hi
      refine (askAmount_any W' Q TT k p dn o 1 na x y nc s.rule s.skip (hf.o.whole HQ3.o (by simp)) HK.o HLS.o.2 hi).mono ?_
      rintro e w' ⟨he, h2, h3⟩
      have h4 := (hf.o.mono (T := fun j => j = Q) (by simp)).trans h3
      have e := HNX.o
      rw [show okS p s = (decide ((x : Int) <= p.am) && decide (p.am <= (y : Int))) from by unfold okS; rw [if_neg (by rw [HSO.o]; decide), if_pos HSO.o, HXY.o]; rfl] at e
      have hS := HSX.o _ h4
      rw [e2] at hS
      exact ⟨he, ⟨HFW3.o.trans h4, Or.inl ⟨_, h2, e⟩⟩, hS⟩
     clear HSX
     go_region_held3 (fun W' => W'.cell? ⟨X, 0, none⟩ = some (.int .u8 1) /\ W'.cell? ⟨X, 1, none⟩ = some (.slice na s.nums.length nc) /\ W'.cell? ⟨X, 2, none⟩ = some (.int .i64 (s.rule : Nat)) /\ W'.cell? ⟨X, 3, none⟩ = some (.int .i64 (s.skip : Nat)) /\ W'.cell? ⟨A, 1, none⟩ = some (.func (.func 121) #[] #[])) (first | assumption | go_keep) (first
      | (go_at_call 121; refine (HC.o _ (by assumption)).mono ?_; rintro e w7 ⟨rfl, HZE, hS7⟩))
     go_wp2_with fail
     go_roundg m'
     case measure => omega
     case rel => exact HZE
    ·have HSO : Hid (s.sort = 2) := hso
     clear hlt hso
     have HSX : Hid (∀ W', Fr (fun j => j = Q) W3 W' -> W'.cell? ⟨X, 0, none⟩ = some (.int .u8 2) /\ W'.cell? ⟨X, 1, none⟩ = some (.slice na s.nums.length nc) /\ W'.cell? ⟨X, 2, none⟩ = some (.int .i64 (s.rule : Nat)) /\ W'.cell? ⟨X, 3, none⟩ = some (.int .i64 (s.skip : Nat)) /\ W'.cell? ⟨A, 2, none⟩ = some (.func (.func 122) #[] #[])) := by
      intro W' hf
      have hx := hf.whole HX3.o (fun e => HNE.o.1 e)
      have ha := hf.whole HA3.o (fun e => HNE.o.2 e)
      have h0 := block_cell hx 0 _ rfl
      rw [HSO.o] at h0
      exact ⟨h0, block_cell hx 1 _ rfl, block_cell hx 2 _ rfl, block_cell hx 3 _ rfl, block_cell ha 2 _ rfl⟩
     have hS := HSX.o W3 (Fr.refl _ _)
     have HZd : Hid (F0 W3 W3.drew) := (Fr.refl _ _).drew
     have HC : Hid (∀ W', Hid (F0 W3 W') -> Calls Tryz.prog 122 #[.pointer (some ⟨Q, 0, none⟩), .agg #[.int .u8 2, .slice na s.nums.length nc, .int .i64 (s.rule : Nat), .int .i64 (s.skip : Nat)]] W' fun e w' => e = .returned (.tuple #[]) /\ Hid (ThS W Q TT p dn o l sE out m' w') /\ w'.cell? ⟨X, 0, none⟩ = some (.int .u8 2) /\ w'.cell? ⟨X, 1, none⟩ = some (.slice na s.nums.length nc) /\ w'.cell? ⟨X, 2, none⟩ = some (.int .i64 (s.rule : Nat)) /\ w'.cell? ⟨X, 3, none⟩ = some (.int .i64 (s.skip : Nat)) /\ w'.cell? ⟨A, 2, none⟩ = some (.func (.func 122) #[] #[])) := by
      intro W' hf
      refine (askCur_any W' Q TT k p dn o 2 na s.nums nc s.rule s.skip (hf.o.whole HQ3.o (by simp)) HK.o HLS.o.2 (HI3.o.fr hf.o (by simp)) HLS.o.1).mono ?_
      rintro e w' ⟨he, h2, h3⟩
      have h4 := (hf.o.mono (T := fun j => j = Q) (by simp)).trans h3
      have e := HNX.o
      rw [show okS p s = inL s.nums p.cur from by unfold okS; rw [if_neg (by rw [HSO.o]; decide), if_neg (by rw [HSO.o]; decide)]] at e
      exact ⟨he, ⟨HFW3.o.trans h4, Or.inl ⟨_, h2, e⟩⟩, HSX.o _ h4⟩
     clear HSX
     go_region_held3 (fun W' => W'.cell? ⟨X, 0, none⟩ = some (.int .u8 2) /\ W'.cell? ⟨X, 1, none⟩ = some (.slice na s.nums.length nc) /\ W'.cell? ⟨X, 2, none⟩ = some (.int .i64 (s.rule : Nat)) /\ W'.cell? ⟨X, 3, none⟩ = some (.int .i64 (s.skip : Nat)) /\ W'.cell? ⟨A, 2, none⟩ = some (.func (.func 122) #[] #[])) (first | assumption | go_keep) (first
      | (go_at_call 122; refine (HC.o _ (by assumption)).mono ?_; rintro e w7 ⟨rfl, HZE, hS7⟩))
     go_wp2_with fail
     go_roundg m'
     case measure => omega
     case rel => exact HZE
   ·subst hsE
    rcases HEN1.o with hso | ⟨hso, hl4, hxl, ng, nm1, nm2, hnm⟩
    ·have HSO : Hid (s.sort = 6) := hso
     have HO2 : Hid (out = (2, ByteArray.empty, ByteArray.empty)) := by show _ = _; rw [<- HOUT.o]; unfold endOut; simp [hso]
     clear hso
     have HSX : Hid (∀ W', Fr (fun j => j = Q) W3 W' -> W'.cell? ⟨X, 0, none⟩ = some (.int .u8 6) /\ W'.cell? ⟨X, 1, none⟩ = some (.slice na s.nums.length nc) /\ W'.cell? ⟨X, 2, none⟩ = some (.int .i64 (s.rule : Nat)) /\ W'.cell? ⟨X, 3, none⟩ = some (.int .i64 (s.skip : Nat)) /\ W'.cell? ⟨A, 6, none⟩ = some (.func (.func 126) #[] #[])) := by
      intro W' hf
      have hx := hf.whole HX3.o (fun e => HNE.o.1 e)
      have ha := hf.whole HA3.o (fun e => HNE.o.2 e)
      have h0 := block_cell hx 0 _ rfl
      rw [HSO.o] at h0
      exact ⟨h0, block_cell hx 1 _ rfl, block_cell hx 2 _ rfl, block_cell hx 3 _ rfl, block_cell ha 6 _ rfl⟩
     have hS := HSX.o W3 (Fr.refl _ _)
     have HZd : Hid (F0 W3 W3.drew) := (Fr.refl _ _).drew
     have HC : Hid (∀ W', Hid (F0 W3 W') -> Calls Tryz.prog 126 #[.pointer (some ⟨Q, 0, none⟩), .agg #[.int .u8 6, .slice na s.nums.length nc, .int .i64 (s.rule : Nat), .int .i64 (s.skip : Nat)]] W' fun e w' => e = .returned (.tuple #[]) /\ Hid (ThS W Q TT p dn o l s out m' w') /\ w'.cell? ⟨X, 0, none⟩ = some (.int .u8 6) /\ w'.cell? ⟨X, 1, none⟩ = some (.slice na s.nums.length nc) /\ w'.cell? ⟨X, 2, none⟩ = some (.int .i64 (s.rule : Nat)) /\ w'.cell? ⟨X, 3, none⟩ = some (.int .i64 (s.skip : Nat)) /\ w'.cell? ⟨A, 6, none⟩ = some (.func (.func 126) #[] #[])) := by
      intro W' hf
      have hfj : Fr (fun j => j = Q) W W' := HFW3.o.trans (hf.o.mono (by simp))
      refine (endWithout_any W' Q TT k p dn o 6 na s.nums.length nc s.rule s.skip (hf.o.whole HQ3.o (by simp))).mono ?_
      rintro e w' ⟨he, h2, h3⟩
      have h4 := (hf.o.mono (T := fun j => j = Q) (by simp)).trans h3
      exact ⟨he, ⟨HFW3.o.trans h4, Or.inr ⟨k, by rw [HO2.o]; exact h2⟩⟩, HSX.o _ h4⟩
     clear HSX
     go_region_held3 (fun W' => W'.cell? ⟨X, 0, none⟩ = some (.int .u8 6) /\ W'.cell? ⟨X, 1, none⟩ = some (.slice na s.nums.length nc) /\ W'.cell? ⟨X, 2, none⟩ = some (.int .i64 (s.rule : Nat)) /\ W'.cell? ⟨X, 3, none⟩ = some (.int .i64 (s.skip : Nat)) /\ W'.cell? ⟨A, 6, none⟩ = some (.func (.func 126) #[] #[])) (first | assumption | go_keep) (first
      | (go_at_call 126; refine (HC.o _ (by assumption)).mono ?_; rintro e w7 ⟨rfl, HZE, hS7⟩))
     go_wp2_with fail
     go_roundg m'
     case measure => omega
     case rel => exact HZE
    ·have HNM : Hid (NmAt W TT Q s.rule nm ng nm1 nm2) := hnm
     have HL4 : Hid (s.nums.length <= 4000 /\ ∀ x, x ∈ s.nums -> x < rts.length) := ⟨hl4, hxl⟩
     clear hnm hl4 hxl hge
     rcases hso with hso | hso | hso
     ·have HSO : Hid (s.sort = 3) := hso
      have HO2 : Hid (out = (3, nm, ByteArray.empty)) := by show _ = _; rw [<- HOUT.o]; unfold endOut; simp [hso]
      clear hso
      have HSX : Hid (∀ W', Fr (fun j => j = Q) W3 W' -> W'.cell? ⟨X, 0, none⟩ = some (.int .u8 3) /\ W'.cell? ⟨X, 1, none⟩ = some (.slice na s.nums.length nc) /\ W'.cell? ⟨X, 2, none⟩ = some (.int .i64 (s.rule : Nat)) /\ W'.cell? ⟨X, 3, none⟩ = some (.int .i64 (s.skip : Nat)) /\ W'.cell? ⟨A, 3, none⟩ = some (.func (.func 123) #[] #[])) := by
       intro W' hf
       have hx := hf.whole HX3.o (fun e => HNE.o.1 e)
       have ha := hf.whole HA3.o (fun e => HNE.o.2 e)
       have h0 := block_cell hx 0 _ rfl
       rw [HSO.o] at h0
       exact ⟨h0, block_cell hx 1 _ rfl, block_cell hx 2 _ rfl, block_cell hx 3 _ rfl, block_cell ha 3 _ rfl⟩
      have hS := HSX.o W3 (Fr.refl _ _)
      have HZd : Hid (F0 W3 W3.drew) := (Fr.refl _ _).drew
      have HC : Hid (∀ W', Hid (F0 W3 W') -> Calls Tryz.prog 123 #[.pointer (some ⟨Q, 0, none⟩), .agg #[.int .u8 3, .slice na s.nums.length nc, .int .i64 (s.rule : Nat), .int .i64 (s.skip : Nat)]] W' fun e w' => e = .returned (.tuple #[]) /\ Hid (ThS W Q TT p dn o l s out m' w') /\ w'.cell? ⟨X, 0, none⟩ = some (.int .u8 3) /\ w'.cell? ⟨X, 1, none⟩ = some (.slice na s.nums.length nc) /\ w'.cell? ⟨X, 2, none⟩ = some (.int .i64 (s.rule : Nat)) /\ w'.cell? ⟨X, 3, none⟩ = some (.int .i64 (s.skip : Nat)) /\ w'.cell? ⟨A, 3, none⟩ = some (.func (.func 123) #[] #[])) := by
       intro W' hf
       have hfj : Fr (fun j => j = Q) W W' := HFW3.o.trans (hf.o.mono (by simp))
       refine (rdecline_any W' Q TT k p dn o 3 na s.nums.length nc s.rule s.skip nm ng nm1 nm2 (hf.o.whole HQ3.o (by simp)) (HNM.o.fr hfj)).mono ?_
       rintro e w' ⟨he, h2, h3⟩
       have h4 := (hf.o.mono (T := fun j => j = Q) (by simp)).trans h3
       exact ⟨he, ⟨HFW3.o.trans h4, Or.inr ⟨k, by rw [HO2.o]; exact h2⟩⟩, HSX.o _ h4⟩
      clear HSX
      go_region_held3 (fun W' => W'.cell? ⟨X, 0, none⟩ = some (.int .u8 3) /\ W'.cell? ⟨X, 1, none⟩ = some (.slice na s.nums.length nc) /\ W'.cell? ⟨X, 2, none⟩ = some (.int .i64 (s.rule : Nat)) /\ W'.cell? ⟨X, 3, none⟩ = some (.int .i64 (s.skip : Nat)) /\ W'.cell? ⟨A, 3, none⟩ = some (.func (.func 123) #[] #[])) (first | assumption | go_keep) (first
       | (go_at_call 123; refine (HC.o _ (by assumption)).mono ?_; rintro e w7 ⟨rfl, HZE, hS7⟩))
      go_wp2_with fail
      go_roundg m'
      case measure => omega
      case rel => exact HZE
     ·have HSO : Hid (s.sort = 4) := hso
      have HO2 : Hid (out = outB rts nm (bestM false (feeM rts p.am) dn s.nums none)) := by show _ = _; rw [<- HOUT.o]; unfold endOut; simp [hso]
      clear hso
      have HSX : Hid (∀ W', Fr (fun j => j = Q) W3 W' -> W'.cell? ⟨X, 0, none⟩ = some (.int .u8 4) /\ W'.cell? ⟨X, 1, none⟩ = some (.slice na s.nums.length nc) /\ W'.cell? ⟨X, 2, none⟩ = some (.int .i64 (s.rule : Nat)) /\ W'.cell? ⟨X, 3, none⟩ = some (.int .i64 (s.skip : Nat)) /\ W'.cell? ⟨A, 4, none⟩ = some (.func (.func 124) #[] #[])) := by
       intro W' hf
       have hx := hf.whole HX3.o (fun e => HNE.o.1 e)
       have ha := hf.whole HA3.o (fun e => HNE.o.2 e)
       have h0 := block_cell hx 0 _ rfl
       rw [HSO.o] at h0
       exact ⟨h0, block_cell hx 1 _ rfl, block_cell hx 2 _ rfl, block_cell hx 3 _ rfl, block_cell ha 4 _ rfl⟩
      have hS := HSX.o W3 (Fr.refl _ _)
      have HZd : Hid (F0 W3 W3.drew) := (Fr.refl _ _).drew
      have HC : Hid (∀ W', Hid (F0 W3 W') -> Calls Tryz.prog 124 #[.pointer (some ⟨Q, 0, none⟩), .agg #[.int .u8 4, .slice na s.nums.length nc, .int .i64 (s.rule : Nat), .int .i64 (s.skip : Nat)]] W' fun e w' => e = .returned (.tuple #[]) /\ Hid (ThS W Q TT p dn o l s out m' w') /\ w'.cell? ⟨X, 0, none⟩ = some (.int .u8 4) /\ w'.cell? ⟨X, 1, none⟩ = some (.slice na s.nums.length nc) /\ w'.cell? ⟨X, 2, none⟩ = some (.int .i64 (s.rule : Nat)) /\ w'.cell? ⟨X, 3, none⟩ = some (.int .i64 (s.skip : Nat)) /\ w'.cell? ⟨A, 4, none⟩ = some (.func (.func 124) #[] #[])) := by
       intro W' hf
       have hfj : Fr (fun j => j = Q) W W' := HFW3.o.trans (hf.o.mono (by simp))
       refine (takeFirst_any W' Q TT k p dn o 4 na s.nums nc s.rule s.skip nm ng nm1 nm2 rts ra rc (hf.o.whole HQ3.o (by simp)) (HNM.o.fr hfj) (HR1.o.fr hfj) (HI3.o.fr hf.o (by simp)) HL4.o.1 HL4.o.2 H6.o HAM.o).mono ?_
       rintro e w' ⟨he, h2, h3⟩
       have h4 := (hf.o.mono (T := fun j => j = Q) (by simp)).trans h3
       exact ⟨he, ⟨HFW3.o.trans h4, Or.inr ⟨k, by rw [HO2.o]; exact h2⟩⟩, HSX.o _ h4⟩
      clear HSX
      go_region_held3 (fun W' => W'.cell? ⟨X, 0, none⟩ = some (.int .u8 4) /\ W'.cell? ⟨X, 1, none⟩ = some (.slice na s.nums.length nc) /\ W'.cell? ⟨X, 2, none⟩ = some (.int .i64 (s.rule : Nat)) /\ W'.cell? ⟨X, 3, none⟩ = some (.int .i64 (s.skip : Nat)) /\ W'.cell? ⟨A, 4, none⟩ = some (.func (.func 124) #[] #[])) (first | assumption | go_keep) (first
       | (go_at_call 124; refine (HC.o _ (by assumption)).mono ?_; rintro e w7 ⟨rfl, HZE, hS7⟩))
      go_wp2_with fail
      go_roundg m'
      case measure => omega
      case rel => exact HZE
     ·have HSO : Hid (s.sort = 5) := hso
      have HO2 : Hid (out = outB rts nm (bestM true (feeM rts p.am) dn s.nums none)) := by show _ = _; rw [<- HOUT.o]; unfold endOut; simp [hso]
      clear hso
      have HSX : Hid (∀ W', Fr (fun j => j = Q) W3 W' -> W'.cell? ⟨X, 0, none⟩ = some (.int .u8 5) /\ W'.cell? ⟨X, 1, none⟩ = some (.slice na s.nums.length nc) /\ W'.cell? ⟨X, 2, none⟩ = some (.int .i64 (s.rule : Nat)) /\ W'.cell? ⟨X, 3, none⟩ = some (.int .i64 (s.skip : Nat)) /\ W'.cell? ⟨A, 5, none⟩ = some (.func (.func 125) #[] #[])) := by
       intro W' hf
       have hx := hf.whole HX3.o (fun e => HNE.o.1 e)
       have ha := hf.whole HA3.o (fun e => HNE.o.2 e)
       have h0 := block_cell hx 0 _ rfl
       rw [HSO.o] at h0
       exact ⟨h0, block_cell hx 1 _ rfl, block_cell hx 2 _ rfl, block_cell hx 3 _ rfl, block_cell ha 5 _ rfl⟩
      have hS := HSX.o W3 (Fr.refl _ _)
      have HZd : Hid (F0 W3 W3.drew) := (Fr.refl _ _).drew
      have HC : Hid (∀ W', Hid (F0 W3 W') -> Calls Tryz.prog 125 #[.pointer (some ⟨Q, 0, none⟩), .agg #[.int .u8 5, .slice na s.nums.length nc, .int .i64 (s.rule : Nat), .int .i64 (s.skip : Nat)]] W' fun e w' => e = .returned (.tuple #[]) /\ Hid (ThS W Q TT p dn o l s out m' w') /\ w'.cell? ⟨X, 0, none⟩ = some (.int .u8 5) /\ w'.cell? ⟨X, 1, none⟩ = some (.slice na s.nums.length nc) /\ w'.cell? ⟨X, 2, none⟩ = some (.int .i64 (s.rule : Nat)) /\ w'.cell? ⟨X, 3, none⟩ = some (.int .i64 (s.skip : Nat)) /\ w'.cell? ⟨A, 5, none⟩ = some (.func (.func 125) #[] #[])) := by
       intro W' hf
       have hfj : Fr (fun j => j = Q) W W' := HFW3.o.trans (hf.o.mono (by simp))
       refine (takeCheapest_any W' Q TT k p dn o 5 na s.nums nc s.rule s.skip nm ng nm1 nm2 rts ra rc (hf.o.whole HQ3.o (by simp)) (HNM.o.fr hfj) (HR1.o.fr hfj) (HI3.o.fr hf.o (by simp)) HL4.o.1 HL4.o.2 H6.o HAM.o).mono ?_
       rintro e w' ⟨he, h2, h3⟩
       have h4 := (hf.o.mono (T := fun j => j = Q) (by simp)).trans h3
       exact ⟨he, ⟨HFW3.o.trans h4, Or.inr ⟨k, by rw [HO2.o]; exact h2⟩⟩, HSX.o _ h4⟩
      clear HSX
      go_region_held3 (fun W' => W'.cell? ⟨X, 0, none⟩ = some (.int .u8 5) /\ W'.cell? ⟨X, 1, none⟩ = some (.slice na s.nums.length nc) /\ W'.cell? ⟨X, 2, none⟩ = some (.int .i64 (s.rule : Nat)) /\ W'.cell? ⟨X, 3, none⟩ = some (.int .i64 (s.skip : Nat)) /\ W'.cell? ⟨A, 5, none⟩ = some (.func (.func 125) #[] #[])) (first | assumption | go_keep) (first
       | (go_at_call 125; refine (HC.o _ (by assumption)).mono ?_; rintro e w7 ⟨rfl, HZE, hS7⟩))
      go_wp2_with fail
      go_roundg m'
      case measure => omega
      case rel => exact HZE
  ·have q12 : wr.cell? ⟨Q, 12, none⟩ = some (.bool true) := block_cell hq 12 _ rfl
   have HQ : Hid (wr.heap[Q]? = some (rnO TT p dn k true out)) := hq
   have HFW : Hid (Fr (fun j => j = Q) w wr) := (HF1.o.mono (by simp)).trans hfw
   clear hq hfw hrel
   go_wp2_with fail
   go_end0
   exact ⟨rfl, ⟨k, HQ.o⟩, HFW.o⟩
end Go.Proofs.YtccikgogjfbpeabGreatDoor

namespace Go.Proofs.YtccikgogjfbpeabGreatDoor
open Go.RowKit
theorem Fr.setRow {S : Nat -> Prop} {w0 w : World} (h : Fr S w0 w) {g : Nat} (hg : S g \/ w0.heap.size <= g) (cs : Array Value) : Fr S w0 (w.setRow g cs) :=
 h.monoNew (T := fun k => k = g) ⟨rfl, rfl, rfl, by simp, fun k _ hn => setRow_other w g k cs hn⟩ (fun k hk => by subst hk; exact hg)
theorem writeM_len (R : List RuleM) (met : Nat) : ∀ L : List Nat, (writeM R met L).length <= L.length * 4 + 1
 | [] => by simp [writeM]
 | i :: L => by
  have ih := writeM_len R met L
  simp only [writeM, List.length_cons]
  split
  ·cases hr : R[i]? with
   | none => dsimp only; omega
   | some r =>
    dsimp only
    split
    ·simp
    ·have h3 : (guardsM r).length <= 3 := guardsM_len r
     rw [List.length_append, List.length_cons, askedM, skips_len]
     omega
  ·omega
theorem skips_mem {m : Nat} : ∀ {l : List StepM} {a : Nat} {s : StepM}, s ∈ skipsM m a l -> ∃ s', s' ∈ l /\ s.sort = s'.sort /\ s.nums = s'.nums /\ s.skip <= m + 1
 | [], _, _, h => by cases h
 | x :: r, a, s, h => by
  rcases List.mem_cons.1 h with e | h
  ·subst e
   exact ⟨x, by simp, rfl, rfl, by show m - a + 1 <= m + 1; omega⟩
  ·obtain ⟨s', h1, h2⟩ := skips_mem h
   exact ⟨s', by simp [h1], h2⟩
theorem guards_ok {n : Nat} {r : RuleM} (h : RlOk n r) : ∀ s, s ∈ guardsM r -> s.nums.length <= 4000 /\ (s.sort = 1 -> ∃ x y, s.nums = [x, y]) := by
 intro s hs
 unfold guardsM at hs
 rw [List.mem_append, List.mem_append] at hs
 rcases hs with e | e | e
 ·split at e
  ·cases e
  ·simp at e; subst e; exact ⟨h.mc.1, fun e => by simp at e⟩
 ·cases hh : r.am with
  | none => rw [hh] at e; cases e
  | some ab => rw [hh] at e; simp at e; subst e; exact ⟨by simp, fun _ => ⟨_, _, rfl⟩⟩
 ·split at e
  ·cases e
  ·simp at e; subst e; exact ⟨h.cu.1, fun e => by simp at e⟩
theorem write_guards {R : List RuleM} {n : Nat} (hR : ∀ r, r ∈ R -> RlOk n r) (met : Nat) : ∀ (L : List Nat) (s : StepM), s ∈ writeM R met L -> s.sort < 3 -> GdOk s
 | [], s, h, hs => by
  simp [writeM] at h
  subst h
  simp at hs
 | i :: L, s, h, hs => by
  have ih := write_guards hR met L s
  simp only [writeM] at h
  split at h
  ·cases hr : R[i]? with
   | none => rw [hr] at h; exact ih h hs
   | some r =>
    rw [hr] at h
    dsimp only at h
    split at h
    ·simp at h
     subst h
     exact absurd hs (act_sort i r)
    ·rw [List.mem_append] at h
     rcases h with h | h
     ·obtain ⟨s', h1, h2, h3, h4⟩ := skips_mem h
      obtain ⟨g1, g2⟩ := guards_ok (hR r (List.mem_of_getElem? hr)) s' h1
      have g3 : (guardsM r).length <= 3 := guardsM_len r
      exact ⟨by rw [h3]; exact g1, by omega, fun e => by rw [h3]; exact g2 (by rw [<- h2]; exact e)⟩
     ·rcases List.mem_cons.1 h with e | h
      ·subst e
       exact absurd hs (act_sort i r)
      ·exact ih h hs
  ·exact ih h hs
theorem card_lt {s : ByteArray} (h : panOk s = true) : card6 s < 10 ^ 6 := by
 obtain ⟨h6, _, hd⟩ := pan_digit h
 have hl : (s.data.toList.take 6).length = 6 := by rw [List.length_take]; simp; omega
 have e := numOf_9 (s.data.toList.take 6) 0 (fun c hc => (hd c (List.mem_of_mem_take hc)).2)
 rw [hl] at e
 unfold card6 numOf
 omega
theorem knows_all (R : List RuleM) : KnowsAt R ⟨0, 0⟩ 0 (2 ^ R.length - 1) := by
 intro i r hr
 refine ⟨fun h => by simp at h, fun _ h => ?_⟩
 have := (List.getElem?_eq_some_iff.1 hr).1
 rw [Nat.testBit_two_pow_sub_one] at h
 simp at h
 omega
theorem grown_ok {rts : List RouteM} {R : List RuleM} (hb : BookOk rts R) (p : PayM) (hp : panOk p.pan = true) :
  ∃ m, (growM R 7 ⟨0, 0⟩ 0 (2 ^ R.length - 1) []).2[(growM R 7 ⟨0, 0⟩ 0 (2 ^ R.length - 1) []).1.find (dgt (card6 p.pan)) 0]? = some m /\
   ∃ n, machM (okS p) (writeM R m (ordL R.length (stageF (rankF R) R.length))) n 0 = some (endM R (bestR (rankF R) (meetC R p (card6 p.pan)) R.length)) := by
 have hg := grow_ok (R := R) (fun r hr => ⟨(hb.rl r hr).bn.1, (hb.rl r hr).bn.2.1⟩) 7 ⟨0, 0⟩ 0 (2 ^ R.length - 1) [] (by simp) (by simp) (knows_all R)
 obtain ⟨m, h1, h2⟩ := hg.2 (card6 p.pan) (by unfold inPart; have := card_lt hp; simp; omega)
 refine ⟨m, h1, ?_⟩
 obtain ⟨n, hn⟩ := mach_write R m p (ordL R.length (stageF (rankF R) R.length))
 rw [first_best R m p (card6 p.pan) h2] at hn
 exact ⟨n, hn⟩
theorem grown_deep {rts : List RouteM} {R : List RuleM} (hb : BookOk rts R) : (growM R 7 ⟨0, 0⟩ 0 (2 ^ R.length - 1) []).1.deep 0 :=
 (grow_ok (R := R) (fun r hr => ⟨(hb.rl r hr).bn.1, (hb.rl r hr).bn.2.1⟩) 7 ⟨0, 0⟩ 0 (2 ^ R.length - 1) [] (by simp) (by simp) (knows_all R)).1
theorem end_out {rts : List RouteM} {R : List RuleM} (p : PayM) (dn : Nat -> Bool) (hp : payOk p = true) (c : Nat) (hc : c = card6 p.pan) : 
  decM rts R p dn = endOut rts ((match bestR (rankF R) (meetC R p c) R.length with | none => none | some i => (R[i]?).map RuleM.name).getD ByteArray.empty) (endM R (bestR (rankF R) (meetC R p c) R.length)) dn p.am := by
 subst hc
 unfold decM
 rw [if_pos hp]
 cases hb : bestR (rankF R) (meetC R p (card6 p.pan)) R.length with
 | none => rfl
 | some i =>
  cases hr : R[i]? with
  | none => simp [endM, hr, endOut]
  | some r =>
   simp only [endM, hr, Option.map_some, Option.getD_some]
   unfold outM actM
   cases hd : r.decline with
   | true => simp [endOut]
   | false =>
    cases hch : r.cheapest with
    | true =>
     simp only [Bool.false_eq_true, if_false, if_true, endOut]
     simp only [show ¬ (5 : Nat) = 3 from by decide, show ¬ (5 : Nat) = 4 from by decide, if_false]
     cases bestM true (feeM rts p.am) dn r.routes none <;> rfl
    | false =>
     simp only [Bool.false_eq_true, if_false, endOut]
     simp only [show ¬ (4 : Nat) = 3 from by decide, if_false, if_true]
     cases bestM false (feeM rts p.am) dn r.routes none <;> rfl
theorem RtAt.of {w : World} {TT Q base rc : Nat} {ra : Option Addr} {rts : List RouteM} (hc : w.cell? ⟨TT, 0, none⟩ = some (.slice ra rts.length rc)) (hr : w.ownsRow base 144 3 (.slice ra rts.length rc) rts.length (rtRow rts)) (hQ : w.heap.size <= Q) (ho : ∀ t, t ∈ rts -> RtOk t) : RtAt w TT Q rts ra rc := by
 have hT : TT < w.heap.size := World.block_lt_of_cell? w _ hc
 refine ⟨hc, by omega, fun i t hi => ?_, ho⟩
 have hl := (List.getElem?_eq_some_iff.1 hi).1
 obtain ⟨g, cap, e, _, hg, hcells⟩ := ownsRow_rt hr (by omega)
 injection e with e _ _
 exact ⟨g, e, by omega, hcells i t hi⟩
theorem PgAt.of {zb base : Nat} {w : World} {Q pc : Nat} {pa : Option Addr} {l : List StepM} (h : StRow zb w base (.slice pa l.length pc) l) (hQ : w.heap.size <= Q) : PgAt w Q pa l := by
 intro k s hs
 obtain ⟨xs, h1, h2⟩ := h
 have hl := (List.getElem?_eq_some_iff.1 hs).1
 obtain ⟨g, cap, e, _, hg⟩ := h1.form (by omega)
 injection e with e _ _
 subst e
 obtain ⟨c, ⟨vn, rfl, hn⟩, hc⟩ := h2.get hs
 obtain ⟨na, nc, e3⟩ := ownsRow_len hn
 subst e3
 have cell : ∀ o v, [Value.int .u8 s.sort, .slice na s.nums.length nc, .int .i64 s.rule, .int .i64 s.skip][o]? = some v -> w.cell? ⟨g, k * 4 + o, none⟩ = some v := fun o v ho => by
  have hx := h1.cells (g := g) rfl _ _ (hc o v ho)
  rw [addr_add', Nat.zero_add] at hx
  exact hx
 refine ⟨g, na, nc, rfl, by omega, cell 0 _ rfl, cell 1 _ rfl, cell 2 _ rfl, cell 3 _ rfl, IntsAt.of hn, fun g' e => ?_⟩
 subst e
 have := (hn.lt g' rfl).2
 omega
end Go.Proofs.YtccikgogjfbpeabGreatDoor
