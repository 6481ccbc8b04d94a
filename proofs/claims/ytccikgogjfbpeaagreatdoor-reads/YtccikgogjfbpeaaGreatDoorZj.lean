/- The law: one step, of those that Reads lets through. The law: the script, played up to the plain texts; Reads. -/
import Derived.Test.YtccikgogjfbpeaaGreatDoorZi
namespace Go.Proofs.YtccikgogjfbpeaaGreatDoor
open Go.RowKit

/-- A step, as a value. -/
def opV (k on : Int) (s pan : ByteArray) (mcc am cur : Int) (da : Option Addr) (dn dc : Nat) (up : Bool) : Value :=
 .agg #[.int .i64 k, .int .i64 on, .string s, .string pan, .int .i64 mcc, .int .i64 am, .int .i64 cur, .slice da dn dc, .bool up]
def opCells (k on : Int) (s pan : ByteArray) (mcc am cur : Int) (da : Option Addr) (dn dc : Nat) (up : Bool) : Obj :=
 .cells #[.int .i64 k, .int .i64 on, .string s, .string pan, .int .i64 mcc, .int .i64 am, .int .i64 cur, .slice da dn dc, .bool up] 62

set_option maxRecDepth 30000 in
set_option maxHeartbeats 2000000 in
theorem lstep_compile (w : World) (L : Nat) (v : Value) (xs : List Value) (on : Int) (s pan : ByteArray) (mcc am cur : Int) (da : Option Addr) (dn dc : Nat) (up : Bool) (h : LSt w L v xs) :
  Calls Tryz.prog 26 #[.pointer (some ⟨L, 0, none⟩), opV 1 on s pan mcc am cur da dn dc up] w fun e w' => e = .returned (.bool true) ∧ (∃ v' xs', LSt w' L v' xs') ∧ Fr (fun k => L ≤ k) w w' := by
 unfold opV
 have HL : Hid (LSt w L v xs) := h
 clear h
 go_enter Tryz.func26, Tryz.ntmps26
 go_wp2_with fail
 have HF : Hid (Fr (fun _ => False) w (w.alloc (opCells 1 on s pan mcc am cur da dn dc up))) := (Fr.refl _ _).alloc _
 unfold opCells at HF
 refine (compiles_any _ L v xs s (HL.out.fr HF.out)).mono ?_
 rintro e w1 ⟨rfl, ⟨v', xs', h1⟩, hf⟩
 have H1 : Hid (LSt w1 L v' xs') := h1
 have HF1 : Hid (Fr (fun k => L ≤ k) w w1) := (HF.out.mono (by simp)).trans hf
 clear h1 hf
 go_wp2
 go_ret
 exact ⟨rfl, ⟨_, _, H1.out⟩, HF1.out⟩

/-- The element of the row that a raw number speaks of. -/
theorem LSt.pick {w : World} {L : Nat} {v : Value} {xs : List Value} (h : LSt w L v xs) (k : Nat) (hk : k < xs.length) :
  ∃ g c X, v = .slice (some ⟨g, 0, none⟩) xs.length c ∧ g < w.heap.size ∧ w.cell? ⟨g, k, none⟩ = some (.pointer (some ⟨X, 0, none⟩)) ∧ ∃ a, L < a ∧ TabAt w a X := by
 obtain ⟨g, c, e, hb, hl⟩ := h.own.form (by omega)
 subst e
 have hx := List.getElem?_eq_getElem hk
 obtain ⟨w0, a, X, h1, h2, h3, h4, h5⟩ := h.en xs[k] (List.getElem_mem hk)
 have hc := h.own.cells (g := g) rfl _ _ hx
 rw [addr_add, Nat.zero_add] at hc
 exact ⟨g, c, X, rfl, hl, by rw [hc, h1], a, h2, h3.fr h4 (fun k hk => hk)⟩

set_option maxRecDepth 30000 in
set_option maxHeartbeats 2000000 in
theorem lstep_none (w : World) (L : Nat) (xs : List Value) (va : Option Addr) (vc : Nat) (k on : Int) (s pan : ByteArray) (mcc am cur : Int) (da : Option Addr) (dn dc : Nat) (up : Bool) (h : LSt w L (.slice va 0 vc) xs) (hk : k ≤ 2) (hk1 : k ≠ 1) :
  Calls Tryz.prog 26 #[.pointer (some ⟨L, 0, none⟩), opV k on s pan mcc am cur da dn dc up] w fun e w' => e = .returned (.bool true) ∧ (∃ v' xs', LSt w' L v' xs') ∧ Fr (fun k => L ≤ k) w w' := by
 have HL : Hid (LSt w L (.slice va 0 vc) xs) := h
 clear h
 have e1 : (k == 1) = false := by simp; omega
 have e7 : (k == 7) = false := by simp; omega
 have e9 : (k == 9) = false := by simp; omega
 have e10 : (k == 10) = false := by simp; omega
 have HF : Hid (Fr (fun _ => False) w (w.alloc (opCells k on s pan mcc am cur da dn dc up))) := (Fr.refl _ _).alloc _
 have c0 := (HL.out.fr HF.out).c0
 unfold opCells at HF c0
 clear hk hk1
 unfold opV
 go_enter Tryz.func26, Tryz.ntmps26
 go_wp2
 go_ret
 exact ⟨rfl, ⟨_, _, HL.out.fr HF.out⟩, HF.out.mono (by simp)⟩

set_option maxRecDepth 30000 in
set_option maxHeartbeats 2000000 in
theorem lstep_some (w : World) (L : Nat) (v : Value) (xs : List Value) (k on : Int) (s pan : ByteArray) (mcc am cur : Int) (da : Option Addr) (dn dc : Nat) (up : Bool) (h : LSt w L v xs) (h0 : 0 < xs.length) (hk : k ≤ 2) (hk1 : k ≠ 1) (ho1 : -9223372036854775808 ≤ on) (ho2 : on ≤ 9223372036854775807)
  (ht : ∀ w', Fr (fun k => L ≤ k) w w' → Tab w') :
  Calls Tryz.prog 26 #[.pointer (some ⟨L, 0, none⟩), opV k on s pan mcc am cur da dn dc up] w fun e w' => e = .returned (.bool true) ∧ (∃ v' xs', LSt w' L v' xs') ∧ Fr (fun k => L ≤ k) w w' := by
 have e1 : (k == 1) = false := by simp; omega
 have e7 : (k == 7) = false := by simp; omega
 have e9 : (k == 9) = false := by simp; omega
 have e10 : (k == 10) = false := by simp; omega
 have HF : Hid (Fr (fun _ => False) w (w.alloc (opCells k on s pan mcc am cur da dn dc up))) := (Fr.refl _ _).alloc _
 have HT : Hid (∀ w', Fr (fun k => L ≤ k) w w' → Tab w') := ht
 have HL : Hid (LSt (w.alloc (opCells k on s pan mcc am cur da dn dc up)) L v xs) := h.fr HF.out
 have hy := heap_alloc_new w (opCells k on s pan mcc am cur da dn dc up)
 have y0 := block_cell hy 0 _ rfl
 have y1 := block_cell hy 1 _ rfl
 unfold opCells at HF HL y0 y1
 obtain ⟨n, hn⟩ : ∃ n, xs.length = n := ⟨_, rfl⟩
 have HN : Hid (xs.length = n) := hn
 have hn0 : 0 < n := by omega
 have hn20 : n ≤ 20 := by have := h.few; omega
 have hp : pickM on n < n := pickM_lt on n hn0
 have hpI : (pickM on n : Int) < (n : Int) := by omega
 have hne : ((n : Int) == 0) = false := by simp; omega
 obtain ⟨g, c, X, hv, hgl, hgc, HTA⟩ := HL.out.pick (pickM on n) (by omega)
 have HTA' : Hid (∃ a, L < a ∧ TabAt (w.alloc (.cells #[.int .i64 k, .int .i64 on, .string s, .string pan, .int .i64 mcc, .int .i64 am, .int .i64 cur, .slice da dn dc, .bool up] 62)) a X) := HTA
 subst hv
 rw [hn] at HL
 have c0 := HL.out.c0
 have HPK : Hid (∀ W, Calls Tryz.prog 44 #[.int .i64 on, .int .i64 n] W fun e w' => e = .returned (.int .i64 (pickM on n)) ∧ w' = W) := fun W => pick_any on n W ho1 ho2 hn0 (by omega)
 clear h ht h0 hk1 hn hy HTA hn0 hn20 ho1 ho2
 unfold opV
 go_enter Tryz.func26, Tryz.ntmps26
 go_wp2_with fail
 go_quiet ((go_at_call 44; exact Calls.quiet_of_same (HPK.out _)))
 have HD : Hid (Fr (fun _ => False) (w.alloc (.cells #[.int .i64 k, .int .i64 on, .string s, .string pan, .int .i64 mcc, .int .i64 am, .int .i64 cur, .slice da dn dc, .bool up] 62)) ((w.alloc (.cells #[.int .i64 k, .int .i64 on, .string s, .string pan, .int .i64 mcc, .int .i64 am, .int .i64 cur, .slice da dn dc, .bool up] 62)).drewN nq)) := ⟨rfl, rfl, rfl, Nat.le_refl _, fun _ _ _ => rfl⟩
 have z0 := (HD.out.cell (p := ⟨w.heap.size, 0, none⟩) (World.block_lt_of_cell? _ _ y0) (by simp)).trans y0
 have HL2 := HL.out.fr HD.out
 obtain ⟨a, hLa, hTA⟩ := HTA'.out
 have hTA2 := hTA.fr HD.out (by simp)
 have HF2 : Hid (Fr (fun _ => False) w ((w.alloc (.cells #[.int .i64 k, .int .i64 on, .string s, .string pan, .int .i64 mcc, .int .i64 am, .int .i64 cur, .slice da dn dc, .bool up] 62)).drewN nq)) := HF.out.trans HD.out
 generalize (w.alloc (.cells #[.int .i64 k, .int .i64 on, .string s, .string pan, .int .i64 mcc, .int .i64 am, .int .i64 cur, .slice da dn dc, .bool up] 62)).drewN nq = W at *
 have HL3 : Hid (LSt W L (.slice (some ⟨g, 0, none⟩) n c) xs) := HL2
 obtain ⟨T, q, Bb, TT, vr, vl, rts, rls, zs, body, h1, h2, h3, h4, k4, h5, h6, k6, h7, h8⟩ := hTA2
 clear HL2 hTA y0 y1 c0 hgc hgl hLa hp hpI hne e1 e7 e9 e10
 by_cases hk2 : k = 2
 ·subst hk2
  have HTX : Hid (Calls Tryz.prog 17 #[.pointer (some ⟨T, 0, none⟩)] W fun e w' => e = .returned (.string (strB (bookJ rts rls))) ∧ Fr (fun _ => False) W w') := TText_any W T Bb vr vl rts rls zs h4 h6 h7 (HT.out W (HF2.out.mono (by simp)))
  have HRA : Hid (RulesAt W a q body rts rls) := h8
  have HX : Hid (W.heap[X]? = some (.cells #[.pointer (some ⟨T, 0, none⟩), .pointer (some ⟨q, 0, none⟩), .bool false, .bool false, .slice none 0 0, .slice none 0 0] 97)) := h2
  have x0 := block_cell h2 0 _ rfl
  clear h1 h2 h3 h4 k4 h5 h6 k6 h7 h8
  go_wp2_with fail
  refine HTX.out.mono ?_
  rintro e w5 ⟨rfl, hf⟩
  have HF5 : Hid (Fr (fun _ => False) W w5) := hf
  have x1 := block_cell (hf.whole HX.out (by simp)) 1 _ rfl
  have x2 := block_cell (hf.whole HX.out (by simp)) 2 _ rfl
  have HRT : Hid (Calls Tryz.prog 45 #[.pointer (some ⟨q, 0, none⟩)] w5 fun e w' => e = .returned (.string (strB (bookJ rts rls))) ∧ w' = w5) := by
   have hr := HRA.out.fr hf
   obtain ⟨⟨a', c', k1, k2⟩, _, ⟨k3, k4⟩, k5, _⟩ := hr
   refine (RText_any w5 q a' c' body k1 (fun h => by obtain ⟨g', e, _, _, r⟩ := k2 h; exact ⟨g', e, r⟩) k3 k4).mono ?_
   rintro e w' ⟨⟨t, rfl, ht⟩, rfl⟩
   refine ⟨?_, rfl⟩
   rw [← k5] at ht
   have : t = strB (bookJ rts rls) := by
    unfold strB
    rw [← ht]
   rw [this]
  clear hf x0 z0
  go_wp2_with fail
  refine HRT.out.mono ?_
  rintro e w6 ⟨rfl, hw⟩
  replace hw := hw.symm
  subst hw
  go_wp2
  go_ret
  exact ⟨rfl, ⟨_, _, HL3.out.fr HF5.out⟩, (HF2.out.trans HF5.out).mono (by simp)⟩
 ·have f2 : (k == 2) = false := by simp; omega
  have f3 : (k == 3) = false := by simp; omega
  have f4 : (k == 4) = false := by simp; omega
  have f5 : (k == 5) = false := by simp; omega
  have f6 : (k == 6) = false := by simp; omega
  have f8 : (k == 8) = false := by simp; omega
  clear h1 h2 h3 h4 k4 h5 h6 k6 h7 h8 hk hk2
  go_wp2
  go_ret
  exact ⟨rfl, ⟨_, _, HL3.out⟩, HF2.out.mono (by simp)⟩
theorem lstep_any (w : World) (L : Nat) (v : Value) (xs : List Value) (k on : Int) (s pan : ByteArray) (mcc am cur : Int) (da : Option Addr) (dn dc : Nat) (up : Bool) (h : LSt w L v xs) (hk : k ≤ 2) (ho1 : -9223372036854775808 ≤ on) (ho2 : on ≤ 9223372036854775807)
  (ht : ∀ w', Fr (fun k => L ≤ k) w w' → Tab w') :
  Calls Tryz.prog 26 #[.pointer (some ⟨L, 0, none⟩), opV k on s pan mcc am cur da dn dc up] w fun e w' => e = .returned (.bool true) ∧ (∃ v' xs', LSt w' L v' xs') ∧ Fr (fun k => L ≤ k) w w' := by
 by_cases hk1 : k = 1
 ·subst hk1
  exact lstep_compile w L v xs on s pan mcc am cur da dn dc up h
 ·rcases Nat.eq_zero_or_pos xs.length with h0 | h0
  ·obtain ⟨va, vc, e⟩ := ownsRow_len h.own
   rw [h0] at e
   subst e
   exact lstep_none w L xs va vc k on s pan mcc am cur da dn dc up h hk hk1
  ·exact lstep_some w L v xs k on s pan mcc am cur da dn dc up h h0 hk hk1 ho1 ho2 ht
end Go.Proofs.YtccikgogjfbpeaaGreatDoor

namespace Go.Proofs.YtccikgogjfbpeaaGreatDoor
open Go.RowKit

/-- A step of the script in memory. -/
def OpAt (w : World) (b o : Nat) : Prop :=
 ∃ (k on : Int) (s pan : ByteArray) (mcc am cur : Int) (da : Option Addr) (dn dc : Nat) (up : Bool), -9223372036854775808 ≤ on ∧ on ≤ 9223372036854775807 ∧
  w.cell? ⟨b, o, none⟩ = some (.int .i64 k) ∧ w.cell? ⟨b, o + 1, none⟩ = some (.int .i64 on) ∧ w.cell? ⟨b, o + 2, none⟩ = some (.string s) ∧ w.cell? ⟨b, o + 3, none⟩ = some (.string pan) ∧ w.cell? ⟨b, o + 4, none⟩ = some (.int .i64 mcc) ∧
  w.cell? ⟨b, o + 5, none⟩ = some (.int .i64 am) ∧ w.cell? ⟨b, o + 6, none⟩ = some (.int .i64 cur) ∧ w.cell? ⟨b, o + 7, none⟩ = some (.slice da dn dc) ∧ w.cell? ⟨b, o + 8, none⟩ = some (.bool up)
theorem OpAt.fr {w w' : World} {b o : Nat} {S : Nat → Prop} (h : OpAt w b o) (hf : Fr S w w') (hb : b < w.heap.size) (hS : ¬ S b) : OpAt w' b o := by
 obtain ⟨k, on, s, pan, mcc, am, cur, da, dn, dc, up, h1, h2, c0, c1, c2, c3, c4, c5, c6, c7, c8⟩ := h
 have g : ∀ j u, w.cell? ⟨b, o + j, none⟩ = some u → w'.cell? ⟨b, o + j, none⟩ = some u := fun j u e => (hf.cell (p := ⟨b, o + j, none⟩) hb hS).trans e
 exact ⟨k, on, s, pan, mcc, am, cur, da, dn, dc, up, h1, h2, g 0 _ c0, g 1 _ c1, g 2 _ c2, g 3 _ c3, g 4 _ c4, g 5 _ c5, g 6 _ c6, g 7 _ c7, g 8 _ c8⟩

set_option maxRecDepth 30000 in
set_option maxHeartbeats 4000000 in
theorem played_any (w : World) (sa : Option Addr) (n c : Nat) (hn : n ≤ maxLen) (hs : ∀ i, i < n → ∃ b o, sa = some ⟨b, o, none⟩ ∧ b < w.heap.size ∧ OpAt w b (o + i * 9)) (ht : ∀ w', Below w.heap.size w w' → Tab w') :
  Calls Tryz.prog 11 #[.slice sa n c, .int .i64 2] w fun e w' => e = .returned (.bool true) ∧ Below w.heap.size w w' := by
 have HS : Hid (∀ i, i < n → ∃ b o, sa = some ⟨b, o, none⟩ ∧ b < w.heap.size ∧ OpAt w b (o + i * 9)) := hs
 have HT : Hid (∀ w', Below w.heap.size w w' → Tab w') := ht
 unfold maxLen at hn
 have hnI : (n : Int) ≤ 9223372036854775807 := by omega
 clear hs ht
 go_enter Tryz.func11, Tryz.ntmps11
 go_wp2_with fail
 have hL0 := heap_alloc_new w (.cells #[.slice none 0 0, .slice none 0 0, .slice none 0 0, .slice none 0 0, .slice none 0 0, .slice none 0 0, .int .i64 0] 58)
 have HF0 : Hid (Fr (fun _ => False) w (w.alloc (.cells #[.slice none 0 0, .slice none 0 0, .slice none 0 0, .slice none 0 0, .slice none 0 0, .slice none 0 0, .int .i64 0] 58))) := (Fr.refl _ _).alloc _
 have HL : Hid (LSt (w.alloc (.cells #[.slice none 0 0, .slice none 0 0, .slice none 0 0, .slice none 0 0, .slice none 0 0, .slice none 0 0, .int .i64 0] 58)) w.heap.size (.slice none 0 0) []) :=
  ⟨block_cell hL0 0 _ rfl, block_cell hL0 2 _ rfl, block_cell hL0 3 _ rfl, fun o => block_frozen hL0 o, World.ownsRow_nil _ _ _ _, by simp, fun x hx => by cases hx⟩
 clear hL0
 refine (compiles_any _ w.heap.size _ [] _ HL.out).mono ?_
 rintro e w1 ⟨rfl, hl1, hf1⟩
 have HL1 : Hid (∃ v xs, LSt w1 w.heap.size v xs) := hl1
 have HF1 : Hid (Fr (fun k => w.heap.size ≤ k) w w1) := (HF0.out.mono (by simp)).trans hf1
 clear hl1 hf1 HL HF0
 obtain ⟨L, hL⟩ : ∃ L, w.heap.size = L := ⟨_, rfl⟩
 rw [hL] at HL1 HF1
 have HLE : Hid (w.heap.size = L) := hL
 rw [hL]
 clear hL
 go_wp2_with fail
 go_loopg [6, 8] 0 (fun _ ok kk wr => ok = .bool true ∧ kk = .int .i64 0 ∧ Hid (wr = w1))
 case atStart => exact ⟨rfl, rfl, rfl⟩
 case round =>
  obtain ⟨rfl, rfl, HW⟩ := hrel
  have e := HW.out
  subst e
  go_wp2_with fail
  go_loopg [6, 14] n (fun m ok ii wr => ∃ i, i ≤ n ∧ m = n - i ∧ ok = .bool true ∧ ii = .int .i64 (i : Nat) ∧ Hid (∃ v xs, LSt wr L v xs) ∧ Hid (Fr (fun k => L ≤ k) w wr))
  case atStart => exact ⟨0, Nat.zero_le _, rfl, rfl, rfl, HL1, HF1⟩
  case round =>
   obtain ⟨i, hi, rfl, rfl, rfl, HLi, HFi⟩ := hrel
   by_cases hlt : i < n
   ·have hki : (i : Int) < (n : Int) := by omega
    obtain ⟨b, o, rfl, hb, hop⟩ := HS.out i hlt
    obtain ⟨k, on, s, pan, mcc, am, cur, da, dn, dc, up, h1, h2, c0, c1, c2, c3, c4, c5, c6, c7, c8⟩ := hop.fr HFi.out hb (by have := HLE.out; omega)
    have HON : Hid (-9223372036854775808 ≤ on ∧ on ≤ 9223372036854775807) := ⟨h1, h2⟩
    clear hop h1 h2
    by_cases hk : 2 < k
    ·go_wp2
     go_roundg (n - (i + 1))
     case measure => omega
     case rel => exact ⟨i + 1, by omega, rfl, rfl, by go_num, HLi, HFi⟩
    ·have hk2 : k ≤ 2 := by omega
     obtain ⟨v, xs, hl⟩ := HLi.out
     have HST : Hid (Calls Tryz.prog 26 #[.pointer (some ⟨L, 0, none⟩), opV k on s pan mcc am cur da dn dc up] wr fun e w' => e = .returned (.bool true) ∧ (∃ v' xs', LSt w' L v' xs') ∧ Fr (fun k => L ≤ k) wr w') := lstep_any wr L v xs k on s pan mcc am cur da dn dc up hl hk2 HON.out.1 HON.out.2 (fun w' hw => HT.out w' ((HFi.out.trans hw).below (Nat.le_refl _) (fun k hk => by have := HLE.out; omega)))
     unfold opV at HST
     clear hl hk2
     go_wp2_with fail
     refine HST.out.mono ?_
     rintro e w4 ⟨rfl, hl4, hf4⟩
     have HL4 : Hid (∃ v xs, LSt w4 L v xs) := hl4
     have HF4 : Hid (Fr (fun k => L ≤ k) w w4) := HFi.out.trans hf4
     clear hl4 hf4 c0 c1 c2 c3 c4 c5 c6 c7 c8
     have HSL : Hid (Calls Tryz.prog 29 #[.pointer (some ⟨L, 0, none⟩)] w4 fun e w' => e = .returned (.bool true) ∧ w' = w4) := by
      obtain ⟨v', xs', h⟩ := HL4.out
      exact still_none w4 L h.c2 h.c3
     go_wp2_with fail
     refine HSL.out.mono ?_
     rintro e w5 ⟨rfl, hw⟩
     replace hw := hw.symm
     subst hw
     go_wp2
     go_roundg (n - (i + 1))
     case measure => omega
     case rel => exact ⟨i + 1, by omega, rfl, rfl, by go_num, HL4, HF4⟩
   ·have hki : ¬ (i : Int) < (n : Int) := by omega
    go_wp2
    go_ret
    exact ⟨rfl, HFi.out.below (Nat.le_refl _) (fun k hk => by have := HLE.out; omega)⟩

set_option maxRecDepth 30000 in
set_option maxHeartbeats 400000 in
theorem Reads_any (w : World) (sa : Option Addr) (n c : Nat) (hn : n ≤ maxLen) (hs : ∀ i, i < n → ∃ b o, sa = some ⟨b, o, none⟩ ∧ b < w.heap.size ∧ OpAt w b (o + i * 9)) (ht : ∀ w', Below w.heap.size w w' → Tab w') :
  Calls Tryz.prog 3 #[.slice sa n c] w fun e w' => e = .returned (.bool true) ∧ Below w.heap.size w w' := by
 have HP : Hid (Calls Tryz.prog 11 #[.slice sa n c, .int .i64 2] w fun e w' => e = .returned (.bool true) ∧ Below w.heap.size w w') := played_any w sa n c hn hs ht
 clear hn hs ht
 go_enter Tryz.func3, Tryz.ntmps3
 go_wp2_with fail
 refine HP.out.mono ?_
 rintro e w1 ⟨rfl, hb⟩
 have HB : Hid (Below w.heap.size w w1) := hb
 clear hb
 go_wp2
 go_ret
 exact ⟨rfl, HB.out⟩
end Go.Proofs.YtccikgogjfbpeaaGreatDoor
