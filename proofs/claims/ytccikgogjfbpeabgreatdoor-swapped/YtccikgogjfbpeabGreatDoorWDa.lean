/- Deciding: slices.Index, slices.Contains, upTo, AllDigits, isPan, isPayment. Deciding: a payment's way through a program: what the steps do. -/
import Derived.Test.YtccikgogjfbpeabGreatDoorWHa
import Derived.Test.YtccikgogjfbpeabGreatDoorWGi
import Derived.Deep.RegionHeld3
namespace Go.Proofs.YtccikgogjfbpeabGreatDoor
open Go.RowKit
def idxI (n : Int) : Nat -> List Nat -> Int
 | _, [] => -1
 | i, x :: r => if (n == (x : Int)) = true then (i : Int) else idxI n (i + 1) r
theorem idxI_in (n : Int) : ∀ (l : List Nat) (i : Nat), decide (0 <= idxI n i l) = inL l n
 | [], _ => rfl
 | x :: r, i => by
  unfold idxI inL
  rw [List.any_cons]
  by_cases h : n = (x : Int)
  ·have h' : (x : Int) = n := h.symm
   simp [h]
  ·have h' : ¬ (x : Int) = n := fun e => h e.symm
   have e : (n == (x : Int)) = false := by simpa using h
   rw [e, if_neg (by simp), idxI_in n r (i + 1)]
   simp [h', inL]
def idxS (s : ByteArray) : Nat -> List ByteArray -> Int
 | _, [] => -1
 | i, x :: r => if (s.toList == x.toList) = true then (i : Int) else idxS s (i + 1) r
def inS (l : List ByteArray) (s : ByteArray) : Bool := l.any (fun x => s.toList == x.toList)
theorem idxS_in (s : ByteArray) : ∀ (l : List ByteArray) (i : Nat), decide (0 <= idxS s i l) = inS l s
 | [], _ => rfl
 | x :: r, i => by
  unfold idxS inS
  rw [List.any_cons]
  cases h : (s.toList == x.toList) with
  | true => simp
  | false =>
   rw [if_neg (by simp), idxS_in s r (i + 1)]
   simp [inS]
def IntsAt (w : World) (a : Option Addr) (l : List Nat) : Prop := ∀ k x, l[k]? = some x -> ∃ g, a = some ⟨g, 0, none⟩ /\ w.cell? ⟨g, k, none⟩ = some (.int .i64 (x : Nat))
theorem IntsAt.of {w : World} {base c : Nat} {a : Option Addr} {l : List Nat} (h : w.ownsRow base 3 1 (.slice a l.length c) l.length (intRow l)) : IntsAt w a l := by
 intro k x hx
 have hk := (List.getElem?_eq_some_iff.1 hx).1
 obtain ⟨g, c', e, _, _⟩ := h.form (by omega)
 injection e with e1 e2 e3
 subst e1
 refine ⟨g, rfl, ?_⟩
 have hc := h.cells (g := g) rfl k (.int .i64 (x : Nat)) (by unfold intRow; rw [List.getElem?_map, hx]; rfl)
 rw [addr_add', Nat.zero_add] at hc
 exact hc
def StrsAt (w : World) (a : Option Addr) (l : List ByteArray) : Prop := ∀ k s, l[k]? = some s -> ∃ g o, a = some ⟨g, o, none⟩ /\ w.cell? ⟨g, o + k, none⟩ = some (.string s)
theorem StrsAt.fr {w w' : World} {S : Nat -> Prop} {a : Option Addr} {l : List ByteArray} (h : StrsAt w a l) (hf : Fr S w w') (hS : ∀ g o, a = some ⟨g, o, none⟩ -> ¬ S g) : StrsAt w' a l := by
 intro k s hs
 obtain ⟨g, o, e1, e2⟩ := h k s hs
 exact ⟨g, o, e1, (hf.cell (p := ⟨g, o + k, none⟩) (World.block_lt_of_cell? w _ e2) (hS g o e1)).trans e2⟩
set_option maxRecDepth 30000 in
set_option maxHeartbeats 1000000 in
theorem IndexI_any (w : World) (a : Option Addr) (c : Nat) (l : List Nat) (n : Int) (h : IntsAt w a l) (hl : l.length <= 4000) :
  Calls Tryz.prog 193 #[.slice a l.length c, .int .i64 n] w fun e w' => e = .returned (.int .i64 (idxI n 0 l)) /\ w' = w := by
 have HR := hid h
 obtain ⟨m, hm⟩ : ∃ m, l.length = m := ⟨_, rfl⟩
 have HM := hid hm
 rw [hm] at hl ⊢
 clear h hm
 go_enter Tryz.func193, Tryz.ntmps193
 go_wp2_with fail
 go_loop [5, 8] (fun _ i => ∃ k : Nat, k <= m /\ i = .int .i64 k /\ Hid (idxI n 0 l = idxI n k (l.drop k))) (fun _ i => m - (intOf i).toNat)
 case atStart => exact ⟨0, Nat.zero_le _, rfl, rfl⟩
 case round =>
  obtain ⟨k, hk, rfl, HN⟩ := hrel
  by_cases hlt : k < m
  ·have hki : (k : Int) < (m : Int) := by omega
   obtain ⟨x, hx⟩ : ∃ x, l[k]? = some x := ⟨_, List.getElem?_eq_getElem (by have := HM.o; omega)⟩
   obtain ⟨g, rfl, hc⟩ := HR.o k x hx
   have HD : Hid (l.drop k = x :: l.drop (k + 1)) := by
    obtain ⟨h1, h2⟩ := List.getElem?_eq_some_iff.1 hx
    show _ = _
    rw [List.drop_eq_getElem_cons h1, h2]
   clear hx
   cases hq : (n == (x : Int)) with
   | true =>
    have HQ : Hid (idxI n 0 l = (k : Int)) := by show _ = _; rw [HN.o, HD.o]; simp only [idxI]; rw [if_pos hq]
    go_wp2
    go_ret
    exact ⟨ret_int HQ.o.symm, rfl⟩
   | false =>
    have HQ : Hid (idxI n 0 l = idxI n (k + 1) (l.drop (k + 1))) := by show _ = _; rw [HN.o, HD.o]; simp only [idxI]; rw [if_neg (by simp [hq])]
    go_wp2
    exact ⟨⟨k + 1, by omega, by go_num, HQ⟩, by simp [intOf]; omega⟩
  ·have hki : ¬ (k : Int) < (m : Int) := by omega
   have HQ : Hid (idxI n 0 l = -1) := by show _ = _; rw [HN.o, List.drop_of_length_le (by have := HM.o; omega)]; rfl
   go_wp2
   go_ret
   exact ⟨ret_int HQ.o.symm, rfl⟩
set_option maxRecDepth 30000 in
set_option maxHeartbeats 400000 in
theorem ContainsI_any (w : World) (a : Option Addr) (c : Nat) (l : List Nat) (n : Int) (h : IntsAt w a l) (hl : l.length <= 4000) :
  Calls Tryz.prog 159 #[.slice a l.length c, .int .i64 n] w fun e w' => e = .returned (.bool (inL l n)) /\ w' = w := by
 have HC := hid (IndexI_any w a c l n h hl)
 have HE := hid (idxI_in n l 0)
 clear h hl
 generalize idxI n 0 l = x at *
 go_enter Tryz.func159, Tryz.ntmps159
 go_wp2_with fail
 refine HC.o.mono ?_
 rintro e w1 ⟨rfl, hw⟩
 replace hw := hw.symm
 subst hw
 go_wp2
 go_ret
 exact ⟨congrArg (fun b => Ending.returned (Value.bool b)) HE.o, rfl⟩
set_option maxRecDepth 30000 in
set_option maxHeartbeats 1000000 in
theorem IndexS_any (w : World) (a : Option Addr) (c : Nat) (l : List ByteArray) (s : ByteArray) (h : StrsAt w a l) (hl : l.length <= maxLen) :
  Calls Tryz.prog 52 #[.slice a l.length c, .string s] w fun e w' => e = .returned (.int .i64 (idxS s 0 l)) /\ w' = w := by
 have HR := hid h
 unfold maxLen at hl
 obtain ⟨m, hm⟩ : ∃ m, l.length = m := ⟨_, rfl⟩
 have HM := hid hm
 rw [hm] at hl ⊢
 have hlI : (m : Int) <= 9223372036854775807 := by omega
 clear h hm hl
 go_enter Tryz.func52, Tryz.ntmps52
 go_wp2_with fail
 go_loop [5, 8] (fun _ i => ∃ k : Nat, k <= m /\ i = .int .i64 k /\ Hid (idxS s 0 l = idxS s k (l.drop k))) (fun _ i => m - (intOf i).toNat)
 case atStart => exact ⟨0, Nat.zero_le _, rfl, rfl⟩
 case round =>
  obtain ⟨k, hk, rfl, HN⟩ := hrel
  by_cases hlt : k < m
  ·have hki : (k : Int) < (m : Int) := by omega
   obtain ⟨x, hx⟩ : ∃ x, l[k]? = some x := ⟨_, List.getElem?_eq_getElem (by have := HM.o; omega)⟩
   obtain ⟨g, o, rfl, hc⟩ := HR.o k x hx
   have HD : Hid (l.drop k = x :: l.drop (k + 1)) := by
    obtain ⟨h1, h2⟩ := List.getElem?_eq_some_iff.1 hx
    show _ = _
    rw [List.drop_eq_getElem_cons h1, h2]
   clear hx
   cases hq : (s.toList == x.toList) with
   | true =>
    have HQ : Hid (idxS s 0 l = (k : Int)) := by show _ = _; rw [HN.o, HD.o]; simp only [idxS]; rw [if_pos hq]
    go_wp2
    go_ret
    exact ⟨ret_int HQ.o.symm, rfl⟩
   | false =>
    have HQ : Hid (idxS s 0 l = idxS s (k + 1) (l.drop (k + 1))) := by show _ = _; rw [HN.o, HD.o]; simp only [idxS]; rw [if_neg (by simp [hq])]
    go_wp2
    exact ⟨⟨k + 1, by omega, by go_num, HQ⟩, by simp [intOf]; omega⟩
  ·have hki : ¬ (k : Int) < (m : Int) := by omega
   have HQ : Hid (idxS s 0 l = -1) := by show _ = _; rw [HN.o, List.drop_of_length_le (by have := HM.o; omega)]; rfl
   go_wp2
   go_ret
   exact ⟨ret_int HQ.o.symm, rfl⟩
set_option maxRecDepth 30000 in
set_option maxHeartbeats 400000 in
theorem ContainsS_any (w : World) (a : Option Addr) (c : Nat) (l : List ByteArray) (s : ByteArray) (h : StrsAt w a l) (hl : l.length <= maxLen) :
  Calls Tryz.prog 28 #[.slice a l.length c, .string s] w fun e w' => e = .returned (.bool (inS l s)) /\ w' = w := by
 have HC := hid (IndexS_any w a c l s h hl)
 have HE := hid (idxS_in s l 0)
 clear h hl
 generalize idxS s 0 l = x at *
 go_enter Tryz.func28, Tryz.ntmps28
 go_wp2_with fail
 refine HC.o.mono ?_
 rintro e w1 ⟨rfl, hw⟩
 replace hw := hw.symm
 subst hw
 go_wp2
 go_ret
 exact ⟨congrArg (fun b => Ending.returned (Value.bool b)) HE.o, rfl⟩
set_option maxRecDepth 30000 in
set_option maxHeartbeats 400000 in
theorem tupTo_any (w : World) (n m : Int) :
  Calls Tryz.prog 89 #[.int .i64 n, .int .i64 m] w fun e w' => e = .returned (.bool (decide (0 <= n) && decide (n <= m))) /\ w' = w := by
 by_cases h0 : 0 <= n
 ·by_cases h1 : n <= m
  all_goals
   go_enter Tryz.func89, Tryz.ntmps89
   go_wp2
   go_ret
   exact ⟨congrArg (fun b => Ending.returned (Value.bool b)) (by simp [h0, h1]), rfl⟩
 ·go_enter Tryz.func89, Tryz.ntmps89
  go_wp2
  go_ret
  exact ⟨congrArg (fun b => Ending.returned (Value.bool b)) (by simp; omega), rfl⟩
def allFrom (s : ByteArray) (k : Nat) : Bool := (s.data.toList.drop k).all (fun c => decide (48 <= c.toNat) && decide (c.toNat <= 57))
theorem allFrom_step (s : ByteArray) (k : Nat) (h : k < s.size) : allFrom s k = (isDigitB (bAt s k) && allFrom s (k + 1)) := by
 unfold allFrom
 have hk : k < s.data.toList.length := by simpa using h
 rw [List.drop_eq_getElem_cons hk, List.all_cons]
 congr 1
 unfold isDigitB bAt
 rw [List.getD_eq_getElem?_getD, List.getElem?_eq_getElem hk]
 simp only [Option.getD_some]
 rw [<- Bool.decide_and]
 congr 1
 apply propext
 omega
theorem allFrom_end (s : ByteArray) (k : Nat) (h : s.size <= k) : allFrom s k = true := by
 unfold allFrom
 rw [List.drop_of_length_le (by simpa using h)]
 rfl
set_option maxRecDepth 30000 in
set_option maxHeartbeats 1000000 in
theorem AllDigits_any (s : ByteArray) (w : World) (hs : s.size <= 3000) :
  Calls Tryz.prog 108 #[.string s] w fun e w' => e = .returned (.bool (allFrom s 0)) /\ F0 w w' := by
 have hcv := fun w => Lib.run_convert_string_bytes (P := Tryz.prog) w 9 104 5 s Tryz.underlying9 Tryz.underlying104 Tryz.underlying5
 go_enter Tryz.func108, Tryz.ntmps108
 go_wp2_with fail
 have HF : Hid (F0 w (Lib.bytesWorld w 5 s)) := bytesWorld_fr _ _ _
 have hcell : ∀ j, j < s.size -> (Lib.bytesWorld w 5 s).cell? ⟨w.heap.size, j, none⟩ = some (.int .u8 (bAt s j)) := fun j hj => by
  have := Lib.bytesWorld_cell w 5 s j hj
  simpa [bAt] using this
 have HC := hid hcell
 clear hcell hcv
 generalize Lib.bytesWorld w 5 s = W at *
 generalize grownCap _ _ _ _ = cap at *
 go_loop [4, 8] (fun _ i => ∃ k : Nat, k <= s.size /\ i = .int .i64 k /\ Hid (allFrom s 0 = allFrom s k)) (fun _ i => s.size - (intOf i).toNat)
 case atStart => exact ⟨0, Nat.zero_le _, rfl, rfl⟩
 case round =>
  obtain ⟨k, hk, rfl, HN⟩ := hrel
  by_cases hlt : k < s.size
  ·have hc := HC.o k hlt
   have hki : (k : Int) < (s.size : Int) := by omega
   have HS := hid (allFrom_step s k hlt)
   have HD : Hid (∀ W, Calls Tryz.prog 110 #[.int .u8 (bAt s k)] W fun e w' => e = .returned (.bool (isDigitB (bAt s k))) /\ w' = W) := fun W => isDigit_any _ W
   generalize bAt s k = b at *
   cases hb : isDigitB b with
   | true =>
    rw [hb] at HD HS
    go_wp2_with fail
    refine (HD.o _).mono ?_
    rintro e w2 ⟨rfl, hw⟩
    replace hw := hw.symm
    subst hw
    go_wp2
    exact ⟨⟨k + 1, by omega, by go_num, by show _ = _; rw [HN.o, HS.o, Bool.true_and]⟩, by simp [intOf]; omega⟩
   | false =>
    rw [hb] at HD HS
    go_wp2_with fail
    refine (HD.o _).mono ?_
    rintro e w2 ⟨rfl, hw⟩
    replace hw := hw.symm
    subst hw
    go_wp2
    go_ret
    exact ⟨congrArg (fun b => Ending.returned (Value.bool b)) (by rw [HN.o, HS.o, Bool.false_and]), HF.o⟩
  ·have hki : ¬ (k : Int) < (s.size : Int) := by omega
   go_wp2
   go_ret
   exact ⟨congrArg (fun b => Ending.returned (Value.bool b)) (by rw [HN.o, allFrom_end s k (by omega)]), HF.o⟩
set_option maxRecDepth 30000 in
set_option maxHeartbeats 400000 in
theorem isPan_any (s : ByteArray) (w : World) (hs : s.size <= maxLen) :
  Calls Tryz.prog 88 #[.string s] w fun e w' => e = .returned (.bool (panOk s)) /\ F0 w w' := by
 have hp : panOk s = (decide (6 <= s.size) && (decide (s.size <= 19) && allFrom s 0)) := rfl
 unfold maxLen at hs
 have hsI : (s.size : Int) <= 9223372036854775807 := by omega
 by_cases h6 : 6 <= s.size
 ·have h6' : (6 : Int) <= (s.size : Int) := by omega
  by_cases h19 : s.size <= 19
  ·have h19' : (s.size : Int) <= 19 := by omega
   have HA : Hid (∀ W, Calls Tryz.prog 108 #[.string s] W fun e w' => e = .returned (.bool (allFrom s 0)) /\ F0 W w') := fun W => AllDigits_any s W (by omega)
   have HP : Hid (panOk s = allFrom s 0) := by show _ = _; rw [hp]; simp [h6, h19]
   clear hs hp h6 h19
   go_enter Tryz.func88, Tryz.ntmps88
   go_wp2_with fail
   refine (HA.o _).mono ?_
   rintro e w2 ⟨rfl, hf⟩
   have HF := hid hf
   clear hf
   go_wp2
   go_ret
   exact ⟨congrArg (fun b => Ending.returned (Value.bool b)) HP.o.symm, HF.o⟩
  ·have h19' : ¬ (s.size : Int) <= 19 := by omega
   have HP : Hid (panOk s = false) := by show _ = _; rw [hp]; simp [h19]
   clear hs hp h6 h19
   go_enter Tryz.func88, Tryz.ntmps88
   go_wp2
   go_ret
   exact ⟨congrArg (fun b => Ending.returned (Value.bool b)) HP.o.symm, Fr.refl _ _⟩
 ·have h6' : ¬ (6 : Int) <= (s.size : Int) := by omega
  have HP : Hid (panOk s = false) := by show _ = _; rw [hp]; simp [h6]
  clear hs hp h6
  go_enter Tryz.func88, Tryz.ntmps88
  go_wp2
  go_ret
  exact ⟨congrArg (fun b => Ending.returned (Value.bool b)) HP.o.symm, Fr.refl _ _⟩
end Go.Proofs.YtccikgogjfbpeabGreatDoor

namespace Go.Proofs.YtccikgogjfbpeabGreatDoor
open Go.RowKit
def rnO (TT : Nat) (p : PayM) (dn : Nat -> Bool) (k : Nat) (done : Bool) (o : Nat × ByteArray × ByteArray) : Obj :=
 .cells #[.pointer (some ⟨TT, 0, none⟩), .string p.pan, .int .i64 p.mcc, .int .i64 p.am, .int .i64 p.cur, .bool (dn 0), .bool (dn 1), .bool (dn 2), .bool (dn 3), .bool (dn 4), .bool (dn 5), .int .i64 (k : Nat), .bool done, .int .i64 (o.1 : Nat), .string o.2.1, .string o.2.2] 99
theorem rn_next {w : World} {Q TT k : Nat} {p : PayM} {dn : Nat -> Bool} {d : Bool} {o : Nat × ByteArray × ByteArray} (h : w.heap[Q]? = some (rnO TT p dn k d o)) (k' : Nat) : (w.setCell ⟨Q, 11, none⟩ (.int .i64 (k' : Nat))).heap[Q]? = some (rnO TT p dn k' d o) := by
 have e := heap_setCell_same w Q 11 _ _ (.int .i64 (k' : Nat)) h
 simpa [rnO] using e
theorem rn_end {w : World} {Q TT k : Nat} {p : PayM} {dn : Nat -> Bool} {d : Bool} {o : Nat × ByteArray × ByteArray} (h : w.heap[Q]? = some (rnO TT p dn k d o)) : (w.setCell ⟨Q, 12, none⟩ (.bool true)).heap[Q]? = some (rnO TT p dn k true o) := by
 have e := heap_setCell_same w Q 12 _ _ (.bool true) h
 simpa [rnO] using e
theorem rn_out {w : World} {Q TT k : Nat} {p : PayM} {dn : Nat -> Bool} {d : Bool} {o : Nat × ByteArray × ByteArray} (h : w.heap[Q]? = some (rnO TT p dn k d o)) (o' : Nat × ByteArray × ByteArray) : (((w.setCell ⟨Q, 13, none⟩ (.int .i64 (o'.1 : Nat))).setCell ⟨Q, 14, none⟩ (.string o'.2.1)).setCell ⟨Q, 15, none⟩ (.string o'.2.2)).heap[Q]? = some (rnO TT p dn k d o') := by
 have e := heap_setCell_same _ Q 15 _ _ (.string o'.2.2) (heap_setCell_same _ Q 14 _ _ (.string o'.2.1) (heap_setCell_same w Q 13 _ _ (.int .i64 (o'.1 : Nat)) h))
 simpa [rnO] using e
def stV (so : Nat) (a : Option Addr) (n c ru sk : Nat) : Value := .agg #[.int .u8 (so : Nat), .slice a n c, .int .i64 (ru : Nat), .int .i64 (sk : Nat)]
set_option maxRecDepth 30000 in
set_option maxHeartbeats 1000000 in
theorem goOn_any (w : World) (Q TT k : Nat) (p : PayM) (dn : Nat -> Bool) (o : Nat × ByteArray × ByteArray) (so : Nat) (a : Option Addr) (n c ru sk : Nat) (b : Bool) (h : w.heap[Q]? = some (rnO TT p dn k false o)) (hk : k <= 100000) (hs : sk <= 100000) :
  Calls Tryz.prog 158 #[.pointer (some ⟨Q, 0, none⟩), stV so a n c ru sk, .bool b] w fun e w' => e = .returned (.tuple #[]) /\ w'.heap[Q]? = some (rnO TT p dn (if b then k + 1 else k + sk) false o) /\ Fr (fun j => j = Q) w w' := by
 have HF : Hid (F0 w (w.alloc (.cells #[.int .u8 (so : Nat), .slice a n c, .int .i64 (ru : Nat), .int .i64 (sk : Nat)] 172))) := (Fr.refl _ _).alloc _
 have HX : Hid ((w.alloc (.cells #[.int .u8 (so : Nat), .slice a n c, .int .i64 (ru : Nat), .int .i64 (sk : Nat)] 172)).heap[w.heap.size]? = some (.cells #[.int .u8 (so : Nat), .slice a n c, .int .i64 (ru : Nat), .int .i64 (sk : Nat)] 172)) := heap_alloc_new w _
 have hQ := (Array.getElem?_eq_some_iff.1 h).1
 have H1 := HF.o.whole h (by simp)
 have hne : Q ≠ w.heap.size := by omega
 unfold stV
 clear h
 cases b with
 | true =>
  go_enter Tryz.func158, Tryz.ntmps158
  go_upto_region 2 with fail
  generalize w.alloc (.cells #[.int .u8 (so : Nat), .slice a n c, .int .i64 (ru : Nat), .int .i64 (sk : Nat)] 172) = W at *
  have HH := hid H1
  have c11 : W.cell? ⟨Q, 11, none⟩ = some (.int .i64 (k : Nat)) := block_cell H1 11 _ rfl
  have f11 := block_frozen H1 11
  have x3 := block_cell HX.o 3 _ rfl
  obtain ⟨X, hX⟩ : ∃ X, w.heap.size = X := ⟨_, rfl⟩
  rw [hX] at x3 hne
  rw [hX]
  clear H1 hX
  go_wp2
  go_end0
  refine ⟨rfl, ?_, (HF.o.mono (by simp)).trans ((Fr.refl (fun j => j = Q) W).setCell (p := ⟨Q, 11, none⟩) (Or.inl rfl) _)⟩
  have e := rn_next HH.o (k + 1)
  simpa using e
 | false =>
  go_enter Tryz.func158, Tryz.ntmps158
  go_upto_region 3 with fail
  generalize w.alloc (.cells #[.int .u8 (so : Nat), .slice a n c, .int .i64 (ru : Nat), .int .i64 (sk : Nat)] 172) = W at *
  have HH := hid H1
  have c11 : W.cell? ⟨Q, 11, none⟩ = some (.int .i64 (k : Nat)) := block_cell H1 11 _ rfl
  have f11 := block_frozen H1 11
  have x3 := block_cell HX.o 3 _ rfl
  obtain ⟨X, hX⟩ : ∃ X, w.heap.size = X := ⟨_, rfl⟩
  rw [hX] at x3 hne
  rw [hX]
  clear H1 hX
  go_region
  go_wp2
  go_end0
  refine ⟨rfl, ?_, ((HF.o.mono (by simp)).trans ((Fr.refl (fun j => j = Q) W).setCell (p := ⟨Q, 11, none⟩) (Or.inl rfl) _)).drew⟩
  have e := rn_next HH.o (k + sk)
  exact (by simpa using e : (W.setCell ⟨Q, 11, none⟩ (.int .i64 ((k : Int) + (sk : Int)))).heap[Q]? = some (rnO TT p dn (k + sk) false o))
theorem IntsAt.fr {w w' : World} {S : Nat -> Prop} {a : Option Addr} {l : List Nat} (h : IntsAt w a l) (hf : Fr S w w') (hS : ∀ g, a = some ⟨g, 0, none⟩ -> ¬ S g) : IntsAt w' a l := by
 intro k x hx
 obtain ⟨g, e1, e2⟩ := h k x hx
 exact ⟨g, e1, (hf.cell (p := ⟨g, k, none⟩) (World.block_lt_of_cell? w _ e2) (hS g e1)).trans e2⟩
set_option maxRecDepth 30000 in
set_option maxHeartbeats 1000000 in
theorem askMcc_any (w : World) (Q TT k : Nat) (p : PayM) (dn : Nat -> Bool) (o : Nat × ByteArray × ByteArray) (so : Nat) (a : Option Addr) (l : List Nat) (c ru sk : Nat) (h : w.heap[Q]? = some (rnO TT p dn k false o)) (hk : k <= 100000) (hs : sk <= 100000) (hi : IntsAt w a l) (hl : l.length <= 4000) :
  Calls Tryz.prog 120 #[.pointer (some ⟨Q, 0, none⟩), stV so a l.length c ru sk] w fun e w' => e = .returned (.tuple #[]) /\ w'.heap[Q]? = some (rnO TT p dn (if inL l p.mcc then k + 1 else k + sk) false o) /\ Fr (fun j => j = Q) w w' := by
 have HF : Hid (F0 w (w.alloc (.cells #[.int .u8 (so : Nat), .slice a l.length c, .int .i64 (ru : Nat), .int .i64 (sk : Nat)] 172))) := (Fr.refl _ _).alloc _
 have HX : Hid ((w.alloc (.cells #[.int .u8 (so : Nat), .slice a l.length c, .int .i64 (ru : Nat), .int .i64 (sk : Nat)] 172)).heap[w.heap.size]? = some (.cells #[.int .u8 (so : Nat), .slice a l.length c, .int .i64 (ru : Nat), .int .i64 (sk : Nat)] 172)) := heap_alloc_new w _
 have hQ := (Array.getElem?_eq_some_iff.1 h).1
 have H1 := HF.o.whole h (by simp)
 have hne : Q ≠ w.heap.size := by omega
 have HI := hid (hi.fr HF.o (by simp))
 unfold stV
 obtain ⟨k', hk'⟩ : ∃ k', (if inL l p.mcc = true then k + 1 else k + sk) = k' := ⟨_, rfl⟩
 have HK' := hid hk'
 rw [hk']
 clear h hi hk'
 go_enter Tryz.func120, Tryz.ntmps120
 go_upto_region 1 with fail
 generalize w.alloc (.cells #[.int .u8 (so : Nat), .slice a l.length c, .int .i64 (ru : Nat), .int .i64 (sk : Nat)] 172) = W at *
 obtain ⟨X, hX⟩ : ∃ X, w.heap.size = X := ⟨_, rfl⟩
 rw [hX] at HX hne
 rw [hX]
 have HCE : Hid (∀ W', Fr (fun j => j = Q) W W' -> (∃ k', W'.heap[Q]? = some (rnO TT p dn k' false o)) -> W'.cell? ⟨X, 0, none⟩ = some (.int .u8 (so : Nat)) /\ W'.cell? ⟨X, 1, none⟩ = some (.slice a l.length c) /\ W'.cell? ⟨X, 2, none⟩ = some (.int .i64 (ru : Nat)) /\ W'.cell? ⟨X, 3, none⟩ = some (.int .i64 (sk : Nat)) /\ W'.cell? ⟨Q, 2, none⟩ = some (.int .i64 p.mcc)) := by
  intro W' hf ⟨k', hq⟩
  have hx := hf.whole HX.o (fun e => hne e.symm)
  exact ⟨block_cell hx 0 _ rfl, block_cell hx 1 _ rfl, block_cell hx 2 _ rfl, block_cell hx 3 _ rfl, block_cell hq 2 _ rfl⟩
 have HC : Hid (∀ W', Hid (F0 W W') -> Calls Tryz.prog 159 #[.slice a l.length c, .int .i64 p.mcc] W' fun e w' => e = .returned (.bool (inL l p.mcc)) /\ Hid (F0 W w') /\ w'.cell? ⟨X, 0, none⟩ = some (.int .u8 (so : Nat)) /\ w'.cell? ⟨X, 1, none⟩ = some (.slice a l.length c) /\ w'.cell? ⟨X, 2, none⟩ = some (.int .i64 (ru : Nat)) /\ w'.cell? ⟨X, 3, none⟩ = some (.int .i64 (sk : Nat)) /\ w'.cell? ⟨Q, 2, none⟩ = some (.int .i64 p.mcc)) := by
  intro W' hf
  refine (ContainsI_any W' a c l p.mcc (HI.o.fr hf.o (by simp)) hl).mono ?_
  rintro e w' ⟨he, rfl⟩
  exact ⟨he, hf, HCE.o _ (hf.o.mono (by simp)) ⟨k, hf.o.whole H1 (by simp)⟩⟩
 have HG : Hid (∀ W', Hid (F0 W W') -> Calls Tryz.prog 158 #[.pointer (some ⟨Q, 0, none⟩), .agg #[.int .u8 (so : Nat), .slice a l.length c, .int .i64 (ru : Nat), .int .i64 (sk : Nat)], .bool (inL l p.mcc)] W' fun e w' => e = .returned (.tuple #[]) /\ Hid (w'.heap[Q]? = some (rnO TT p dn k' false o) /\ Fr (fun j => j = Q) W w') /\ w'.cell? ⟨X, 0, none⟩ = some (.int .u8 (so : Nat)) /\ w'.cell? ⟨X, 1, none⟩ = some (.slice a l.length c) /\ w'.cell? ⟨X, 2, none⟩ = some (.int .i64 (ru : Nat)) /\ w'.cell? ⟨X, 3, none⟩ = some (.int .i64 (sk : Nat)) /\ w'.cell? ⟨Q, 2, none⟩ = some (.int .i64 p.mcc)) := by
  intro W' hf
  refine (goOn_any W' Q TT k p dn o so a l.length c ru sk (inL l p.mcc) (hf.o.whole H1 (by simp)) hk hs).mono ?_
  rintro e w' ⟨he, h2, h3⟩
  rw [HK'.o] at h2
  have h4 := (hf.o.mono (T := fun j => j = Q) (by simp)).trans h3
  exact ⟨he, ⟨h2, h4⟩, HCE.o _ h4 ⟨_, h2⟩⟩
 have hS := HCE.o W (Fr.refl _ _) ⟨k, H1⟩
 have HZd : Hid (F0 W W.drew) := (Fr.refl _ _).drew
 clear HK'
 generalize inL l p.mcc = b at *
 clear H1 HI hX HX HCE hl
 go_region_held3 (fun W' => W'.cell? ⟨X, 0, none⟩ = some (.int .u8 (so : Nat)) /\ W'.cell? ⟨X, 1, none⟩ = some (.slice a l.length c) /\ W'.cell? ⟨X, 2, none⟩ = some (.int .i64 (ru : Nat)) /\ W'.cell? ⟨X, 3, none⟩ = some (.int .i64 (sk : Nat)) /\ W'.cell? ⟨Q, 2, none⟩ = some (.int .i64 p.mcc)) (first | assumption | go_keep) (first
  | (go_at_call 159; refine (HC.o _ (by assumption)).mono ?_; rintro e w7 ⟨rfl, HZ7, hS7⟩)
  | (go_at_call 158; refine (HG.o _ (by assumption)).mono ?_; rintro e w7 ⟨rfl, HZE, hS7⟩))
 go_wp2_with fail
 go_end0
 exact ⟨rfl, HZE.o.1, (HF.o.mono (by simp)).trans HZE.o.2⟩
set_option maxRecDepth 30000 in
set_option maxHeartbeats 1000000 in
theorem askCur_any (w : World) (Q TT k : Nat) (p : PayM) (dn : Nat -> Bool) (o : Nat × ByteArray × ByteArray) (so : Nat) (a : Option Addr) (l : List Nat) (c ru sk : Nat) (h : w.heap[Q]? = some (rnO TT p dn k false o)) (hk : k <= 100000) (hs : sk <= 100000) (hi : IntsAt w a l) (hl : l.length <= 4000) :
  Calls Tryz.prog 122 #[.pointer (some ⟨Q, 0, none⟩), stV so a l.length c ru sk] w fun e w' => e = .returned (.tuple #[]) /\ w'.heap[Q]? = some (rnO TT p dn (if inL l p.cur then k + 1 else k + sk) false o) /\ Fr (fun j => j = Q) w w' := by
 have HF : Hid (F0 w (w.alloc (.cells #[.int .u8 (so : Nat), .slice a l.length c, .int .i64 (ru : Nat), .int .i64 (sk : Nat)] 172))) := (Fr.refl _ _).alloc _
 have HX : Hid ((w.alloc (.cells #[.int .u8 (so : Nat), .slice a l.length c, .int .i64 (ru : Nat), .int .i64 (sk : Nat)] 172)).heap[w.heap.size]? = some (.cells #[.int .u8 (so : Nat), .slice a l.length c, .int .i64 (ru : Nat), .int .i64 (sk : Nat)] 172)) := heap_alloc_new w _
 have hQ := (Array.getElem?_eq_some_iff.1 h).1
 have H1 := HF.o.whole h (by simp)
 have hne : Q ≠ w.heap.size := by omega
 have HI := hid (hi.fr HF.o (by simp))
 unfold stV
 obtain ⟨k', hk'⟩ : ∃ k', (if inL l p.cur = true then k + 1 else k + sk) = k' := ⟨_, rfl⟩
 have HK' := hid hk'
 rw [hk']
 clear h hi hk'
 go_enter Tryz.func122, Tryz.ntmps122
 go_upto_region 1 with fail
 generalize w.alloc (.cells #[.int .u8 (so : Nat), .slice a l.length c, .int .i64 (ru : Nat), .int .i64 (sk : Nat)] 172) = W at *
 obtain ⟨X, hX⟩ : ∃ X, w.heap.size = X := ⟨_, rfl⟩
 rw [hX] at HX hne
 rw [hX]
 have HCE : Hid (∀ W', Fr (fun j => j = Q) W W' -> (∃ k', W'.heap[Q]? = some (rnO TT p dn k' false o)) -> W'.cell? ⟨X, 0, none⟩ = some (.int .u8 (so : Nat)) /\ W'.cell? ⟨X, 1, none⟩ = some (.slice a l.length c) /\ W'.cell? ⟨X, 2, none⟩ = some (.int .i64 (ru : Nat)) /\ W'.cell? ⟨X, 3, none⟩ = some (.int .i64 (sk : Nat)) /\ W'.cell? ⟨Q, 4, none⟩ = some (.int .i64 p.cur)) := by
  intro W' hf ⟨k', hq⟩
  have hx := hf.whole HX.o (fun e => hne e.symm)
  exact ⟨block_cell hx 0 _ rfl, block_cell hx 1 _ rfl, block_cell hx 2 _ rfl, block_cell hx 3 _ rfl, block_cell hq 4 _ rfl⟩
 have HC : Hid (∀ W', Hid (F0 W W') -> Calls Tryz.prog 159 #[.slice a l.length c, .int .i64 p.cur] W' fun e w' => e = .returned (.bool (inL l p.cur)) /\ Hid (F0 W w') /\ w'.cell? ⟨X, 0, none⟩ = some (.int .u8 (so : Nat)) /\ w'.cell? ⟨X, 1, none⟩ = some (.slice a l.length c) /\ w'.cell? ⟨X, 2, none⟩ = some (.int .i64 (ru : Nat)) /\ w'.cell? ⟨X, 3, none⟩ = some (.int .i64 (sk : Nat)) /\ w'.cell? ⟨Q, 4, none⟩ = some (.int .i64 p.cur)) := by
  intro W' hf
  refine (ContainsI_any W' a c l p.cur (HI.o.fr hf.o (by simp)) hl).mono ?_
  rintro e w' ⟨he, rfl⟩
  exact ⟨he, hf, HCE.o _ (hf.o.mono (by simp)) ⟨k, hf.o.whole H1 (by simp)⟩⟩
 have HG : Hid (∀ W', Hid (F0 W W') -> Calls Tryz.prog 158 #[.pointer (some ⟨Q, 0, none⟩), .agg #[.int .u8 (so : Nat), .slice a l.length c, .int .i64 (ru : Nat), .int .i64 (sk : Nat)], .bool (inL l p.cur)] W' fun e w' => e = .returned (.tuple #[]) /\ Hid (w'.heap[Q]? = some (rnO TT p dn k' false o) /\ Fr (fun j => j = Q) W w') /\ w'.cell? ⟨X, 0, none⟩ = some (.int .u8 (so : Nat)) /\ w'.cell? ⟨X, 1, none⟩ = some (.slice a l.length c) /\ w'.cell? ⟨X, 2, none⟩ = some (.int .i64 (ru : Nat)) /\ w'.cell? ⟨X, 3, none⟩ = some (.int .i64 (sk : Nat)) /\ w'.cell? ⟨Q, 4, none⟩ = some (.int .i64 p.cur)) := by
  intro W' hf
  refine (goOn_any W' Q TT k p dn o so a l.length c ru sk (inL l p.cur) (hf.o.whole H1 (by simp)) hk hs).mono ?_
  rintro e w' ⟨he, h2, h3⟩
  rw [HK'.o] at h2
  have h4 := (hf.o.mono (T := fun j => j = Q) (by simp)).trans h3
  exact ⟨he, ⟨h2, h4⟩, HCE.o _ h4 ⟨_, h2⟩⟩
 have hS := HCE.o W (Fr.refl _ _) ⟨k, H1⟩
 have HZd : Hid (F0 W W.drew) := (Fr.refl _ _).drew
 clear HK'
 generalize inL l p.cur = b at *
 clear H1 HI hX HX HCE hl
 go_region_held3 (fun W' => W'.cell? ⟨X, 0, none⟩ = some (.int .u8 (so : Nat)) /\ W'.cell? ⟨X, 1, none⟩ = some (.slice a l.length c) /\ W'.cell? ⟨X, 2, none⟩ = some (.int .i64 (ru : Nat)) /\ W'.cell? ⟨X, 3, none⟩ = some (.int .i64 (sk : Nat)) /\ W'.cell? ⟨Q, 4, none⟩ = some (.int .i64 p.cur)) (first | assumption | go_keep) (first
  | (go_at_call 159; refine (HC.o _ (by assumption)).mono ?_; rintro e w7 ⟨rfl, HZ7, hS7⟩)
  | (go_at_call 158; refine (HG.o _ (by assumption)).mono ?_; rintro e w7 ⟨rfl, HZE, hS7⟩))
 go_wp2_with fail
 go_end0
 exact ⟨rfl, HZE.o.1, (HF.o.mono (by simp)).trans HZE.o.2⟩
end Go.Proofs.YtccikgogjfbpeabGreatDoor
