/- The small functions of the scanner: what each answers of one byte. The scanner's run: how many bytes belong. The keywords; a text that begins so. The scanner's take: one token more. The scanner's word and step, scan. The scanner's step, branch by branch. -/
import Derived.Test.YtccikgogjfbpeabGreatDoorProg
import Derived.Test.YtccikgogjfbpeabGreatDoorWQa
import Derived.WalkKit
import Derived.WalkSpells
import Derived.WalkLawsBesides
import Derived.Test.YtccikgogjfbpeabGreatDoorWHa
import Derived.Deep.QuietTactic
import Derived.BigQuiet
import Derived.Deep.RegionHeld3
import Derived.Deep.AppendLies
import Derived.Maps.RangeWalk
import Derived.Deep.RegionWith
namespace Go.Proofs.YtccikgogjfbpeabGreatDoor
open Go.RowKit
set_option maxHeartbeats 400000 in
theorem isSmall_any (c : Int) (w : World) :
  Calls Tryz.prog 64 #[.int .u8 c] w fun e w' => e = .returned (.bool (isSmallB c)) /\ w' = w := by
 by_cases h1 : 97 <= c
 all_goals by_cases h2 : c <= 122
 all_goals
  go_enter Tryz.func64, Tryz.ntmps64
  go_wp2
  go_ret
  exact ⟨by simp [isSmallB, h1, h2], rfl⟩
set_option maxHeartbeats 400000 in
theorem isDigit_any (c : Int) (w : World) :
  Calls Tryz.prog 110 #[.int .u8 c] w fun e w' => e = .returned (.bool (isDigitB c)) /\ w' = w := by
 by_cases h1 : 48 <= c
 all_goals by_cases h2 : c <= 57
 all_goals
  go_enter Tryz.func110, Tryz.ntmps110
  go_wp2
  go_ret
  exact ⟨by simp [isDigitB, h1, h2], rfl⟩
set_option maxHeartbeats 400000 in
theorem inRemark_any (c : Int) (w : World) :
  Calls Tryz.prog 150 #[.int .u8 c] w fun e w' => e = .returned (.bool (inRemarkB c)) /\ w' = w := by
 go_enter Tryz.func150, Tryz.ntmps150
 go_wp2
 go_ret
 exact ⟨by simp [inRemarkB, bne, BEq.beq], rfl⟩
set_option maxHeartbeats 400000 in
theorem inWord_any (c : Int) (w : World) :
  Calls Tryz.prog 66 #[.int .u8 c] w fun e w' => e = .returned (.bool (inWordB c)) /\ w' = w := by
 cases h : isSmallB c
 all_goals
  go_enter Tryz.func66, Tryz.ntmps66
  go_wp2_with (first | (go_at_call 64; refine (isSmall_any _ _).mono ?_; rintro e w' ⟨rfl, rfl⟩) | (go_at_call 110; refine (isDigit_any _ _).mono ?_; rintro e w' ⟨rfl, rfl⟩))
  go_ret
  exact ⟨by simp [inWordB, h], rfl⟩
end Go.Proofs.YtccikgogjfbpeabGreatDoor

namespace Go.Proofs.YtccikgogjfbpeabGreatDoor
open Go.RowKit
theorem index_at {P : Program} {t : TypeId} (h : P.underlying t = some .string) (s : ByteArray) (k : Nat) (i : Int) (hi : i = k) (hk : k < s.size) (w : World) :
  (Instr.index t (.string s) (.int .i64 i)).run P w = .ok (.int .u8 (bAt s k)) w := by
 subst hi
 rw [run_index_string w t s .i64 k h, dif_pos (by omega), bAt_of s k hk]
 simp
def Dr (w w' : World) : Prop := ∃ d, w' = w.drewN d
theorem Dr.refl (w : World) : Dr w w := ⟨0, rfl⟩
theorem Dr.next {w w' : World} (h : Dr w w') (n : Nat) : Dr w (w'.drewN n) := by
 obtain ⟨d, rfl⟩ := h
 exact ⟨d + n, by rw [World.drewN_drewN]⟩
theorem Dr.trans {a b c : World} (h : Dr a b) (k : Dr b c) : Dr a c := by
 obtain ⟨d, rfl⟩ := k
 exact h.next d
theorem Dr.cell {w w' : World} (h : Dr w w') (a : Addr) : w'.cell? a = w.cell? a := by
 obtain ⟨d, rfl⟩ := h
 simp
theorem ret_int {k : IntKind} {a b : Int} (h : a = b) : Ending.returned (.int k a) = .returned (.int k b) := by rw [h]
set_option maxHeartbeats 400000 in
theorem run_inRemark (b : Nat) (s : ByteArray) (at0 : Nat) (w : World) (hs : s.size <= maxLen)
  (hat : at0 <= s.size)
  (h0 : w.cell? ⟨b, 0, none⟩ = some (.string s)) (h1 : w.cell? ⟨b, 1, none⟩ = some (.int .i64 at0)) :
  Calls Tryz.prog 149 #[.pointer (some ⟨b, 0, none⟩), .func (.func 150) #[] #[]] w fun e w' => e = .returned (.int .i64 (runLen inRemarkB (s.data.toList.drop at0))) /\ Dr w w' := by
 unfold maxLen at hs
 go_enter Tryz.func149, Tryz.ntmps149
 go_wp2
 go_loopw [5] (fun n w' => ∃ k : Nat, at0 + k <= s.size /\ n = .int .i64 k /\ Hid (runLen inRemarkB (s.data.toList.drop at0) = k + runLen inRemarkB (s.data.toList.drop (at0 + k))) /\ Dr w w') (fun n _ => s.size - (intOf n).toNat)
 case atStart => exact ⟨0, by omega, rfl, (by show _ = _; simp), Dr.refl _⟩
 case round =>
  obtain ⟨k, hk, rfl, HR, HD⟩ := hrel
  rw [<- HD.cell] at h0 h1
  have hwr : IntKind.i64.wrap ((at0 : Int) + (k : Int)) = (at0 : Int) + (k : Int) := IntWalk.i64_in _ (by omega)
  by_cases hlt : at0 + k < s.size
  ·have hst := runLen_step inRemarkB s (at0 + k) hlt
   have HS := hid hst
   clear hst
   have hi : (at0 : Int) + (k : Int) < (s.size : Int) := by omega
   have hix := fun w => index_at (P := Tryz.prog) Tryz.underlying9 s (at0 + k) ((at0 : Int) + (k : Int)) (by omega) hlt w
   cases hp : inRemarkB (bAt s (at0 + k))
   all_goals
    go_wp2_with fail
    go_quiet ((go_at_call 150; exact Calls.quiet_of_same (inRemark_any _ _)))
   ·go_wp2
    go_ret
    exact ⟨ret_int (by rw [HR.o, HS.o, hp]; simp), HD.next _⟩
   ·go_wp2
    go_roundw
    case rel =>
     refine ⟨k + 1, by omega, by go_num, ?_, HD.next _⟩
     have h2 := HS.o
     rw [hp, if_pos rfl] at h2
     have h3 : runLen inRemarkB (s.data.toList.drop at0) = (k + 1) + runLen inRemarkB (s.data.toList.drop (at0 + (k + 1))) := by
      rw [HR.o, h2, Nat.add_assoc at0 k 1]; omega
     exact h3
    case measure => simp [intOf]; omega
  ·have hd : decide ((at0 : Int) + k < s.size) = false := by simp; omega
   go_wp2_with fail
   go_quiet (fail)
   go_wp2
   go_ret
   exact ⟨ret_int (by rw [HR.o, runLen_end _ _ _ (by omega)]; simp), HD.next _⟩
set_option maxHeartbeats 400000 in
theorem run_inWord (b : Nat) (s : ByteArray) (at0 : Nat) (w : World) (hs : s.size <= maxLen)
  (hat : at0 <= s.size)
  (h0 : w.cell? ⟨b, 0, none⟩ = some (.string s)) (h1 : w.cell? ⟨b, 1, none⟩ = some (.int .i64 at0)) :
  Calls Tryz.prog 149 #[.pointer (some ⟨b, 0, none⟩), .func (.func 66) #[] #[]] w fun e w' => e = .returned (.int .i64 (runLen inWordB (s.data.toList.drop at0))) /\ Dr w w' := by
 unfold maxLen at hs
 go_enter Tryz.func149, Tryz.ntmps149
 go_wp2
 go_loopw [5] (fun n w' => ∃ k : Nat, at0 + k <= s.size /\ n = .int .i64 k /\ Hid (runLen inWordB (s.data.toList.drop at0) = k + runLen inWordB (s.data.toList.drop (at0 + k))) /\ Dr w w') (fun n _ => s.size - (intOf n).toNat)
 case atStart => exact ⟨0, by omega, rfl, (by show _ = _; simp), Dr.refl _⟩
 case round =>
  obtain ⟨k, hk, rfl, HR, HD⟩ := hrel
  rw [<- HD.cell] at h0 h1
  have hwr : IntKind.i64.wrap ((at0 : Int) + (k : Int)) = (at0 : Int) + (k : Int) := IntWalk.i64_in _ (by omega)
  by_cases hlt : at0 + k < s.size
  ·have hst := runLen_step inWordB s (at0 + k) hlt
   have HS := hid hst
   clear hst
   have hi : (at0 : Int) + (k : Int) < (s.size : Int) := by omega
   have hix := fun w => index_at (P := Tryz.prog) Tryz.underlying9 s (at0 + k) ((at0 : Int) + (k : Int)) (by omega) hlt w
   cases hp : inWordB (bAt s (at0 + k))
   all_goals
    go_wp2_with fail
    go_quiet ((go_at_call 66; exact Calls.quiet_of_same (inWord_any _ _)))
   ·go_wp2
    go_ret
    exact ⟨ret_int (by rw [HR.o, HS.o, hp]; simp), HD.next _⟩
   ·go_wp2
    go_roundw
    case rel =>
     refine ⟨k + 1, by omega, by go_num, ?_, HD.next _⟩
     have h2 := HS.o
     rw [hp, if_pos rfl] at h2
     have h3 : runLen inWordB (s.data.toList.drop at0) = (k + 1) + runLen inWordB (s.data.toList.drop (at0 + (k + 1))) := by
      rw [HR.o, h2, Nat.add_assoc at0 k 1]; omega
     exact h3
    case measure => simp [intOf]; omega
  ·have hd : decide ((at0 : Int) + k < s.size) = false := by simp; omega
   go_wp2_with fail
   go_quiet (fail)
   go_wp2
   go_ret
   exact ⟨ret_int (by rw [HR.o, runLen_end _ _ _ (by omega)]; simp), HD.next _⟩
set_option maxHeartbeats 400000 in
theorem run_isDigit (b : Nat) (s : ByteArray) (at0 : Nat) (w : World) (hs : s.size <= maxLen)
  (hat : at0 <= s.size)
  (h0 : w.cell? ⟨b, 0, none⟩ = some (.string s)) (h1 : w.cell? ⟨b, 1, none⟩ = some (.int .i64 at0)) :
  Calls Tryz.prog 149 #[.pointer (some ⟨b, 0, none⟩), .func (.func 110) #[] #[]] w fun e w' => e = .returned (.int .i64 (runLen isDigitB (s.data.toList.drop at0))) /\ Dr w w' := by
 unfold maxLen at hs
 go_enter Tryz.func149, Tryz.ntmps149
 go_wp2
 go_loopw [5] (fun n w' => ∃ k : Nat, at0 + k <= s.size /\ n = .int .i64 k /\ Hid (runLen isDigitB (s.data.toList.drop at0) = k + runLen isDigitB (s.data.toList.drop (at0 + k))) /\ Dr w w') (fun n _ => s.size - (intOf n).toNat)
 case atStart => exact ⟨0, by omega, rfl, (by show _ = _; simp), Dr.refl _⟩
 case round =>
  obtain ⟨k, hk, rfl, HR, HD⟩ := hrel
  rw [<- HD.cell] at h0 h1
  have hwr : IntKind.i64.wrap ((at0 : Int) + (k : Int)) = (at0 : Int) + (k : Int) := IntWalk.i64_in _ (by omega)
  by_cases hlt : at0 + k < s.size
  ·have hst := runLen_step isDigitB s (at0 + k) hlt
   have HS := hid hst
   clear hst
   have hi : (at0 : Int) + (k : Int) < (s.size : Int) := by omega
   have hix := fun w => index_at (P := Tryz.prog) Tryz.underlying9 s (at0 + k) ((at0 : Int) + (k : Int)) (by omega) hlt w
   cases hp : isDigitB (bAt s (at0 + k))
   all_goals
    go_wp2_with fail
    go_quiet ((go_at_call 110; exact Calls.quiet_of_same (isDigit_any _ _)))
   ·go_wp2
    go_ret
    exact ⟨ret_int (by rw [HR.o, HS.o, hp]; simp), HD.next _⟩
   ·go_wp2
    go_roundw
    case rel =>
     refine ⟨k + 1, by omega, by go_num, ?_, HD.next _⟩
     have h2 := HS.o
     rw [hp, if_pos rfl] at h2
     have h3 : runLen isDigitB (s.data.toList.drop at0) = (k + 1) + runLen isDigitB (s.data.toList.drop (at0 + (k + 1))) := by
      rw [HR.o, h2, Nat.add_assoc at0 k 1]; omega
     exact h3
    case measure => simp [intOf]; omega
  ·have hd : decide ((at0 : Int) + k < s.size) = false := by simp; omega
   go_wp2_with fail
   go_quiet (fail)
   go_wp2
   go_ret
   exact ⟨ret_int (by rw [HR.o, runLen_end _ _ _ (by omega)]; simp), HD.next _⟩
end Go.Proofs.YtccikgogjfbpeabGreatDoor

namespace Go.Proofs.YtccikgogjfbpeabGreatDoor
open Go.RowKit
set_option maxHeartbeats 400000 in
theorem isKeyword_any (t : ByteArray) (w : World) :
  Calls Tryz.prog 65 #[.string t] w fun e w' => e = .returned (.bool (isKwB t)) /\ w' = w := by
 go_enter Tryz.func65, Tryz.ntmps65
 go_wp2
 all_goals
  go_ret
  refine ⟨?_, rfl⟩
  simp_all [isKwB, kws]
set_option maxHeartbeats 400000 in
theorem sHasPrefix_any (t m : ByteArray) (w : World) (ht : t.size <= 9223372036854775807) (hm : m.size <= 9223372036854775807) :
  Calls Tryz.prog 204 #[.string t, .string m] w fun e w' => e = .returned (.bool (preB t m)) /\ w' = w := by
 have ht' : (t.size : Int) <= 9223372036854775807 := by omega
 have hm' : (m.size : Int) <= 9223372036854775807 := by omega
 clear ht hm
 by_cases hle : m.size <= t.size
 ·go_enter Tryz.func204, Tryz.ntmps204
  go_wp2
  go_ret
  exact ⟨by simp [preB, hle], rfl⟩
 ·go_enter Tryz.func204, Tryz.ntmps204
  go_wp2
  go_ret
  exact ⟨by simp [preB, hle], rfl⟩
set_option maxHeartbeats 400000 in
theorem HasPrefix_any (t m : ByteArray) (w : World) (ht : t.size <= maxLen) (hm : m.size <= maxLen) :
  Calls Tryz.prog 170 #[.string t, .string m] w fun e w' => e = .returned (.bool (preB t m)) /\ w' = w := by
 go_enter Tryz.func170, Tryz.ntmps170
 go_wp2_with (go_at_call 204; refine (sHasPrefix_any _ _ _ ht hm).mono ?_; rintro e w' ⟨rfl, rfl⟩)
 go_ret
 exact ⟨rfl, rfl⟩
set_option maxHeartbeats 400000 in
theorem ahead_any (b : Nat) (s m : ByteArray) (at0 : Nat) (w : World) (hs : s.size <= maxLen) (hm : m.size <= maxLen)
  (hat : at0 <= s.size)
  (h0 : w.cell? ⟨b, 0, none⟩ = some (.string s)) (h1 : w.cell? ⟨b, 1, none⟩ = some (.int .i64 at0)) :
  Calls Tryz.prog 153 #[.pointer (some ⟨b, 0, none⟩), .string m] w fun e w' => e = .returned (.bool (preB (s.extract at0 s.size) m)) /\ Dr w w' := by
 have hi : (at0 : Int) <= (s.size : Int) := by omega
 have hz : (s.extract at0 s.size).size <= maxLen := by simp; omega
 have HZ := hid hz
 have HM := hid hm
 clear hz hm
 unfold maxLen at hs
 go_enter Tryz.func153, Tryz.ntmps153
 go_wp2
 go_quiet ((go_at_call 170; exact Calls.quiet_of_same (HasPrefix_any _ _ _ HZ.o HM.o)))
 go_wp2
 go_ret
 exact ⟨rfl, (Dr.refl w).next _⟩
end Go.Proofs.YtccikgogjfbpeabGreatDoor

namespace Go.Proofs.YtccikgogjfbpeabGreatDoor
open Go.RowKit
def nth : List Oper -> Nat -> Option Oper
 | [], _ => none
 | o :: _, 0 => some o
 | _ :: r, n + 1 => nth r n
theorem nth_eq (l : List Oper) (i : Nat) : l.toArray[i]? = nth l i := by
 rw [List.getElem?_toArray]
 induction l generalizing i with
 | nil => rfl
 | cons o r ih => cases i with
  | zero => rfl
  | succ i => simpa [nth] using ih i
theorem held_take {P : Program} {l : List Oper} {Q : Exit -> Act -> World -> Prop} {md : Region.Mode} {S : World -> Prop} (i : Nat) {oi : Oper} {v : Value} {fuel : Nat} {listed : Array Bool} {a : Act} {w : World} (hi : nth l i = some oi)
  (hs : Region.noSelect l.toArray = true) (hf : Region.free md l.toArray listed i = true) (hr : (Region.ready md l.toArray listed).contains i = true)
  (hQ : ∀ c a w, Q (.panic c) (a.put oi.dst v) w -> Q (.panic c) a w) (hw : Region.wanted oi (yielded l.toArray a.tmps) = true) (hy : ∀ w, S w -> (execOp a.eval oi).run P w = .ok (.value v) w) (hS : S w)
  (h : wpAnyH P md l.toArray Q S fuel (listed.setIfInBounds i true) (a.put oi.dst v) w) : wpAnyH P md l.toArray Q S (fuel + 1) listed a w :=
 wpAnyH_take ((nth_eq l i).trans hi) hs hf hr hQ (Or.inl ⟨hw, hy⟩) hS h
theorem htk {P : Program} {l : List Oper} {Q : Exit -> Act -> World -> Prop} {md : Region.Mode} {S : World -> Prop} (i : Nat) {oi : Oper} {v : Value} {fuel : Nat} {listed : Array Bool} {a : Act} {w : World} (hy : ∀ w, S w -> (execOp a.eval oi).run P w = .ok (.value v) w) (hS : S w)
  (h : wpAnyH P md l.toArray Q S fuel (listed.setIfInBounds i true) (a.put oi.dst v) w) (hi : nth l i = some oi := by rfl) (hs : Region.noSelect l.toArray = true := by kernel_rfl) (hf : Region.free md l.toArray listed i = true := by kernel_rfl) (hr : (Region.ready md l.toArray listed).contains i = true := by kernel_rfl)
  (hQ : ∀ c a w, Q (.panic c) (a.put oi.dst v) w -> Q (.panic c) a w := by exact fun _ _ _ h => h) (hw : Region.wanted oi (yielded l.toArray a.tmps) = true := by rfl) : wpAnyH P md l.toArray Q S (fuel + 1) listed a w :=
 held_take i hi hs hf hr hQ hw hy hS h
theorem held_cons {P : Program} {l : List Oper} {Q : Exit -> Act -> World -> Prop} {md : Region.Mode} {S : World -> Prop} {fuel : Nat} {listed : Array Bool} {a : Act} {w : World} {i : Nat} {o : Oper} {rs : List Nat} (ho : nth l i = some o)
  (h : ∀ K' : Act -> World -> Prop, Shut (∀ a w, S w -> (S w -> wpAnyH P md l.toArray Q S fuel (listed.setIfInBounds i true) a w) -> K' a w) -> if Region.wanted o (yielded l.toArray a.tmps) = true then Oper.wp P o a w K' Q else K' (a.put o.dst undef) w)
  (hs : AllReadyH P md l.toArray Q S fuel listed a w rs) : AllReadyH P md l.toArray Q S fuel listed a w (i :: rs) :=
 AllReadyH.cons ((nth_eq l i).trans ho) h hs
def tkCells (t : Tk) : List Value := [.int .i64 t.sort, .string t.text, .int .i64 t.line]
def tkRow (ts : List Tk) : List Value := ts.flatMap tkCells
theorem tkRow_snoc (ts : List Tk) (t : Tk) : tkRow (ts ++ [t]) = tkRow ts ++ tkCells t := by simp [tkRow]
structure Sc (w : World) (b : Nat) (s : ByteArray) (k line : Nat) (v : Value) (ts : List Tk) : Prop where
 c0 : w.cell? ⟨b, 0, none⟩ = some (.string s)
 c1 : w.cell? ⟨b, 1, none⟩ = some (.int .i64 k)
 c2 : w.cell? ⟨b, 2, none⟩ = some (.int .i64 line)
 c3 : w.cell? ⟨b, 3, none⟩ = some v
 fz : ∀ o, w.frozen? ⟨b, o, none⟩ = false
 own : w.ownsRow (b + 1) 207 3 v ts.length (tkRow ts)
 few : ts.length <= k
 at' : k <= s.size
 ln : line <= k + 1
 sz : s.size <= 3000
theorem Tryz.infoToken : (Tryz.prog.info? 207).map (fun i => (i.zero, i.size, i.bytes)) = some (some (.agg #[.int .i64 0, .string ByteArray.empty, .int .i64 0]), 3, 32) := by kernel_rfl
theorem sc_append {w W2 w1 : World} {b n : Nat} {v : Value} {xs : List Value} (own : w.ownsRow (b + 1) 207 3 v n xs) (hb : b < w.heap.size) (h2 : Below w.heap.size w W2) (hg : W2.grownBy w1 v.ownBlock) :
  (∀ o, w1.cell? ⟨b, o, none⟩ = w.cell? ⟨b, o, none⟩) /\ (∀ o, w1.frozen? ⟨b, o, none⟩ = w.frozen? ⟨b, o, none⟩) /\ Below b w w1 := by
 have hne : ∀ j, j <= b -> some j ≠ v.ownBlock := fun j hj e => by have := own.lt j e.symm; omega
 refine ⟨fun o => ?_, fun o => ?_, ?_⟩
 ·exact (hg.cell_far ⟨b, o, none⟩ (Nat.lt_of_lt_of_le hb h2.size) (hne b (Nat.le_refl _))).trans (h2.cell (p := ⟨b, o, none⟩) hb)
 ·exact (hg.frozen_far ⟨b, o, none⟩ (Nat.lt_of_lt_of_le hb h2.size) (hne b (Nat.le_refl _))).trans (h2.frozen (p := ⟨b, o, none⟩) hb)
 ·exact (h2.mono (by omega)).trans ⟨hg.os, hg.tape, hg.output, hg.size, fun k hk => hg.block k (Nat.lt_of_lt_of_le (by omega) h2.size) (hne k (by omega))⟩
theorem sc_done {w w1 : World} {b : Nat} {s : ByteArray} {k line k' : Nat} {V : Value} {ts : List Tk}
  (c0 : w1.cell? ⟨b, 0, none⟩ = some (.string s)) (c1 : w1.cell? ⟨b, 1, none⟩ = some (.int .i64 k)) (c2 : w1.cell? ⟨b, 2, none⟩ = some (.int .i64 line)) (c3 : ∃ v, w1.cell? ⟨b, 3, none⟩ = some v)
  (fz : ∀ o, w1.frozen? ⟨b, o, none⟩ = false) (own : w1.ownsRow (b + 1) 207 3 V ts.length (tkRow ts)) (hbe : Below b w w1)
  (few : ts.length <= k') (hat : k' <= s.size) (ln : line <= k' + 1) (sz : s.size <= 3000) :
  Sc ((w1.setCell ⟨b, 3, none⟩ V).setCell ⟨b, 1, none⟩ (.int .i64 k')) b s k' line V ts /\ Below b w ((w1.setCell ⟨b, 3, none⟩ V).setCell ⟨b, 1, none⟩ (.int .i64 k')) := by
 obtain ⟨v, c3⟩ := c3
 refine ⟨⟨?_, ?_, ?_, ?_, fun o => by simp [fz o], ?_, few, hat, ln, sz⟩, ?_⟩
 ·rw [World.cell?_setCell_other _ _ _ _ (by simp), World.cell?_setCell_other _ _ _ _ (by simp)]; exact c0
 ·exact World.cell?_setCell_same _ _ _ (u := .int .i64 k) (by rw [World.cell?_setCell_other _ _ _ _ (by simp)]; exact c1)
 ·rw [World.cell?_setCell_other _ _ _ _ (by simp), World.cell?_setCell_other _ _ _ _ (by simp)]; exact c2
 ·rw [World.cell?_setCell_other _ _ _ _ (by simp)]; exact World.cell?_setCell_same _ _ _ c3
 ·exact ownsRow_setCell_below (ownsRow_setCell_below own (by simp) _) (by simp) _
 ·exact (hbe.setCell (by simp) _).setCell (by simp) _
set_option maxHeartbeats 1000000 in
theorem stake_ok (b : Nat) (s : ByteArray) (k line : Nat) (v : Value) (ts : List Tk) (w : World) (what len most : Nat) (hsc : Sc w b s k line v ts)
  (hl : len <= most) (h1 : 1 <= len) (hk : k + len <= s.size) (hmost : most <= 3000) :
  Calls Tryz.prog 152 #[.pointer (some ⟨b, 0, none⟩), .int .i64 what, .int .i64 len, .int .i64 most] w fun e w' => e = .returned (.tuple #[]) /\
   (∃ v', Sc w' b s (k + len) line v' (ts ++ [⟨what, s.extract k (k + len), line⟩])) /\ Below b w w' := by
 obtain ⟨c0, c1, c2, c3, fz, own, few, hat, ln, sz⟩ := hsc
 have hb : b < w.heap.size := World.block_lt_of_cell? w _ c0
 have hwr : IntKind.i64.wrap ((k : Int) + (len : Int)) = (k : Int) + (len : Int) := IntWalk.i64_in _ (by omega)
 have hle : ¬ (most : Int) < (len : Int) := by omega
 have hi1 : (k : Int) <= (k : Int) + (len : Int) := by omega
 have hi2 : (k : Int) + (len : Int) <= (s.size : Int) := by omega
 obtain ⟨i, hi, hz0, hz1, hz2⟩ := info_parts Tryz.infoToken
 go_enter Tryz.func152, Tryz.ntmps152
 go_wp2
 refine wp_region_held_drew (S := fun w' => w'.cell? ⟨b, 0, none⟩ = some (.string s) /\ w'.cell? ⟨b, 1, none⟩ = some (.int .i64 k) /\ w'.cell? ⟨b, 2, none⟩ = some (.int .i64 line)) (by kernel_rfl) ?_ (fun hH => ?_)
 ·simp [*]
 refine held_take 0 (v := ?v0) rfl (by kernel_rfl) (by kernel_rfl) (by kernel_rfl) (fun _ _ _ h => h) rfl ?y0 hH ?r0
 case y0 => intro w hw; obtain ⟨g0, g1, g2⟩ := hw; go_simp; with_reducible rfl
 go_frame
 refine held_take 1 (v := ?v1) rfl (by kernel_rfl) (by kernel_rfl) (by kernel_rfl) (fun _ _ _ h => h) rfl ?y1 hH ?r1
 case y1 => intro w hw; obtain ⟨g0, g1, g2⟩ := hw; go_simp; with_reducible rfl
 go_frame
 refine held_take 2 (v := ?v2) rfl (by kernel_rfl) (by kernel_rfl) (by kernel_rfl) (fun _ _ _ h => h) rfl ?y2 hH ?r2
 case y2 => intro w hw; obtain ⟨g0, g1, g2⟩ := hw; go_simp; with_reducible rfl
 go_frame
 refine held_take 3 (v := ?v3) rfl (by kernel_rfl) (by kernel_rfl) (by kernel_rfl) (fun _ _ _ h => h) rfl ?y3 hH ?r3
 case y3 => intro w hw; obtain ⟨g0, g1, g2⟩ := hw; go_simp; with_reducible rfl
 go_frame
 refine held_take 5 (v := ?v5) rfl (by kernel_rfl) (by kernel_rfl) (by kernel_rfl) (fun _ _ _ h => h) rfl ?y5 hH ?r5
 case y5 => intro w hw; obtain ⟨g0, g1, g2⟩ := hw; go_simp; with_reducible rfl
 go_frame
 refine held_take 6 (v := ?v6) rfl (by kernel_rfl) (by kernel_rfl) (by kernel_rfl) (fun _ _ _ h => h) rfl ?y6 hH ?r6
 case y6 => intro w hw; obtain ⟨g0, g1, g2⟩ := hw; go_simp; with_reducible rfl
 go_frame
 refine held_take 7 (v := ?v7) rfl (by kernel_rfl) (by kernel_rfl) (by kernel_rfl) (fun _ _ _ h => h) rfl ?y7 hH ?r7
 case y7 => intro w hw; obtain ⟨g0, g1, g2⟩ := hw; go_simp; with_reducible rfl
 go_frame
 refine held_take 8 (v := ?v8) rfl (by kernel_rfl) (by kernel_rfl) (by kernel_rfl) (fun _ _ _ h => h) rfl ?y8 hH ?r8
 case y8 => intro w hw; obtain ⟨g0, g1, g2⟩ := hw; go_simp; with_reducible rfl
 go_frame
 refine held_take 9 (v := ?v9) rfl (by kernel_rfl) (by kernel_rfl) (by kernel_rfl) (fun _ _ _ h => h) rfl ?y9 hH ?r9
 case y9 => intro w hw; obtain ⟨g0, g1, g2⟩ := hw; go_simp; with_reducible rfl
 go_frame
 refine held_take 10 (v := ?v10) rfl (by kernel_rfl) (by kernel_rfl) (by kernel_rfl) (fun _ _ _ h => h) rfl ?y10 hH ?r10
 case y10 => intro w hw; obtain ⟨g0, g1, g2⟩ := hw; go_simp; with_reducible rfl
 go_frame
 refine held_take 11 (v := ?v11) rfl (by kernel_rfl) (by kernel_rfl) (by kernel_rfl) (fun _ _ _ h => h) rfl ?y11 hH ?r11
 case y11 => intro w hw; obtain ⟨g0, g1, g2⟩ := hw; go_simp; with_reducible rfl
 go_frame
 refine held_take 12 (v := ?v12) rfl (by kernel_rfl) (by kernel_rfl) (by kernel_rfl) (fun _ _ _ h => h) rfl ?y12 hH ?r12
 case y12 => intro w hw; obtain ⟨g0, g1, g2⟩ := hw; go_simp; with_reducible rfl
 go_frame
 refine held_take 13 (v := ?v13) rfl (by kernel_rfl) (by kernel_rfl) (by kernel_rfl) (fun _ _ _ h => h) rfl ?y13 hH ?r13
 case y13 => intro w hw; obtain ⟨g0, g1, g2⟩ := hw; go_simp; with_reducible rfl
 go_frame
 refine held_take 14 (v := ?v14) rfl (by kernel_rfl) (by kernel_rfl) (by kernel_rfl) (fun _ _ _ h => h) rfl ?y14 hH ?r14
 case y14 => intro w hw; obtain ⟨g0, g1, g2⟩ := hw; go_simp; with_reducible rfl
 go_frame
 refine held_take 15 (v := ?v15) rfl (by kernel_rfl) (by kernel_rfl) (by kernel_rfl) (fun _ _ _ h => h) rfl ?y15 hH ?r15
 case y15 => intro w hw; obtain ⟨g0, g1, g2⟩ := hw; go_simp; with_reducible rfl
 go_frame
 refine held_take 16 (v := ?v16) rfl (by kernel_rfl) (by kernel_rfl) (by kernel_rfl) (fun _ _ _ h => h) rfl ?y16 hH ?r16
 case y16 => intro w hw; obtain ⟨g0, g1, g2⟩ := hw; go_simp; with_reducible rfl
 go_frame
 refine held_take 17 (v := ?v17) rfl (by kernel_rfl) (by kernel_rfl) (by kernel_rfl) (fun _ _ _ h => h) rfl ?y17 hH ?r17
 case y17 => intro w hw; obtain ⟨g0, g1, g2⟩ := hw; go_simp; with_reducible rfl
 go_frame
 refine held_take 18 (v := ?v18) rfl (by kernel_rfl) (by kernel_rfl) (by kernel_rfl) (fun _ _ _ h => h) rfl ?y18 hH ?r18
 case y18 => intro w hw; obtain ⟨g0, g1, g2⟩ := hw; go_simp; with_reducible rfl
 go_frame
 refine held_take 19 (v := ?v19) rfl (by kernel_rfl) (by kernel_rfl) (by kernel_rfl) (fun _ _ _ h => h) rfl ?y19 hH ?r19
 case y19 => intro w hw; obtain ⟨g0, g1, g2⟩ := hw; go_simp; with_reducible rfl
 go_frame
 refine held_take 20 (v := ?v20) rfl (by kernel_rfl) (by kernel_rfl) (by kernel_rfl) (fun _ _ _ h => h) rfl ?y20 hH ?r20
 case y20 => intro w hw; obtain ⟨g0, g1, g2⟩ := hw; go_simp; with_reducible rfl
 go_frame
 refine held_take 21 (v := ?v21) rfl (by kernel_rfl) (by kernel_rfl) (by kernel_rfl) (fun _ _ _ h => h) rfl ?y21 hH ?r21
 case y21 => intro w hw; obtain ⟨g0, g1, g2⟩ := hw; go_simp; with_reducible rfl
 go_frame
 refine held_take 22 (v := ?v22) rfl (by kernel_rfl) (by kernel_rfl) (by kernel_rfl) (fun _ _ _ h => h) rfl ?y22 hH ?r22
 case y22 => intro w hw; obtain ⟨g0, g1, g2⟩ := hw; go_simp; with_reducible rfl
 go_frame
 refine held_take 23 (v := ?v23) rfl (by kernel_rfl) (by kernel_rfl) (by kernel_rfl) (fun _ _ _ h => h) rfl ?y23 hH ?r23
 case y23 => intro w hw; obtain ⟨g0, g1, g2⟩ := hw; go_simp; with_reducible rfl
 go_frame
 refine held_take 24 (v := ?v24) rfl (by kernel_rfl) (by kernel_rfl) (by kernel_rfl) (fun _ _ _ h => h) rfl ?y24 hH ?r24
 case y24 => intro w hw; obtain ⟨g0, g1, g2⟩ := hw; go_simp; with_reducible rfl
 go_frame
 refine held_take 25 (v := ?v25) rfl (by kernel_rfl) (by kernel_rfl) (by kernel_rfl) (fun _ _ _ h => h) rfl ?y25 hH ?r25
 case y25 => intro w hw; obtain ⟨g0, g1, g2⟩ := hw; go_simp; with_reducible rfl
 go_frame
 refine wpAnyH_ready (rs := [4, 26]) (by kernel_rfl) (by simp) ?_
 refine held_cons rfl (fun K hK => ?_) ?_
 ·rw [if_pos (by rfl)]
  go_simp
  refine hK.out _ _ hH (fun _ => ?_)
  clear hK K
  try go_frame
  refine wpAnyH_ready (rs := [26]) (by kernel_rfl) (by simp) ?_
  refine held_cons rfl (fun K hK => ?_) AllReadyH.nil
  rw [if_pos (by rfl)]
  go_simp
  refine hK.out _ _ ?_ (fun hH => ?_)
  ·simp [*, World.cell?_alloc_some]
  clear hK K
  try go_frame
  refine wpAnyH_ready (rs := [27]) (by kernel_rfl) (by simp) ?_
  refine held_cons rfl (fun K hK => ?_) AllReadyH.nil
  refine step_append_lies _ rfl (.tmp 21) (.tmp 43) 151 rfl (b + 1) 207 i _ 3 32 Tryz.underlying151 hi hz0 hz1 hz2 rfl (by decide) v ts.length (tkRow ts) rfl ?h1 ⟨w.heap.size, 0, none⟩ 1 1 [.int .i64 what, .string (s.extract k ((k : Int) + (len : Int)).toNat), .int .i64 line] rfl rfl ?h2 ?h3 (by decide) ?h4 ?h5 ?h6 _ rfl ?h7
  case h1 => exact (own.alloc _).drew
  case h2 => exact World.news_of_block (heap_alloc_new w _)
  case h3 => simp [Value.oneCell']
  case h4 => unfold maxLen; omega
  case h5 => omega
  case h6 => simp; omega
  case h7 =>
   intro g cap w1 hown hgrow _ _
   obtain ⟨hc, hf, hbe⟩ := sc_append own hb ((Below.refl _ _).alloc (Nat.le_refl _) _).drew hgrow
   have d0 := (hc 0).trans c0
   have d1 := (hc 1).trans c1
   have d2 := (hc 2).trans c2
   have d3 := (hc 3).trans c3
   have df : ∀ o, w1.frozen? ⟨b, o, none⟩ = false := fun o => (hf o).trans (fz o)
   have HO := hid hown
   have HB := hid hbe
   clear hc hf hgrow hown hbe c0 c1 c2 c3 fz own
   refine hK.out _ _ ⟨d0, d1, d2⟩ (fun hH => ?_)
   clear hK K
   go_frame
   refine held_take 28 (v := ?v28A) rfl (by kernel_rfl) (by kernel_rfl) (by kernel_rfl) (fun _ _ _ h => h) rfl ?y28A hH ?r28A
   case y28A => intro w hw; obtain ⟨g0, g1, g2⟩ := hw; go_simp; with_reducible rfl
   go_frame
   refine held_take 29 (v := ?v29A) rfl (by kernel_rfl) (by kernel_rfl) (by kernel_rfl) (fun _ _ _ h => h) rfl ?y29A hH ?r29A
   case y29A => intro w hw; obtain ⟨g0, g1, g2⟩ := hw; go_simp; with_reducible rfl
   go_frame
   refine wpAnyH_ready (rs := [30]) (by kernel_rfl) (by simp) ?_
   refine held_cons rfl (fun K hK => ?_) AllReadyH.nil
   rw [if_pos (by rfl)]
   go_simp
   refine hK.out _ _ ?_ (fun hH => ?_)
   ·refine ⟨?_, ?_, ?_⟩
    ·rw [World.cell?_setCell_other _ _ _ _ (by simp)]; exact d0
    ·rw [World.cell?_setCell_other _ _ _ _ (by simp)]; exact d1
    ·rw [World.cell?_setCell_other _ _ _ _ (by simp)]; exact d2
   clear hK K
   try go_frame
   refine wpAnyH_done (by kernel_rfl) ?_ _
   obtain ⟨e0, e1, e2⟩ := hH
   go_wp2
   go_end0
   have et : ((k : Int) + (len : Int)).toNat = k + len := by omega
   have hO := HO.out
   rw [et] at hO
   have hd := sc_done (k' := k + len) (ts := ts ++ [⟨what, s.extract k (k + len), line⟩]) (V := .slice (some ⟨g, 0, none⟩) (ts.length + 1) cap) d0 d1 d2 ⟨_, d3⟩ df (by rw [tkRow_snoc, List.length_append]; exact hO) HB.out (by simp; omega) hk (by omega) sz
   rw [Int.natCast_add] at hd
   exact ⟨rfl, ⟨_, hd.1⟩, hd.2⟩
 ·refine held_cons rfl (fun K hK => ?_) AllReadyH.nil
  rw [if_pos (by rfl)]
  go_simp
  refine hK.out _ _ ?_ (fun hH => ?_)
  ·simp [*, World.cell?_alloc_some]
  clear hK K
  try go_frame
  refine wpAnyH_ready (rs := [4]) (by kernel_rfl) (by simp) ?_
  refine held_cons rfl (fun K hK => ?_) AllReadyH.nil
  rw [if_pos (by rfl)]
  have c3' : (w.alloc (.cells #[.int .i64 what, .string (s.extract k ((k : Int) + (len : Int)).toNat), .int .i64 line] 207)).cell? ⟨b, 3, none⟩ = some v := by rw [World.cell?_alloc_some _ _ _ (by simp [c3])]; exact c3
  go_simp
  refine hK.out _ _ hH (fun _ => ?_)
  clear hK K c3'
  try go_frame
  refine wpAnyH_ready (rs := [27]) (by kernel_rfl) (by simp) ?_
  refine held_cons rfl (fun K hK => ?_) AllReadyH.nil
  refine step_append_lies _ rfl (.tmp 21) (.tmp 43) 151 rfl (b + 1) 207 i _ 3 32 Tryz.underlying151 hi hz0 hz1 hz2 rfl (by decide) v ts.length (tkRow ts) rfl ?h1 ⟨w.heap.size, 0, none⟩ 1 1 [.int .i64 what, .string (s.extract k ((k : Int) + (len : Int)).toNat), .int .i64 line] rfl rfl ?h2 ?h3 (by decide) ?h4 ?h5 ?h6 _ rfl ?h7
  case h1 => exact (own.alloc _).drew
  case h2 => exact World.news_of_block (heap_alloc_new w _)
  case h3 => simp [Value.oneCell']
  case h4 => unfold maxLen; omega
  case h5 => omega
  case h6 => simp; omega
  case h7 =>
   intro g cap w1 hown hgrow _ _
   obtain ⟨hc, hf, hbe⟩ := sc_append own hb ((Below.refl _ _).alloc (Nat.le_refl _) _).drew hgrow
   have d0 := (hc 0).trans c0
   have d1 := (hc 1).trans c1
   have d2 := (hc 2).trans c2
   have d3 := (hc 3).trans c3
   have df : ∀ o, w1.frozen? ⟨b, o, none⟩ = false := fun o => (hf o).trans (fz o)
   have HO := hid hown
   have HB := hid hbe
   clear hc hf hgrow hown hbe c0 c1 c2 c3 fz own
   refine hK.out _ _ ⟨d0, d1, d2⟩ (fun hH => ?_)
   clear hK K
   go_frame
   refine held_take 28 (v := ?v28B) rfl (by kernel_rfl) (by kernel_rfl) (by kernel_rfl) (fun _ _ _ h => h) rfl ?y28B hH ?r28B
   case y28B => intro w hw; obtain ⟨g0, g1, g2⟩ := hw; go_simp; with_reducible rfl
   go_frame
   refine held_take 29 (v := ?v29B) rfl (by kernel_rfl) (by kernel_rfl) (by kernel_rfl) (fun _ _ _ h => h) rfl ?y29B hH ?r29B
   case y29B => intro w hw; obtain ⟨g0, g1, g2⟩ := hw; go_simp; with_reducible rfl
   go_frame
   refine wpAnyH_ready (rs := [30]) (by kernel_rfl) (by simp) ?_
   refine held_cons rfl (fun K hK => ?_) AllReadyH.nil
   rw [if_pos (by rfl)]
   go_simp
   refine hK.out _ _ ?_ (fun hH => ?_)
   ·refine ⟨?_, ?_, ?_⟩
    ·rw [World.cell?_setCell_other _ _ _ _ (by simp)]; exact d0
    ·rw [World.cell?_setCell_other _ _ _ _ (by simp)]; exact d1
    ·rw [World.cell?_setCell_other _ _ _ _ (by simp)]; exact d2
   clear hK K
   try go_frame
   refine wpAnyH_done (by kernel_rfl) ?_ _
   obtain ⟨e0, e1, e2⟩ := hH
   go_wp2
   go_end0
   have et : ((k : Int) + (len : Int)).toNat = k + len := by omega
   have hO := HO.out
   rw [et] at hO
   have hd := sc_done (k' := k + len) (ts := ts ++ [⟨what, s.extract k (k + len), line⟩]) (V := .slice (some ⟨g, 0, none⟩) (ts.length + 1) cap) d0 d1 d2 ⟨_, d3⟩ df (by rw [tkRow_snoc, List.length_append]; exact hO) HB.out (by simp; omega) hk (by omega) sz
   rw [Int.natCast_add] at hd
   exact ⟨rfl, ⟨_, hd.1⟩, hd.2⟩
end Go.Proofs.YtccikgogjfbpeabGreatDoor

namespace Go.Proofs.YtccikgogjfbpeabGreatDoor
open Go.RowKit
def faultE (kind line : Nat) : Ending := .panicked [{ v := .iface 80 (.agg #[.int .i64 kind, .int .i64 line]), recovered := false }]
set_option maxHeartbeats 400000 in
theorem stake_bad (b : Nat) (s : ByteArray) (k line : Nat) (v : Value) (ts : List Tk) (w : World) (what len most : Nat) (hsc : Sc w b s k line v ts)
  (hl : most < len) :
  Calls Tryz.prog 152 #[.pointer (some ⟨b, 0, none⟩), .int .i64 what, .int .i64 len, .int .i64 most] w fun e w' => e = faultE 2 line /\ w' = w := by
 obtain ⟨c0, c1, c2, c3, fz, own, few, hat, ln, sz⟩ := hsc
 have hle : (most : Int) < (len : Int) := by omega
 clear own
 go_enter Tryz.func152, Tryz.ntmps152
 go_wp2
 exact ⟨rfl, rfl, rfl⟩
theorem stake_ok' (b : Nat) (s : ByteArray) (k line : Nat) (v : Value) (ts : List Tk) (w : World) (what len most : Nat) (i1 i2 i3 : Int) (hsc : Sc w b s k line v ts)
  (hl : len <= most) (h1 : 1 <= len) (hk : k + len <= s.size) (hmost : most <= 3000) (e1 : i1 = what) (e2 : i2 = len) (e3 : i3 = most) :
  Calls Tryz.prog 152 #[.pointer (some ⟨b, 0, none⟩), .int .i64 i1, .int .i64 i2, .int .i64 i3] w fun e w' => e = .returned (.tuple #[]) /\
   (∃ v', Sc w' b s (k + len) line v' (ts ++ [⟨what, s.extract k (k + len), line⟩])) /\ Below b w w' := by
 subst e1 e2 e3
 exact stake_ok b s k line v ts w what len most hsc hl h1 hk hmost
theorem stake_bad' (b : Nat) (s : ByteArray) (k line : Nat) (v : Value) (ts : List Tk) (w : World) (what len most : Nat) (i1 i2 i3 : Int) (hsc : Sc w b s k line v ts)
  (hl : most < len) (e1 : i1 = what) (e2 : i2 = len) (e3 : i3 = most) :
  Calls Tryz.prog 152 #[.pointer (some ⟨b, 0, none⟩), .int .i64 i1, .int .i64 i2, .int .i64 i3] w fun e w' => e = faultE 2 line /\ w' = w := by
 subst e1 e2 e3
 exact stake_bad b s k line v ts w what len most hsc hl
def Stepped (w : World) (b : Nat) (s : ByteArray) (k line : Nat) (ts : List Tk) (e : Ending) (w' : World) : Prop :=
 match lexStep s k line with
 | .skip k' l' => e = .returned (.tuple #[]) /\ (∃ v', Sc w' b s k' l' v' ts) /\ Below b w w'
 | .tok t k' => e = .returned (.tuple #[]) /\ (∃ v', Sc w' b s k' line v' (ts ++ [t])) /\ Below b w w'
 | .bad => e = faultE 2 line /\ Below b w w'
theorem Sc.dr {w w' : World} {b : Nat} {s : ByteArray} {k line : Nat} {v : Value} {ts : List Tk} (h : Sc w b s k line v ts) (hd : Dr w w') : Sc w' b s k line v ts := by
 obtain ⟨d, rfl⟩ := hd
 obtain ⟨c0, c1, c2, c3, fz, own, few, hat, ln, sz⟩ := h
 exact ⟨by simpa using c0, by simpa using c1, by simpa using c2, by simpa using c3, by simpa using fz, own, few, hat, ln, sz⟩
theorem Dr.below {w w' : World} (hd : Dr w w') (B : Nat) : Below B w w' := by
 obtain ⟨d, rfl⟩ := hd
 exact ⟨rfl, rfl, rfl, Nat.le_refl _, fun _ _ => rfl⟩
set_option maxHeartbeats 400000 in
theorem word_kw (b : Nat) (s : ByteArray) (k line : Nat) (v : Value) (ts : List Tk) (w : World) (hsc : Sc w b s k line v ts) (hk : k < s.size) (hsm : isSmallB (bAt s k) = true)
  (hkw : isKwB (s.extract k (k + runAt inWordB s k)) = true) :
  Calls Tryz.prog 151 #[.pointer (some ⟨b, 0, none⟩)] w fun e w' => e = .returned (.tuple #[]) /\ (∃ v', Sc w' b s (k + runAt inWordB s k) line v' (ts ++ [⟨2, s.extract k (k + runAt inWordB s k), line⟩])) /\ Below b w w' := by
 have hp := runAt_pos inWordB s k hk (by simp [inWordB, hsm])
 have hle := runAt_le inWordB s k (by omega)
 have hrun : Calls Tryz.prog 149 #[.pointer (some ⟨b, 0, none⟩), .func (.func 66) #[] #[]] w fun e w' => e = .returned (.int .i64 (runAt inWordB s k)) /\ Dr w w' := run_inWord b s k w (by have := hsc.sz; unfold maxLen; omega) (by omega) hsc.c0 hsc.c1
 have HS := hid hsc
 have hsz := hsc.sz
 clear hsc hsm
 generalize runAt inWordB s k = n at *
 have HR := hid hrun
 clear hrun
 have hwr : IntKind.i64.wrap ((k : Int) + (n : Int)) = (k : Int) + (n : Int) := IntWalk.i64_in _ (by omega)
 have et : ((k : Int) + (n : Int)).toNat = k + n := by omega
 have hi1 : (k : Int) <= (k : Int) + (n : Int) := by omega
 have hi2 : (k : Int) + (n : Int) <= (s.size : Int) := by omega
 go_enter Tryz.func151, Tryz.ntmps151
 go_wp2_with (go_at_call 149; refine HR.o.mono ?_; rintro e w1 ⟨rfl, hd⟩; have HD : Hid (Dr w w1) := hd; have c0 := (HS.o.dr hd).c0; have c1 := (HS.o.dr hd).c1; clear hd)
 go_big_quiet ((go_at_call 65; exact Calls.quiet_of_same (isKeyword_any _ _)))
 simp only [hkw]
 go_wp2_with (go_at_call 152; refine (stake_ok' b s k line v ts _ 2 n n _ _ _ (by exact (HS.o.dr HD.o).dr ⟨_, rfl⟩) (by omega) hp hle (by omega) (by rfl) (by rfl) (by rfl)).mono ?_; rintro e w2 ⟨rfl, ⟨v', hv⟩, hb⟩)
 go_end0
 exact ⟨rfl, ⟨v', hv⟩, ((HD.o.next _).below b).trans hb⟩
set_option maxHeartbeats 400000 in
theorem word_name (b : Nat) (s : ByteArray) (k line : Nat) (v : Value) (ts : List Tk) (w : World) (hsc : Sc w b s k line v ts) (hk : k < s.size) (hsm : isSmallB (bAt s k) = true)
  (hkw : isKwB (s.extract k (k + runAt inWordB s k)) = false) (h8 : runAt inWordB s k <= 8) :
  Calls Tryz.prog 151 #[.pointer (some ⟨b, 0, none⟩)] w fun e w' => e = .returned (.tuple #[]) /\ (∃ v', Sc w' b s (k + runAt inWordB s k) line v' (ts ++ [⟨0, s.extract k (k + runAt inWordB s k), line⟩])) /\ Below b w w' := by
 have hp := runAt_pos inWordB s k hk (by simp [inWordB, hsm])
 have hle := runAt_le inWordB s k (by omega)
 have hrun : Calls Tryz.prog 149 #[.pointer (some ⟨b, 0, none⟩), .func (.func 66) #[] #[]] w fun e w' => e = .returned (.int .i64 (runAt inWordB s k)) /\ Dr w w' := run_inWord b s k w (by have := hsc.sz; unfold maxLen; omega) (by omega) hsc.c0 hsc.c1
 have HS := hid hsc
 have hsz := hsc.sz
 clear hsc hsm
 generalize runAt inWordB s k = n at *
 have HR := hid hrun
 clear hrun
 have hwr : IntKind.i64.wrap ((k : Int) + (n : Int)) = (k : Int) + (n : Int) := IntWalk.i64_in _ (by omega)
 have et : ((k : Int) + (n : Int)).toNat = k + n := by omega
 have hi1 : (k : Int) <= (k : Int) + (n : Int) := by omega
 have hi2 : (k : Int) + (n : Int) <= (s.size : Int) := by omega
 go_enter Tryz.func151, Tryz.ntmps151
 go_wp2_with (go_at_call 149; refine HR.o.mono ?_; rintro e w1 ⟨rfl, hd⟩; have HD : Hid (Dr w w1) := hd; have c0 := (HS.o.dr hd).c0; have c1 := (HS.o.dr hd).c1; clear hd)
 go_big_quiet ((go_at_call 65; exact Calls.quiet_of_same (isKeyword_any _ _)))
 simp only [hkw]
 go_wp2_with (go_at_call 152; refine (stake_ok' b s k line v ts _ 0 n 8 _ _ _ (by exact (HS.o.dr HD.o).dr ⟨_, rfl⟩) h8 hp hle (by omega) (by rfl) (by rfl) (by rfl)).mono ?_; rintro e w2 ⟨rfl, ⟨v', hv⟩, hb⟩)
 go_end0
 exact ⟨rfl, ⟨v', hv⟩, ((HD.o.next _).below b).trans hb⟩
set_option maxHeartbeats 400000 in
theorem word_bad (b : Nat) (s : ByteArray) (k line : Nat) (v : Value) (ts : List Tk) (w : World) (hsc : Sc w b s k line v ts) (hk : k < s.size) (hsm : isSmallB (bAt s k) = true)
  (hkw : isKwB (s.extract k (k + runAt inWordB s k)) = false) (h8 : 8 < runAt inWordB s k) :
  Calls Tryz.prog 151 #[.pointer (some ⟨b, 0, none⟩)] w fun e w' => e = faultE 2 line /\ Below b w w' := by
 have hp := runAt_pos inWordB s k hk (by simp [inWordB, hsm])
 have hle := runAt_le inWordB s k (by omega)
 have hrun : Calls Tryz.prog 149 #[.pointer (some ⟨b, 0, none⟩), .func (.func 66) #[] #[]] w fun e w' => e = .returned (.int .i64 (runAt inWordB s k)) /\ Dr w w' := run_inWord b s k w (by have := hsc.sz; unfold maxLen; omega) (by omega) hsc.c0 hsc.c1
 have HS := hid hsc
 have hsz := hsc.sz
 clear hsc hsm
 generalize runAt inWordB s k = n at *
 have HR := hid hrun
 clear hrun
 have hwr : IntKind.i64.wrap ((k : Int) + (n : Int)) = (k : Int) + (n : Int) := IntWalk.i64_in _ (by omega)
 have et : ((k : Int) + (n : Int)).toNat = k + n := by omega
 have hi1 : (k : Int) <= (k : Int) + (n : Int) := by omega
 have hi2 : (k : Int) + (n : Int) <= (s.size : Int) := by omega
 go_enter Tryz.func151, Tryz.ntmps151
 go_wp2_with (go_at_call 149; refine HR.o.mono ?_; rintro e w1 ⟨rfl, hd⟩; have HD : Hid (Dr w w1) := hd; have c0 := (HS.o.dr hd).c0; have c1 := (HS.o.dr hd).c1; clear hd)
 go_big_quiet ((go_at_call 65; exact Calls.quiet_of_same (isKeyword_any _ _)))
 simp only [hkw]
 go_wp2_with (go_at_call 152; refine (stake_bad' b s k line v ts _ 0 n 8 _ _ _ (by exact (HS.o.dr HD.o).dr ⟨_, rfl⟩) h8 (by rfl) (by rfl) (by rfl)).mono ?_; rintro e w2 ⟨he, rfl⟩; unfold faultE at he; subst he)
 exact ⟨rfl, rfl, (HD.o.next _).below b⟩
end Go.Proofs.YtccikgogjfbpeabGreatDoor

namespace Go.Proofs.YtccikgogjfbpeabGreatDoor
open Go.RowKit
theorem Sc.move {w : World} {b : Nat} {s : ByteArray} {k line : Nat} {v : Value} {ts : List Tk} (h : Sc w b s k line v ts) (k' : Nat) (h1 : k <= k') (h2 : k' <= s.size) :
  Sc (w.setCell ⟨b, 1, none⟩ (.int .i64 k')) b s k' line v ts /\ Below b w (w.setCell ⟨b, 1, none⟩ (.int .i64 k')) := by
 obtain ⟨c0, c1, c2, c3, fz, own, few, hat, ln, sz⟩ := h
 refine ⟨⟨?_, ?_, ?_, ?_, fun o => by simp [fz o], ?_, by omega, h2, by omega, sz⟩, ?_⟩
 ·rw [World.cell?_setCell_other _ _ _ _ (by simp)]; exact c0
 ·exact World.cell?_setCell_same _ _ _ c1
 ·rw [World.cell?_setCell_other _ _ _ _ (by simp)]; exact c2
 ·rw [World.cell?_setCell_other _ _ _ _ (by simp)]; exact c3
 ·exact ownsRow_setCell_below own (by simp) _
 ·exact (Below.refl _ _).setCell (by simp) _
theorem Sc.line {w : World} {b : Nat} {s : ByteArray} {k line : Nat} {v : Value} {ts : List Tk} (h : Sc w b s k line v ts) (k' : Nat) (h1 : k < k') (h2 : k' <= s.size) :
  Sc ((w.setCell ⟨b, 2, none⟩ (.int .i64 (line + 1 : Nat))).setCell ⟨b, 1, none⟩ (.int .i64 k')) b s k' (line + 1) v ts /\
   Below b w ((w.setCell ⟨b, 2, none⟩ (.int .i64 (line + 1 : Nat))).setCell ⟨b, 1, none⟩ (.int .i64 k')) := by
 obtain ⟨c0, c1, c2, c3, fz, own, few, hat, ln, sz⟩ := h
 refine ⟨⟨?_, ?_, ?_, ?_, fun o => by simp [fz o], ?_, by omega, h2, by omega, sz⟩, ?_⟩
 ·rw [World.cell?_setCell_other _ _ _ _ (by simp), World.cell?_setCell_other _ _ _ _ (by simp)]; exact c0
 ·exact World.cell?_setCell_same _ _ _ (u := .int .i64 k) (by rw [World.cell?_setCell_other _ _ _ _ (by simp)]; exact c1)
 ·rw [World.cell?_setCell_other _ _ _ _ (by simp)]; exact World.cell?_setCell_same _ _ _ c2
 ·rw [World.cell?_setCell_other _ _ _ _ (by simp), World.cell?_setCell_other _ _ _ _ (by simp)]; exact c3
 ·exact ownsRow_setCell_below (ownsRow_setCell_below own (by simp) _) (by simp) _
 ·exact ((Below.refl _ _).setCell (by simp) _).setCell (by simp) _
theorem Dr.drew {w w' : World} (h : Dr w w') : Dr w w'.drew := h.trans ⟨1, rfl⟩
set_option maxHeartbeats 400000 in
theorem step_nl (b : Nat) (s : ByteArray) (k line : Nat) (v : Value) (ts : List Tk) (w : World) (hsc : Sc w b s k line v ts) (hk : k < s.size) (hc : bAt s k = 10) :
  Calls Tryz.prog 115 #[.pointer (some ⟨b, 0, none⟩)] w fun e w' => e = .returned (.tuple #[]) /\ (∃ v', Sc w' b s (k + 1) (line + 1) v' ts) /\ Below b w w' := by
 have hix := fun w => index_at (P := Tryz.prog) Tryz.underlying9 s k (k : Int) rfl hk w
 have hki : (k : Int) < (s.size : Int) := by omega
 have HS := hid hsc
 obtain ⟨c0, c1, c2, c3, fz, own, few, hat, ln, sz⟩ := hsc
 clear own few hat c3
 go_enter Tryz.func115, Tryz.ntmps115
 go_wp2_with fail
 go_big_quiet ((fail))
 go_wp2
 go_end0
 have hl := (HS.o.dr ⟨nq, rfl⟩).line (k + 1) (by omega) (by omega)
 rw [Int.natCast_add, Int.natCast_add] at hl
 exact ⟨rfl, ⟨v, hl.1⟩, (Dr.below ⟨nq, rfl⟩ b).trans hl.2⟩
set_option maxHeartbeats 400000 in
theorem step_sp (b : Nat) (s : ByteArray) (k line : Nat) (v : Value) (ts : List Tk) (w : World) (hsc : Sc w b s k line v ts) (hk : k < s.size) (hc : bAt s k = 32) :
  Calls Tryz.prog 115 #[.pointer (some ⟨b, 0, none⟩)] w fun e w' => e = .returned (.tuple #[]) /\ (∃ v', Sc w' b s (k + 1) (line) v' ts) /\ Below b w w' := by
 have hix := fun w => index_at (P := Tryz.prog) Tryz.underlying9 s k (k : Int) rfl hk w
 have hki : (k : Int) < (s.size : Int) := by omega
 have HS := hid hsc
 obtain ⟨c0, c1, c2, c3, fz, own, few, hat, ln, sz⟩ := hsc
 clear own few hat c3
 go_enter Tryz.func115, Tryz.ntmps115
 go_wp2_with fail
 go_big_quiet ((fail))
 go_wp2
 go_end0
 have hl := (HS.o.dr ⟨nq, rfl⟩).move (k + 1) (by omega) (by omega)
 rw [Int.natCast_add] at hl
 exact ⟨rfl, ⟨v, hl.1⟩, (Dr.below ⟨nq, rfl⟩ b).trans hl.2⟩
set_option maxHeartbeats 400000 in
theorem step_tab (b : Nat) (s : ByteArray) (k line : Nat) (v : Value) (ts : List Tk) (w : World) (hsc : Sc w b s k line v ts) (hk : k < s.size) (hc : bAt s k = 9) :
  Calls Tryz.prog 115 #[.pointer (some ⟨b, 0, none⟩)] w fun e w' => e = .returned (.tuple #[]) /\ (∃ v', Sc w' b s (k + 1) (line) v' ts) /\ Below b w w' := by
 have hix := fun w => index_at (P := Tryz.prog) Tryz.underlying9 s k (k : Int) rfl hk w
 have hki : (k : Int) < (s.size : Int) := by omega
 have HS := hid hsc
 obtain ⟨c0, c1, c2, c3, fz, own, few, hat, ln, sz⟩ := hsc
 clear own few hat c3
 go_enter Tryz.func115, Tryz.ntmps115
 go_wp2_with fail
 go_big_quiet ((fail))
 go_wp2
 go_end0
 have hl := (HS.o.dr ⟨nq, rfl⟩).move (k + 1) (by omega) (by omega)
 rw [Int.natCast_add] at hl
 exact ⟨rfl, ⟨v, hl.1⟩, (Dr.below ⟨nq, rfl⟩ b).trans hl.2⟩
set_option maxHeartbeats 400000 in
theorem step_remark (b : Nat) (s : ByteArray) (k line : Nat) (v : Value) (ts : List Tk) (w : World) (hsc : Sc w b s k line v ts) (hk : k < s.size) (hc : bAt s k = 35) :
  Calls Tryz.prog 115 #[.pointer (some ⟨b, 0, none⟩)] w fun e w' => e = .returned (.tuple #[]) /\ (∃ v', Sc w' b s (k + runAt inRemarkB s k) line v' ts) /\ Below b w w' := by
 have hle := runAt_le inRemarkB s k (by omega)
 have HR : Hid (∀ W, Dr w W -> Calls Tryz.prog 149 #[.pointer (some ⟨b, 0, none⟩), .func (.func 150) #[] #[]] W fun e w' => e = .returned (.int .i64 (runAt inRemarkB s k)) /\ Dr W w') :=
  fun W hd => run_inRemark b s k W (by have := hsc.sz; unfold maxLen; omega) (by omega) (hsc.dr hd).c0 (hsc.dr hd).c1
 generalize runAt inRemarkB s k = n at *
 have hix := fun w => index_at (P := Tryz.prog) Tryz.underlying9 s k (k : Int) rfl hk w
 have hki : (k : Int) < (s.size : Int) := by omega
 have HS := hid hsc
 obtain ⟨c0, c1, c2, c3, fz, own, few, hat, ln, sz⟩ := hsc
 clear own few hat c3
 have hwr : IntKind.i64.wrap ((k : Int) + (n : Int)) = (k : Int) + (n : Int) := IntWalk.i64_in _ (by omega)
 go_enter Tryz.func115, Tryz.ntmps115
 go_wp2_with fail
 go_big_quiet ((fail))
 go_wp2_with fail
 go_region_with (go_at_call 149; refine (HR.o _ (by exact ((Dr.refl w).next nq).drew)).mono ?_; rintro e w1 ⟨rfl, hd⟩; have HD : Hid (Dr w w1) := (((Dr.refl w).next nq).drew).trans hd; have e1 := (HS.o.dr HD.o).c1; have ef := (HS.o.dr HD.o).fz; clear hd)
 all_goals
  go_wp2
  go_end0
  have hl := (HS.o.dr HD.o).move (k + n) (by omega) hle
  rw [Int.natCast_add] at hl
  exact ⟨rfl, ⟨v, hl.1⟩, (HD.o.below b).trans hl.2⟩
set_option maxHeartbeats 400000 in
theorem step_wkw (b : Nat) (s : ByteArray) (k line : Nat) (v : Value) (ts : List Tk) (w : World) (hsc : Sc w b s k line v ts) (hk : k < s.size) (hsm : isSmallB (bAt s k) = true) (hkw : isKwB (s.extract k (k + runAt inWordB s k)) = true) :
  Calls Tryz.prog 115 #[.pointer (some ⟨b, 0, none⟩)] w fun e w' => e = .returned (.tuple #[]) /\ (∃ v', Sc w' b s (k + runAt inWordB s k) line v' (ts ++ [⟨2, s.extract k (k + runAt inWordB s k), line⟩])) /\ Below b w w' := by
 have HC : Hid (∀ W, Dr w W -> Calls Tryz.prog 151 #[.pointer (some ⟨b, 0, none⟩)] W fun e w' => e = .returned (.tuple #[]) /\ (∃ v', Sc w' b s (k + runAt inWordB s k) line v' (ts ++ [⟨2, s.extract k (k + runAt inWordB s k), line⟩])) /\ Below b W w') := fun W hd => word_kw b s k line v ts W (hsc.dr hd) hk hsm hkw
 have hr : 97 <= bAt s k := by simp [isSmallB] at hsm; omega
 have n10 : (bAt s k == 10) = false := by simp; omega
 have n32 : (bAt s k == 32) = false := by simp; omega
 have n9 : (bAt s k == 9) = false := by simp; omega
 have n35 : (bAt s k == 35) = false := by simp; omega
 clear hkw
 generalize runAt inWordB s k = n at *
 have hix := fun w => index_at (P := Tryz.prog) Tryz.underlying9 s k (k : Int) rfl hk w
 have hki : (k : Int) < (s.size : Int) := by omega
 have HS := hid hsc
 obtain ⟨c0, c1, c2, c3, fz, own, few, hat, ln, sz⟩ := hsc
 clear own few hat c3
 go_enter Tryz.func115, Tryz.ntmps115
 go_wp2_with fail
 go_big_quiet ((fail))
 go_wp2_with (first | (go_at_call 64; refine (isSmall_any _ _).mono ?_; rintro e w' ⟨rfl, rfl⟩; simp only [hsm]) | (go_at_call 151; refine (HC.o _ (by exact ⟨_, rfl⟩)).mono ?_; rintro e w2 ⟨rfl, ⟨v', hv⟩, hb⟩))
 go_end0
 exact ⟨rfl, ⟨v', hv⟩, (Dr.below ⟨nq, rfl⟩ b).trans hb⟩
set_option maxHeartbeats 400000 in
theorem step_wname (b : Nat) (s : ByteArray) (k line : Nat) (v : Value) (ts : List Tk) (w : World) (hsc : Sc w b s k line v ts) (hk : k < s.size) (hsm : isSmallB (bAt s k) = true) (hkw : isKwB (s.extract k (k + runAt inWordB s k)) = false) (h8 : runAt inWordB s k <= 8) :
  Calls Tryz.prog 115 #[.pointer (some ⟨b, 0, none⟩)] w fun e w' => e = .returned (.tuple #[]) /\ (∃ v', Sc w' b s (k + runAt inWordB s k) line v' (ts ++ [⟨0, s.extract k (k + runAt inWordB s k), line⟩])) /\ Below b w w' := by
 have HC : Hid (∀ W, Dr w W -> Calls Tryz.prog 151 #[.pointer (some ⟨b, 0, none⟩)] W fun e w' => e = .returned (.tuple #[]) /\ (∃ v', Sc w' b s (k + runAt inWordB s k) line v' (ts ++ [⟨0, s.extract k (k + runAt inWordB s k), line⟩])) /\ Below b W w') := fun W hd => word_name b s k line v ts W (hsc.dr hd) hk hsm hkw h8
 have hr : 97 <= bAt s k := by simp [isSmallB] at hsm; omega
 have n10 : (bAt s k == 10) = false := by simp; omega
 have n32 : (bAt s k == 32) = false := by simp; omega
 have n9 : (bAt s k == 9) = false := by simp; omega
 have n35 : (bAt s k == 35) = false := by simp; omega
 clear hkw h8
 generalize runAt inWordB s k = n at *
 have hix := fun w => index_at (P := Tryz.prog) Tryz.underlying9 s k (k : Int) rfl hk w
 have hki : (k : Int) < (s.size : Int) := by omega
 have HS := hid hsc
 obtain ⟨c0, c1, c2, c3, fz, own, few, hat, ln, sz⟩ := hsc
 clear own few hat c3
 go_enter Tryz.func115, Tryz.ntmps115
 go_wp2_with fail
 go_big_quiet ((fail))
 go_wp2_with (first | (go_at_call 64; refine (isSmall_any _ _).mono ?_; rintro e w' ⟨rfl, rfl⟩; simp only [hsm]) | (go_at_call 151; refine (HC.o _ (by exact ⟨_, rfl⟩)).mono ?_; rintro e w2 ⟨rfl, ⟨v', hv⟩, hb⟩))
 go_end0
 exact ⟨rfl, ⟨v', hv⟩, (Dr.below ⟨nq, rfl⟩ b).trans hb⟩
set_option maxHeartbeats 400000 in
theorem step_wbad (b : Nat) (s : ByteArray) (k line : Nat) (v : Value) (ts : List Tk) (w : World) (hsc : Sc w b s k line v ts) (hk : k < s.size) (hsm : isSmallB (bAt s k) = true) (hkw : isKwB (s.extract k (k + runAt inWordB s k)) = false) (h8 : 8 < runAt inWordB s k) :
  Calls Tryz.prog 115 #[.pointer (some ⟨b, 0, none⟩)] w fun e w' => e = faultE 2 line /\ Below b w w' := by
 have HC : Hid (∀ W, Dr w W -> Calls Tryz.prog 151 #[.pointer (some ⟨b, 0, none⟩)] W fun e w' => e = faultE 2 line /\ Below b W w') := fun W hd => word_bad b s k line v ts W (hsc.dr hd) hk hsm hkw h8
 have hr : 97 <= bAt s k := by simp [isSmallB] at hsm; omega
 have n10 : (bAt s k == 10) = false := by simp; omega
 have n32 : (bAt s k == 32) = false := by simp; omega
 have n9 : (bAt s k == 9) = false := by simp; omega
 have n35 : (bAt s k == 35) = false := by simp; omega
 clear hkw h8
 generalize runAt inWordB s k = n at *
 have hix := fun w => index_at (P := Tryz.prog) Tryz.underlying9 s k (k : Int) rfl hk w
 have hki : (k : Int) < (s.size : Int) := by omega
 have HS := hid hsc
 obtain ⟨c0, c1, c2, c3, fz, own, few, hat, ln, sz⟩ := hsc
 clear own few hat c3
 go_enter Tryz.func115, Tryz.ntmps115
 go_wp2_with fail
 go_big_quiet ((fail))
 go_wp2_with (first | (go_at_call 64; refine (isSmall_any _ _).mono ?_; rintro e w' ⟨rfl, rfl⟩; simp only [hsm]) | (go_at_call 151; refine (HC.o _ (by exact ⟨_, rfl⟩)).mono ?_; rintro e w2 ⟨he, hb⟩; unfold faultE at he; subst he))
 exact ⟨rfl, rfl, (Dr.below ⟨nq, rfl⟩ b).trans hb⟩
end Go.Proofs.YtccikgogjfbpeabGreatDoor
