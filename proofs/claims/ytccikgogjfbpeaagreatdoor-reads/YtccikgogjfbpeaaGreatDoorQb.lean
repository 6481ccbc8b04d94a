/- The small functions of the scanner: what each answers of one byte. The scanner's run: how many bytes belong. The keywords; a text that begins so. -/
import Derived.Test.YtccikgogjfbpeaaGreatDoorProg
import Derived.Test.YtccikgogjfbpeaaGreatDoorQa
import Derived.WalkKit
import Derived.WalkSpells
import Derived.WalkLawsBesides
import Derived.Deep.QuietTactic
import Derived.BigQuiet
namespace Go.Proofs.YtccikgogjfbpeaaGreatDoor
open Go.RowKit
set_option maxHeartbeats 400000 in
theorem isSmall_any (c : Int) (w : World) :
  Calls Tryz.prog 150 #[.int .u8 c] w fun e w' => e = .returned (.bool (isSmallB c)) ∧ w' = w := by
 by_cases h1 : 97 ≤ c
 all_goals by_cases h2 : c ≤ 122
 all_goals
  go_enter Tryz.func150, Tryz.ntmps150
  go_wp2
  go_ret
  exact ⟨by simp [isSmallB, h1, h2], rfl⟩

set_option maxHeartbeats 400000 in
theorem isDigit_any (c : Int) (w : World) :
  Calls Tryz.prog 188 #[.int .u8 c] w fun e w' => e = .returned (.bool (isDigitB c)) ∧ w' = w := by
 by_cases h1 : 48 ≤ c
 all_goals by_cases h2 : c ≤ 57
 all_goals
  go_enter Tryz.func188, Tryz.ntmps188
  go_wp2
  go_ret
  exact ⟨by simp [isDigitB, h1, h2], rfl⟩

set_option maxHeartbeats 400000 in
theorem inRemark_any (c : Int) (w : World) :
  Calls Tryz.prog 196 #[.int .u8 c] w fun e w' => e = .returned (.bool (inRemarkB c)) ∧ w' = w := by
 go_enter Tryz.func196, Tryz.ntmps196
 go_wp2
 go_ret
 exact ⟨by simp [inRemarkB, bne, BEq.beq], rfl⟩

set_option maxHeartbeats 400000 in
theorem inWord_any (c : Int) (w : World) :
  Calls Tryz.prog 152 #[.int .u8 c] w fun e w' => e = .returned (.bool (inWordB c)) ∧ w' = w := by
 cases h : isSmallB c
 all_goals
  go_enter Tryz.func152, Tryz.ntmps152
  go_wp2_with (first | (go_at_call 150; refine (isSmall_any _ _).mono ?_; rintro e w' ⟨rfl, rfl⟩) | (go_at_call 188; refine (isDigit_any _ _).mono ?_; rintro e w' ⟨rfl, rfl⟩))
  go_ret
  exact ⟨by simp [inWordB, h], rfl⟩
end Go.Proofs.YtccikgogjfbpeaaGreatDoor

namespace Go.Proofs.YtccikgogjfbpeaaGreatDoor
open Go.RowKit
theorem index_at {P : Program} {t : TypeId} (h : P.underlying t = some .string) (s : ByteArray) (k : Nat) (i : Int) (hi : i = k) (hk : k < s.size) (w : World) :
  (Instr.index t (.string s) (.int .i64 i)).run P w = .ok (.int .u8 (bAt s k)) w := by
 subst hi
 rw [run_index_string w t s .i64 k h, dif_pos (by omega), bAt_of s k hk]
 simp
/-- The world, after some draws. -/
def Dr (w w' : World) : Prop := ∃ d, w' = w.drewN d
theorem Dr.refl (w : World) : Dr w w := ⟨0, rfl⟩
theorem Dr.next {w w' : World} (h : Dr w w') (n : Nat) : Dr w (w'.drewN n) := by
 obtain ⟨d, rfl⟩ := h
 exact ⟨d + n, by rw [World.drewN_drewN]⟩
theorem Dr.trans {a b c : World} (h : Dr a b) (k : Dr b c) : Dr a c := by
 obtain ⟨d, rfl⟩ := k
 exact h.next d
theorem Dr.cell {w w' : World} (h : Dr w w') (a : Addr) : w'.cell? a = w.cell? a := by
 obtain ⟨d, rfl⟩ := h
 simp
theorem ret_int {k : IntKind} {a b : Int} (h : a = b) : Ending.returned (.int k a) = .returned (.int k b) := by rw [h]

set_option maxHeartbeats 400000 in
theorem run_inRemark (b : Nat) (s : ByteArray) (at0 : Nat) (w : World) (hs : s.size ≤ maxLen)
  (hat : at0 ≤ s.size)
  (h0 : w.cell? ⟨b, 0, none⟩ = some (.string s)) (h1 : w.cell? ⟨b, 1, none⟩ = some (.int .i64 at0)) :
  Calls Tryz.prog 195 #[.pointer (some ⟨b, 0, none⟩), .func (.func 196) #[] #[]] w fun e w' => e = .returned (.int .i64 (runLen inRemarkB (s.data.toList.drop at0))) ∧ Dr w w' := by
 unfold maxLen at hs
 go_enter Tryz.func195, Tryz.ntmps195
 go_wp2
 go_loopw [5] (fun n w' => ∃ k : Nat, at0 + k ≤ s.size ∧ n = .int .i64 k ∧ Hid (runLen inRemarkB (s.data.toList.drop at0) = k + runLen inRemarkB (s.data.toList.drop (at0 + k))) ∧ Dr w w') (fun n _ => s.size - (intOf n).toNat)
 case atStart => exact ⟨0, by omega, rfl, (by show _ = _; simp), Dr.refl _⟩
 case round =>
  obtain ⟨k, hk, rfl, HR, HD⟩ := hrel
  rw [← HD.cell] at h0 h1
  have hwr : IntKind.i64.wrap ((at0 : Int) + (k : Int)) = (at0 : Int) + (k : Int) := IntWalk.i64_in _ (by omega)
  by_cases hlt : at0 + k < s.size
  ·have hst := runLen_step inRemarkB s (at0 + k) hlt
   have HS : Hid (runLen inRemarkB (s.data.toList.drop (at0 + k)) = if inRemarkB (bAt s (at0 + k)) then runLen inRemarkB (s.data.toList.drop (at0 + k + 1)) + 1 else 0) := hst
   clear hst
   have hi : (at0 : Int) + (k : Int) < (s.size : Int) := by omega
   have hix := fun w => index_at (P := Tryz.prog) Tryz.underlying9 s (at0 + k) ((at0 : Int) + (k : Int)) (by omega) hlt w
   cases hp : inRemarkB (bAt s (at0 + k))
   all_goals
    go_wp2_with fail
    go_quiet ((go_at_call 196; exact Calls.quiet_of_same (inRemark_any _ _)))
   ·go_wp2
    go_ret
    exact ⟨ret_int (by rw [HR.out, HS.out, hp]; simp), HD.next _⟩
   ·go_wp2
    go_roundw
    case rel =>
     refine ⟨k + 1, by omega, by go_num, ?_, HD.next _⟩
     have h2 := HS.out
     rw [hp, if_pos rfl] at h2
     have h3 : runLen inRemarkB (s.data.toList.drop at0) = (k + 1) + runLen inRemarkB (s.data.toList.drop (at0 + (k + 1))) := by
      rw [HR.out, h2, Nat.add_assoc at0 k 1]; omega
     exact h3
    case measure => simp [intOf]; omega
  ·have hd : decide ((at0 : Int) + k < s.size) = false := by simp; omega
   go_wp2_with fail
   go_quiet (fail)
   go_wp2
   go_ret
   exact ⟨ret_int (by rw [HR.out, runLen_end _ _ _ (by omega)]; simp), HD.next _⟩
set_option maxHeartbeats 400000 in
theorem run_inWord (b : Nat) (s : ByteArray) (at0 : Nat) (w : World) (hs : s.size ≤ maxLen)
  (hat : at0 ≤ s.size)
  (h0 : w.cell? ⟨b, 0, none⟩ = some (.string s)) (h1 : w.cell? ⟨b, 1, none⟩ = some (.int .i64 at0)) :
  Calls Tryz.prog 195 #[.pointer (some ⟨b, 0, none⟩), .func (.func 152) #[] #[]] w fun e w' => e = .returned (.int .i64 (runLen inWordB (s.data.toList.drop at0))) ∧ Dr w w' := by
 unfold maxLen at hs
 go_enter Tryz.func195, Tryz.ntmps195
 go_wp2
 go_loopw [5] (fun n w' => ∃ k : Nat, at0 + k ≤ s.size ∧ n = .int .i64 k ∧ Hid (runLen inWordB (s.data.toList.drop at0) = k + runLen inWordB (s.data.toList.drop (at0 + k))) ∧ Dr w w') (fun n _ => s.size - (intOf n).toNat)
 case atStart => exact ⟨0, by omega, rfl, (by show _ = _; simp), Dr.refl _⟩
 case round =>
  obtain ⟨k, hk, rfl, HR, HD⟩ := hrel
  rw [← HD.cell] at h0 h1
  have hwr : IntKind.i64.wrap ((at0 : Int) + (k : Int)) = (at0 : Int) + (k : Int) := IntWalk.i64_in _ (by omega)
  by_cases hlt : at0 + k < s.size
  ·have hst := runLen_step inWordB s (at0 + k) hlt
   have HS : Hid (runLen inWordB (s.data.toList.drop (at0 + k)) = if inWordB (bAt s (at0 + k)) then runLen inWordB (s.data.toList.drop (at0 + k + 1)) + 1 else 0) := hst
   clear hst
   have hi : (at0 : Int) + (k : Int) < (s.size : Int) := by omega
   have hix := fun w => index_at (P := Tryz.prog) Tryz.underlying9 s (at0 + k) ((at0 : Int) + (k : Int)) (by omega) hlt w
   cases hp : inWordB (bAt s (at0 + k))
   all_goals
    go_wp2_with fail
    go_quiet ((go_at_call 152; exact Calls.quiet_of_same (inWord_any _ _)))
   ·go_wp2
    go_ret
    exact ⟨ret_int (by rw [HR.out, HS.out, hp]; simp), HD.next _⟩
   ·go_wp2
    go_roundw
    case rel =>
     refine ⟨k + 1, by omega, by go_num, ?_, HD.next _⟩
     have h2 := HS.out
     rw [hp, if_pos rfl] at h2
     have h3 : runLen inWordB (s.data.toList.drop at0) = (k + 1) + runLen inWordB (s.data.toList.drop (at0 + (k + 1))) := by
      rw [HR.out, h2, Nat.add_assoc at0 k 1]; omega
     exact h3
    case measure => simp [intOf]; omega
  ·have hd : decide ((at0 : Int) + k < s.size) = false := by simp; omega
   go_wp2_with fail
   go_quiet (fail)
   go_wp2
   go_ret
   exact ⟨ret_int (by rw [HR.out, runLen_end _ _ _ (by omega)]; simp), HD.next _⟩
set_option maxHeartbeats 400000 in
theorem run_isDigit (b : Nat) (s : ByteArray) (at0 : Nat) (w : World) (hs : s.size ≤ maxLen)
  (hat : at0 ≤ s.size)
  (h0 : w.cell? ⟨b, 0, none⟩ = some (.string s)) (h1 : w.cell? ⟨b, 1, none⟩ = some (.int .i64 at0)) :
  Calls Tryz.prog 195 #[.pointer (some ⟨b, 0, none⟩), .func (.func 188) #[] #[]] w fun e w' => e = .returned (.int .i64 (runLen isDigitB (s.data.toList.drop at0))) ∧ Dr w w' := by
 unfold maxLen at hs
 go_enter Tryz.func195, Tryz.ntmps195
 go_wp2
 go_loopw [5] (fun n w' => ∃ k : Nat, at0 + k ≤ s.size ∧ n = .int .i64 k ∧ Hid (runLen isDigitB (s.data.toList.drop at0) = k + runLen isDigitB (s.data.toList.drop (at0 + k))) ∧ Dr w w') (fun n _ => s.size - (intOf n).toNat)
 case atStart => exact ⟨0, by omega, rfl, (by show _ = _; simp), Dr.refl _⟩
 case round =>
  obtain ⟨k, hk, rfl, HR, HD⟩ := hrel
  rw [← HD.cell] at h0 h1
  have hwr : IntKind.i64.wrap ((at0 : Int) + (k : Int)) = (at0 : Int) + (k : Int) := IntWalk.i64_in _ (by omega)
  by_cases hlt : at0 + k < s.size
  ·have hst := runLen_step isDigitB s (at0 + k) hlt
   have HS : Hid (runLen isDigitB (s.data.toList.drop (at0 + k)) = if isDigitB (bAt s (at0 + k)) then runLen isDigitB (s.data.toList.drop (at0 + k + 1)) + 1 else 0) := hst
   clear hst
   have hi : (at0 : Int) + (k : Int) < (s.size : Int) := by omega
   have hix := fun w => index_at (P := Tryz.prog) Tryz.underlying9 s (at0 + k) ((at0 : Int) + (k : Int)) (by omega) hlt w
   cases hp : isDigitB (bAt s (at0 + k))
   all_goals
    go_wp2_with fail
    go_quiet ((go_at_call 188; exact Calls.quiet_of_same (isDigit_any _ _)))
   ·go_wp2
    go_ret
    exact ⟨ret_int (by rw [HR.out, HS.out, hp]; simp), HD.next _⟩
   ·go_wp2
    go_roundw
    case rel =>
     refine ⟨k + 1, by omega, by go_num, ?_, HD.next _⟩
     have h2 := HS.out
     rw [hp, if_pos rfl] at h2
     have h3 : runLen isDigitB (s.data.toList.drop at0) = (k + 1) + runLen isDigitB (s.data.toList.drop (at0 + (k + 1))) := by
      rw [HR.out, h2, Nat.add_assoc at0 k 1]; omega
     exact h3
    case measure => simp [intOf]; omega
  ·have hd : decide ((at0 : Int) + k < s.size) = false := by simp; omega
   go_wp2_with fail
   go_quiet (fail)
   go_wp2
   go_ret
   exact ⟨ret_int (by rw [HR.out, runLen_end _ _ _ (by omega)]; simp), HD.next _⟩
end Go.Proofs.YtccikgogjfbpeaaGreatDoor

namespace Go.Proofs.YtccikgogjfbpeaaGreatDoor
open Go.RowKit

set_option maxHeartbeats 400000 in
theorem isKeyword_any (t : ByteArray) (w : World) :
  Calls Tryz.prog 151 #[.string t] w fun e w' => e = .returned (.bool (isKwB t)) ∧ w' = w := by
 go_enter Tryz.func151, Tryz.ntmps151
 go_wp2
 all_goals
  go_ret
  refine ⟨?_, rfl⟩
  simp_all [isKwB, kws]
set_option maxHeartbeats 400000 in
theorem keyword_any (t : ByteArray) (w : World) :
  Calls Tryz.prog 128 #[.string t] w fun e w' => e = .returned (.bool (isKwB t)) ∧ w' = w := by
 go_enter Tryz.func128, Tryz.ntmps128
 go_wp2
 all_goals
  go_ret
  refine ⟨?_, rfl⟩
  simp_all [isKwB, kws]

set_option maxHeartbeats 400000 in
theorem sHasPrefix_any (t m : ByteArray) (w : World) (ht : t.size ≤ 9223372036854775807) (hm : m.size ≤ 9223372036854775807) :
  Calls Tryz.prog 239 #[.string t, .string m] w fun e w' => e = .returned (.bool (preB t m)) ∧ w' = w := by
 have ht' : (t.size : Int) ≤ 9223372036854775807 := by omega
 have hm' : (m.size : Int) ≤ 9223372036854775807 := by omega
 clear ht hm
 by_cases hle : m.size ≤ t.size
 ·go_enter Tryz.func239, Tryz.ntmps239
  go_wp2
  go_ret
  exact ⟨by simp [preB, hle], rfl⟩
 ·go_enter Tryz.func239, Tryz.ntmps239
  go_wp2
  go_ret
  exact ⟨by simp [preB, hle], rfl⟩

set_option maxHeartbeats 400000 in
theorem HasPrefix_any (t m : ByteArray) (w : World) (ht : t.size ≤ maxLen) (hm : m.size ≤ maxLen) :
  Calls Tryz.prog 203 #[.string t, .string m] w fun e w' => e = .returned (.bool (preB t m)) ∧ w' = w := by
 go_enter Tryz.func203, Tryz.ntmps203
 go_wp2_with (go_at_call 239; refine (sHasPrefix_any _ _ _ ht hm).mono ?_; rintro e w' ⟨rfl, rfl⟩)
 go_ret
 exact ⟨rfl, rfl⟩

set_option maxHeartbeats 400000 in
theorem ahead_any (b : Nat) (s m : ByteArray) (at0 : Nat) (w : World) (hs : s.size ≤ maxLen) (hm : m.size ≤ maxLen)
  (hat : at0 ≤ s.size)
  (h0 : w.cell? ⟨b, 0, none⟩ = some (.string s)) (h1 : w.cell? ⟨b, 1, none⟩ = some (.int .i64 at0)) :
  Calls Tryz.prog 199 #[.pointer (some ⟨b, 0, none⟩), .string m] w fun e w' => e = .returned (.bool (preB (s.extract at0 s.size) m)) ∧ Dr w w' := by
 have hi : (at0 : Int) ≤ (s.size : Int) := by omega
 have hz : (s.extract at0 s.size).size ≤ maxLen := by simp; omega
 have HZ : Hid ((s.extract at0 s.size).size ≤ maxLen) := hz
 have HM : Hid (m.size ≤ maxLen) := hm
 clear hz hm
 unfold maxLen at hs
 go_enter Tryz.func199, Tryz.ntmps199
 go_wp2
 go_quiet ((go_at_call 203; exact Calls.quiet_of_same (HasPrefix_any _ _ _ HZ.out HM.out)))
 go_wp2
 go_ret
 exact ⟨rfl, (Dr.refl w).next _⟩
end Go.Proofs.YtccikgogjfbpeaaGreatDoor
