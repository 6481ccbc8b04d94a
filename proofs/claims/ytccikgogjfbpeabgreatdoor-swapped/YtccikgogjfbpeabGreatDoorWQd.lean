/- The scanner's step: digits, marks, and what is no token. The scanner's step, whole; scan. The parser: here, skip, expect, take. -/
import Derived.Test.YtccikgogjfbpeabGreatDoorWHa
import Derived.Test.YtccikgogjfbpeabGreatDoorWQb
import Derived.Lib.Strings
import Derived.Deep.LoopGhost
import Derived.Test.YtccikgogjfbpeabGreatDoorWQa
namespace Go.Proofs.YtccikgogjfbpeabGreatDoor
open Go.RowKit
theorem preB_two (s : ByteArray) (k : Nat) (a b : UInt8) : preB (s.extract k s.size) ⟨#[a, b]⟩ = two s k (a.toNat : Int) (b.toNat : Int) := by
 unfold preB two bAt
 have hz : (⟨#[a, b]⟩ : ByteArray).size = 2 := rfl
 by_cases h : k + 2 <= s.size
 ·rw [ByteArray.toList_eq, ByteArray.toList_eq, Lib.extract_data, Lib.extract_data, hz]
  have hlen : (s.data.toList.drop k).length = s.size - k := by simp
  have g0 : s.data.toList.getD k 0 = (s.data.toList.drop k).getD 0 0 := by simp [List.getD_eq_getElem?_getD]
  have g1 : s.data.toList.getD (k + 1) 0 = (s.data.toList.drop k).getD 1 0 := by simp [List.getD_eq_getElem?_getD]
  rw [g0, g1]
  generalize s.data.toList.drop k = l at *
  match l, hlen with
  | [], hlen => simp at hlen; omega
  | [_], hlen => simp at hlen; omega
  | x :: y :: r, hlen =>
   obtain ⟨n, hn⟩ : ∃ n, s.size - k = n + 2 := ⟨s.size - k - 2, by omega⟩
   rw [hn]
   have e : ∀ u v : UInt8, (u == v) = decide ((u.toNat : Int) = (v.toNat : Int)) := by
    intro u v
    rw [Bool.eq_iff_iff]
    simp only [beq_iff_eq, decide_eq_true_eq]
    rw [<- UInt8.toNat_inj]
    omega
   simp [h, e]
   omega
 ·simp [hz, h]
  omega
set_option maxHeartbeats 400000 in
theorem step_digits (b : Nat) (s : ByteArray) (k line : Nat) (v : Value) (ts : List Tk) (w : World) (hsc : Sc w b s k line v ts) (hk : k < s.size) (hdg : isDigitB (bAt s k) = true) (h9 : runAt isDigitB s k <= 9) :
  Calls Tryz.prog 115 #[.pointer (some ⟨b, 0, none⟩)] w fun e w' => e = .returned (.tuple #[]) /\ (∃ v', Sc w' b s (k + runAt isDigitB s k) line v' (ts ++ [⟨1, s.extract k (k + runAt isDigitB s k), line⟩])) /\ Below b w w' := by
 have hp := runAt_pos isDigitB s k hk hdg
 have hle := runAt_le isDigitB s k (by omega)
 have HR : Hid (∀ W, Dr w W -> Calls Tryz.prog 149 #[.pointer (some ⟨b, 0, none⟩), .func (.func 110) #[] #[]] W fun e w' => e = .returned (.int .i64 (runAt isDigitB s k)) /\ Dr W w') :=
  fun W hd => run_isDigit b s k W (by have := hsc.sz; unfold maxLen; omega) (by omega) (hsc.dr hd).c0 (hsc.dr hd).c1
 have hr : bAt s k <= 57 /\ 48 <= bAt s k := by simp [isDigitB] at hdg; omega
 have hsm : isSmallB (bAt s k) = false := by simp [isSmallB]; omega
 have n10 : (bAt s k == 10) = false := by simp; omega
 have n32 : (bAt s k == 32) = false := by simp; omega
 have n9 : (bAt s k == 9) = false := by simp; omega
 have n35 : (bAt s k == 35) = false := by simp; omega
 clear hr
 generalize runAt isDigitB s k = n at *
 have hix := fun w => index_at (P := Tryz.prog) Tryz.underlying9 s k (k : Int) rfl hk w
 have hki : (k : Int) < (s.size : Int) := by omega
 have HS := hid hsc
 obtain ⟨c0, c1, c2, c3, fz, own, few, hat, ln, sz⟩ := hsc
 clear own few hat c3
 go_enter Tryz.func115, Tryz.ntmps115
 go_wp2_with fail
 go_big_quiet ((fail))
 go_wp2_with (first | (go_at_call 64; refine (isSmall_any _ _).mono ?_; rintro e w' ⟨rfl, rfl⟩; simp only [hsm]) | (go_at_call 110; refine (isDigit_any _ _).mono ?_; rintro e w' ⟨rfl, rfl⟩; simp only [hdg]) | (go_at_call 149; refine (HR.o _ (by exact ⟨_, rfl⟩)).mono ?_; rintro e w1 ⟨rfl, hd⟩; have HD : Hid (Dr w w1) := (Dr.refl w |>.next nq).trans hd; clear hd) | (go_at_call 152; refine (stake_ok' b s k line v ts _ 1 n 9 _ _ _ (by exact HS.o.dr HD.o) h9 hp hle (by omega) (by rfl) (by rfl) (by rfl)).mono ?_; rintro e w2 ⟨rfl, ⟨v', hv⟩, hb⟩))
 go_end0
 exact ⟨rfl, ⟨v', hv⟩, (HD.o.below b).trans hb⟩
set_option maxHeartbeats 400000 in
theorem step_dbad (b : Nat) (s : ByteArray) (k line : Nat) (v : Value) (ts : List Tk) (w : World) (hsc : Sc w b s k line v ts) (hk : k < s.size) (hdg : isDigitB (bAt s k) = true) (h9 : 9 < runAt isDigitB s k) :
  Calls Tryz.prog 115 #[.pointer (some ⟨b, 0, none⟩)] w fun e w' => e = faultE 2 line /\ Below b w w' := by
 have HR : Hid (∀ W, Dr w W -> Calls Tryz.prog 149 #[.pointer (some ⟨b, 0, none⟩), .func (.func 110) #[] #[]] W fun e w' => e = .returned (.int .i64 (runAt isDigitB s k)) /\ Dr W w') :=
  fun W hd => run_isDigit b s k W (by have := hsc.sz; unfold maxLen; omega) (by omega) (hsc.dr hd).c0 (hsc.dr hd).c1
 have hr : bAt s k <= 57 /\ 48 <= bAt s k := by simp [isDigitB] at hdg; omega
 have hsm : isSmallB (bAt s k) = false := by simp [isSmallB]; omega
 have n10 : (bAt s k == 10) = false := by simp; omega
 have n32 : (bAt s k == 32) = false := by simp; omega
 have n9 : (bAt s k == 9) = false := by simp; omega
 have n35 : (bAt s k == 35) = false := by simp; omega
 clear hr
 generalize runAt isDigitB s k = n at *
 have hix := fun w => index_at (P := Tryz.prog) Tryz.underlying9 s k (k : Int) rfl hk w
 have hki : (k : Int) < (s.size : Int) := by omega
 have HS := hid hsc
 obtain ⟨c0, c1, c2, c3, fz, own, few, hat, ln, sz⟩ := hsc
 clear own few hat c3
 go_enter Tryz.func115, Tryz.ntmps115
 go_wp2_with fail
 go_big_quiet ((fail))
 go_wp2_with (first | (go_at_call 64; refine (isSmall_any _ _).mono ?_; rintro e w' ⟨rfl, rfl⟩; simp only [hsm]) | (go_at_call 110; refine (isDigit_any _ _).mono ?_; rintro e w' ⟨rfl, rfl⟩; simp only [hdg]) | (go_at_call 149; refine (HR.o _ (by exact ⟨_, rfl⟩)).mono ?_; rintro e w1 ⟨rfl, hd⟩; have HD : Hid (Dr w w1) := (Dr.refl w |>.next nq).trans hd; clear hd) | (go_at_call 152; refine (stake_bad' b s k line v ts _ 1 n 9 _ _ _ (by exact HS.o.dr HD.o) h9 (by rfl) (by rfl) (by rfl)).mono ?_; rintro e w2 ⟨he, rfl⟩; unfold faultE at he; subst he))
 exact ⟨rfl, rfl, HD.o.below b⟩
set_option maxHeartbeats 400000 in
theorem step_m59 (b : Nat) (s : ByteArray) (k line : Nat) (v : Value) (ts : List Tk) (w : World) (hsc : Sc w b s k line v ts) (hk : k < s.size) (hc : bAt s k = 59) :
  Calls Tryz.prog 115 #[.pointer (some ⟨b, 0, none⟩)] w fun e w' => e = .returned (.tuple #[]) /\ (∃ v', Sc w' b s (k + 1) line v' (ts ++ [⟨2, s.extract k (k + 1), line⟩])) /\ Below b w w' := by
 have hsm : isSmallB 59 = false := by decide
 have hdg : isDigitB 59 = false := by decide
 have hix := fun w => index_at (P := Tryz.prog) Tryz.underlying9 s k (k : Int) rfl hk w
 have hki : (k : Int) < (s.size : Int) := by omega
 have HS := hid hsc
 obtain ⟨c0, c1, c2, c3, fz, own, few, hat, ln, sz⟩ := hsc
 clear own few hat c3
 go_enter Tryz.func115, Tryz.ntmps115
 go_wp2_with fail
 go_big_quiet ((fail))
 go_wp2_with (first | (go_at_call 64; refine (isSmall_any _ _).mono ?_; rintro e w' ⟨rfl, rfl⟩; simp only [hsm]) | (go_at_call 110; refine (isDigit_any _ _).mono ?_; rintro e w' ⟨rfl, rfl⟩; simp only [hdg]) | (go_at_call 152; refine (stake_ok' b s k line v ts _ 2 1 1 _ _ _ (by exact HS.o.dr ⟨_, rfl⟩) (by omega) (by omega) (by omega) (by omega) (by rfl) (by rfl) (by rfl)).mono ?_; rintro e w2 ⟨rfl, ⟨v', hv⟩, hb⟩))
 go_end0
 exact ⟨rfl, ⟨v', hv⟩, (Dr.below ⟨nq, rfl⟩ b).trans hb⟩
set_option maxHeartbeats 400000 in
theorem step_m58 (b : Nat) (s : ByteArray) (k line : Nat) (v : Value) (ts : List Tk) (w : World) (hsc : Sc w b s k line v ts) (hk : k < s.size) (hc : bAt s k = 58) :
  Calls Tryz.prog 115 #[.pointer (some ⟨b, 0, none⟩)] w fun e w' => e = .returned (.tuple #[]) /\ (∃ v', Sc w' b s (k + 1) line v' (ts ++ [⟨2, s.extract k (k + 1), line⟩])) /\ Below b w w' := by
 have hsm : isSmallB 58 = false := by decide
 have hdg : isDigitB 58 = false := by decide
 have hix := fun w => index_at (P := Tryz.prog) Tryz.underlying9 s k (k : Int) rfl hk w
 have hki : (k : Int) < (s.size : Int) := by omega
 have HS := hid hsc
 obtain ⟨c0, c1, c2, c3, fz, own, few, hat, ln, sz⟩ := hsc
 clear own few hat c3
 go_enter Tryz.func115, Tryz.ntmps115
 go_wp2_with fail
 go_big_quiet ((fail))
 go_wp2_with (first | (go_at_call 64; refine (isSmall_any _ _).mono ?_; rintro e w' ⟨rfl, rfl⟩; simp only [hsm]) | (go_at_call 110; refine (isDigit_any _ _).mono ?_; rintro e w' ⟨rfl, rfl⟩; simp only [hdg]) | (go_at_call 152; refine (stake_ok' b s k line v ts _ 2 1 1 _ _ _ (by exact HS.o.dr ⟨_, rfl⟩) (by omega) (by omega) (by omega) (by omega) (by rfl) (by rfl) (by rfl)).mono ?_; rintro e w2 ⟨rfl, ⟨v', hv⟩, hb⟩))
 go_end0
 exact ⟨rfl, ⟨v', hv⟩, (Dr.below ⟨nq, rfl⟩ b).trans hb⟩
set_option maxHeartbeats 400000 in
theorem step_m44 (b : Nat) (s : ByteArray) (k line : Nat) (v : Value) (ts : List Tk) (w : World) (hsc : Sc w b s k line v ts) (hk : k < s.size) (hc : bAt s k = 44) :
  Calls Tryz.prog 115 #[.pointer (some ⟨b, 0, none⟩)] w fun e w' => e = .returned (.tuple #[]) /\ (∃ v', Sc w' b s (k + 1) line v' (ts ++ [⟨2, s.extract k (k + 1), line⟩])) /\ Below b w w' := by
 have hsm : isSmallB 44 = false := by decide
 have hdg : isDigitB 44 = false := by decide
 have hix := fun w => index_at (P := Tryz.prog) Tryz.underlying9 s k (k : Int) rfl hk w
 have hki : (k : Int) < (s.size : Int) := by omega
 have HS := hid hsc
 obtain ⟨c0, c1, c2, c3, fz, own, few, hat, ln, sz⟩ := hsc
 clear own few hat c3
 go_enter Tryz.func115, Tryz.ntmps115
 go_wp2_with fail
 go_big_quiet ((fail))
 go_wp2_with (first | (go_at_call 64; refine (isSmall_any _ _).mono ?_; rintro e w' ⟨rfl, rfl⟩; simp only [hsm]) | (go_at_call 110; refine (isDigit_any _ _).mono ?_; rintro e w' ⟨rfl, rfl⟩; simp only [hdg]) | (go_at_call 152; refine (stake_ok' b s k line v ts _ 2 1 1 _ _ _ (by exact HS.o.dr ⟨_, rfl⟩) (by omega) (by omega) (by omega) (by omega) (by rfl) (by rfl) (by rfl)).mono ?_; rintro e w2 ⟨rfl, ⟨v', hv⟩, hb⟩))
 go_end0
 exact ⟨rfl, ⟨v', hv⟩, (Dr.below ⟨nq, rfl⟩ b).trans hb⟩
set_option maxHeartbeats 400000 in
theorem step_dots (b : Nat) (s : ByteArray) (k line : Nat) (v : Value) (ts : List Tk) (w : World) (hsc : Sc w b s k line v ts) (hk : k < s.size) (n10 : (bAt s k == 10) = false) (n32 : (bAt s k == 32) = false) (n9 : (bAt s k == 9) = false) (n35 : (bAt s k == 35) = false) (n59 : (bAt s k == 59) = false) (n58 : (bAt s k == 58) = false) (n44 : (bAt s k == 44) = false) (hsm : isSmallB (bAt s k) = false) (hdg : isDigitB (bAt s k) = false) (h1 : two s k 46 46 = true) :
  Calls Tryz.prog 115 #[.pointer (some ⟨b, 0, none⟩)] w fun e w' => e = .returned (.tuple #[]) /\ (∃ v', Sc w' b s (k + 2) line v' (ts ++ [⟨2, s.extract k (k + 2), line⟩])) /\ Below b w w' := by
 have htwo := two_le h1
 have HA : Hid (∀ W, Dr w W -> Calls Tryz.prog 153 #[.pointer (some ⟨b, 0, none⟩), .string ⟨#[46, 46]⟩] W fun e w' => e = .returned (.bool true) /\ Dr W w') :=
  fun W hd => (ahead_any b s ⟨#[46, 46]⟩ k W (by have := hsc.sz; unfold maxLen; omega) (by unfold maxLen; decide) (by omega) (hsc.dr hd).c0 (hsc.dr hd).c1).mono fun e w' h => by rw [preB_two] at h; exact ⟨h.1.trans (by rw [show two s k ((46 : UInt8).toNat : Int) ((46 : UInt8).toNat : Int) = two s k 46 46 from rfl, h1]), h.2⟩
 clear h1
 have hix := fun w => index_at (P := Tryz.prog) Tryz.underlying9 s k (k : Int) rfl hk w
 have hki : (k : Int) < (s.size : Int) := by omega
 have HS := hid hsc
 obtain ⟨c0, c1, c2, c3, fz, own, few, hat, ln, sz⟩ := hsc
 clear own few hat c3
 go_enter Tryz.func115, Tryz.ntmps115
 go_wp2_with fail
 go_big_quiet ((fail))
 go_wp2_with (first | (go_at_call 64; refine (isSmall_any _ _).mono ?_; rintro e w' ⟨rfl, rfl⟩; simp only [hsm]) | (go_at_call 110; refine (isDigit_any _ _).mono ?_; rintro e w' ⟨rfl, rfl⟩; simp only [hdg]))
 refine (HA.o _ (by exact ⟨_, rfl⟩)).mono ?_
 rintro e w1 ⟨rfl, hd⟩
 have HD := hid ((Dr.refl w |>.next nq).trans hd)
 clear hd
 go_wp2_with (go_at_call 152; refine (stake_ok' b s k line v ts _ 2 2 2 _ _ _ (by exact HS.o.dr HD.o) (by omega) (by omega) htwo (by omega) (by rfl) (by rfl) (by rfl)).mono ?_; rintro e w3 ⟨rfl, ⟨v', hv⟩, hb⟩)
 go_end0
 exact ⟨rfl, ⟨v', hv⟩, (HD.o.below b).trans hb⟩
set_option maxHeartbeats 400000 in
theorem step_arrow (b : Nat) (s : ByteArray) (k line : Nat) (v : Value) (ts : List Tk) (w : World) (hsc : Sc w b s k line v ts) (hk : k < s.size) (n10 : (bAt s k == 10) = false) (n32 : (bAt s k == 32) = false) (n9 : (bAt s k == 9) = false) (n35 : (bAt s k == 35) = false) (n59 : (bAt s k == 59) = false) (n58 : (bAt s k == 58) = false) (n44 : (bAt s k == 44) = false) (hsm : isSmallB (bAt s k) = false) (hdg : isDigitB (bAt s k) = false) (h1 : two s k 46 46 = false) (h2 : two s k 45 62 = true) :
  Calls Tryz.prog 115 #[.pointer (some ⟨b, 0, none⟩)] w fun e w' => e = .returned (.tuple #[]) /\ (∃ v', Sc w' b s (k + 2) line v' (ts ++ [⟨2, s.extract k (k + 2), line⟩])) /\ Below b w w' := by
 have htwo := two_le h2
 have HA : Hid (∀ W, Dr w W -> Calls Tryz.prog 153 #[.pointer (some ⟨b, 0, none⟩), .string ⟨#[46, 46]⟩] W fun e w' => e = .returned (.bool false) /\ Dr W w') :=
  fun W hd => (ahead_any b s ⟨#[46, 46]⟩ k W (by have := hsc.sz; unfold maxLen; omega) (by unfold maxLen; decide) (by omega) (hsc.dr hd).c0 (hsc.dr hd).c1).mono fun e w' h => by rw [preB_two] at h; exact ⟨h.1.trans (by rw [show two s k ((46 : UInt8).toNat : Int) ((46 : UInt8).toNat : Int) = two s k 46 46 from rfl, h1]), h.2⟩
 have HB : Hid (∀ W, Dr w W -> Calls Tryz.prog 153 #[.pointer (some ⟨b, 0, none⟩), .string ⟨#[45, 62]⟩] W fun e w' => e = .returned (.bool true) /\ Dr W w') :=
  fun W hd => (ahead_any b s ⟨#[45, 62]⟩ k W (by have := hsc.sz; unfold maxLen; omega) (by unfold maxLen; decide) (by omega) (hsc.dr hd).c0 (hsc.dr hd).c1).mono fun e w' h => by rw [preB_two] at h; exact ⟨h.1.trans (by rw [show two s k ((45 : UInt8).toNat : Int) ((62 : UInt8).toNat : Int) = two s k 45 62 from rfl, h2]), h.2⟩
 clear h1 h2
 have hix := fun w => index_at (P := Tryz.prog) Tryz.underlying9 s k (k : Int) rfl hk w
 have hki : (k : Int) < (s.size : Int) := by omega
 have HS := hid hsc
 obtain ⟨c0, c1, c2, c3, fz, own, few, hat, ln, sz⟩ := hsc
 clear own few hat c3
 go_enter Tryz.func115, Tryz.ntmps115
 go_wp2_with fail
 go_big_quiet ((fail))
 go_wp2_with (first | (go_at_call 64; refine (isSmall_any _ _).mono ?_; rintro e w' ⟨rfl, rfl⟩; simp only [hsm]) | (go_at_call 110; refine (isDigit_any _ _).mono ?_; rintro e w' ⟨rfl, rfl⟩; simp only [hdg]))
 refine (HA.o _ (by exact ⟨_, rfl⟩)).mono ?_
 rintro e w1 ⟨rfl, hd⟩
 have HD := hid ((Dr.refl w |>.next nq).trans hd)
 clear hd
 go_wp2_with fail
 refine (HB.o _ (by exact HD.o)).mono ?_
 rintro e w2 ⟨rfl, hd⟩
 have HE := hid (HD.o.trans hd)
 clear hd
 go_wp2_with (go_at_call 152; refine (stake_ok' b s k line v ts _ 2 2 2 _ _ _ (by exact HS.o.dr HE.o) (by omega) (by omega) htwo (by omega) (by rfl) (by rfl) (by rfl)).mono ?_; rintro e w3 ⟨rfl, ⟨v', hv⟩, hb⟩)
 go_end0
 exact ⟨rfl, ⟨v', hv⟩, (HE.o.below b).trans hb⟩
set_option maxHeartbeats 400000 in
theorem step_none (b : Nat) (s : ByteArray) (k line : Nat) (v : Value) (ts : List Tk) (w : World) (hsc : Sc w b s k line v ts) (hk : k < s.size) (n10 : (bAt s k == 10) = false) (n32 : (bAt s k == 32) = false) (n9 : (bAt s k == 9) = false) (n35 : (bAt s k == 35) = false) (n59 : (bAt s k == 59) = false) (n58 : (bAt s k == 58) = false) (n44 : (bAt s k == 44) = false) (hsm : isSmallB (bAt s k) = false) (hdg : isDigitB (bAt s k) = false) (h1 : two s k 46 46 = false) (h2 : two s k 45 62 = false) :
  Calls Tryz.prog 115 #[.pointer (some ⟨b, 0, none⟩)] w fun e w' => e = faultE 2 line /\ Below b w w' := by
 have HA : Hid (∀ W, Dr w W -> Calls Tryz.prog 153 #[.pointer (some ⟨b, 0, none⟩), .string ⟨#[46, 46]⟩] W fun e w' => e = .returned (.bool false) /\ Dr W w') :=
  fun W hd => (ahead_any b s ⟨#[46, 46]⟩ k W (by have := hsc.sz; unfold maxLen; omega) (by unfold maxLen; decide) (by omega) (hsc.dr hd).c0 (hsc.dr hd).c1).mono fun e w' h => by rw [preB_two] at h; exact ⟨h.1.trans (by rw [show two s k ((46 : UInt8).toNat : Int) ((46 : UInt8).toNat : Int) = two s k 46 46 from rfl, h1]), h.2⟩
 have HB : Hid (∀ W, Dr w W -> Calls Tryz.prog 153 #[.pointer (some ⟨b, 0, none⟩), .string ⟨#[45, 62]⟩] W fun e w' => e = .returned (.bool false) /\ Dr W w') :=
  fun W hd => (ahead_any b s ⟨#[45, 62]⟩ k W (by have := hsc.sz; unfold maxLen; omega) (by unfold maxLen; decide) (by omega) (hsc.dr hd).c0 (hsc.dr hd).c1).mono fun e w' h => by rw [preB_two] at h; exact ⟨h.1.trans (by rw [show two s k ((45 : UInt8).toNat : Int) ((62 : UInt8).toNat : Int) = two s k 45 62 from rfl, h2]), h.2⟩
 clear h1 h2
 have hix := fun w => index_at (P := Tryz.prog) Tryz.underlying9 s k (k : Int) rfl hk w
 have hki : (k : Int) < (s.size : Int) := by omega
 have HS := hid hsc
 obtain ⟨c0, c1, c2, c3, fz, own, few, hat, ln, sz⟩ := hsc
 clear own few hat c3
 go_enter Tryz.func115, Tryz.ntmps115
 go_wp2_with fail
 go_big_quiet ((fail))
 go_wp2_with (first | (go_at_call 64; refine (isSmall_any _ _).mono ?_; rintro e w' ⟨rfl, rfl⟩; simp only [hsm]) | (go_at_call 110; refine (isDigit_any _ _).mono ?_; rintro e w' ⟨rfl, rfl⟩; simp only [hdg]))
 refine (HA.o _ (by exact ⟨_, rfl⟩)).mono ?_
 rintro e w1 ⟨rfl, hd⟩
 have HD := hid ((Dr.refl w |>.next nq).trans hd)
 clear hd
 go_wp2_with fail
 refine (HB.o _ (by exact HD.o)).mono ?_
 rintro e w2 ⟨rfl, hd⟩
 have HE := hid (HD.o.trans hd)
 clear hd
 have e2 := (HS.o.dr HE.o).c2
 go_wp2
 exact ⟨rfl, rfl, HE.o.below b⟩
end Go.Proofs.YtccikgogjfbpeabGreatDoor

namespace Go.Proofs.YtccikgogjfbpeabGreatDoor
open Go.RowKit
theorem stepped_skip {w : World} {b : Nat} {s : ByteArray} {k line k' l' : Nat} {ts : List Tk} (hL : lexStep s k line = .skip k' l') {e : Ending} {w' : World}
  (h : e = .returned (.tuple #[]) /\ (∃ v', Sc w' b s k' l' v' ts) /\ Below b w w') : Stepped w b s k line ts e w' := by
 unfold Stepped; rw [hL]; exact h
theorem stepped_tok {w : World} {b : Nat} {s : ByteArray} {k line k' : Nat} {t : Tk} {ts : List Tk} (hL : lexStep s k line = .tok t k') {e : Ending} {w' : World}
  (h : e = .returned (.tuple #[]) /\ (∃ v', Sc w' b s k' line v' (ts ++ [t])) /\ Below b w w') : Stepped w b s k line ts e w' := by
 unfold Stepped; rw [hL]; exact h
theorem stepped_bad {w : World} {b : Nat} {s : ByteArray} {k line : Nat} {ts : List Tk} (hL : lexStep s k line = .bad) {e : Ending} {w' : World}
  (h : e = faultE 2 line /\ Below b w w') : Stepped w b s k line ts e w' := by
 unfold Stepped; rw [hL]; exact h
theorem step_any (b : Nat) (s : ByteArray) (k line : Nat) (v : Value) (ts : List Tk) (w : World) (hsc : Sc w b s k line v ts) (hk : k < s.size) :
  Calls Tryz.prog 115 #[.pointer (some ⟨b, 0, none⟩)] w (Stepped w b s k line ts) := by
 by_cases h10 : bAt s k = 10
 ·exact (step_nl b s k line v ts w hsc hk h10).mono fun e w' h => stepped_skip (by simp [lexStep, h10]) h
 by_cases h32 : bAt s k = 32
 ·exact (step_sp b s k line v ts w hsc hk h32).mono fun e w' h => stepped_skip (by simp [lexStep, h32]) h
 by_cases h9 : bAt s k = 9
 ·exact (step_tab b s k line v ts w hsc hk h9).mono fun e w' h => stepped_skip (by simp [lexStep, h9]) h
 by_cases h35 : bAt s k = 35
 ·exact (step_remark b s k line v ts w hsc hk h35).mono fun e w' h => stepped_skip (by simp [lexStep, h35]) h
 have hn : ¬ (bAt s k = 32 \/ bAt s k = 9) := by omega
 cases hsm : isSmallB (bAt s k) with
 | true =>
  cases hkw : isKwB (s.extract k (k + runAt inWordB s k)) with
  | true => exact (step_wkw b s k line v ts w hsc hk hsm hkw).mono fun e w' h => stepped_tok (by simp [lexStep, h10, hn, h35, hsm, hkw]) h
  | false =>
   by_cases h8 : 8 < runAt inWordB s k
   ·exact (step_wbad b s k line v ts w hsc hk hsm hkw h8).mono fun e w' h => stepped_bad (by simp [lexStep, h10, hn, h35, hsm, hkw, h8]) h
   ·exact (step_wname b s k line v ts w hsc hk hsm hkw (by omega)).mono fun e w' h => stepped_tok (by simp [lexStep, h10, hn, h35, hsm, hkw, h8]) h
 | false =>
  cases hdg : isDigitB (bAt s k) with
  | true =>
   by_cases h9' : 9 < runAt isDigitB s k
   ·exact (step_dbad b s k line v ts w hsc hk hdg h9').mono fun e w' h => stepped_bad (by simp [lexStep, h10, hn, h35, hsm, hdg, h9']) h
   ·exact (step_digits b s k line v ts w hsc hk hdg (by omega)).mono fun e w' h => stepped_tok (by simp [lexStep, h10, hn, h35, hsm, hdg, h9']) h
  | false =>
   by_cases h59 : bAt s k = 59
   ·exact (step_m59 b s k line v ts w hsc hk h59).mono fun e w' h => stepped_tok (by simp [lexStep, h59, isSmallB, isDigitB]) h
   by_cases h58 : bAt s k = 58
   ·exact (step_m58 b s k line v ts w hsc hk h58).mono fun e w' h => stepped_tok (by simp [lexStep, h58, isSmallB, isDigitB]) h
   by_cases h44 : bAt s k = 44
   ·exact (step_m44 b s k line v ts w hsc hk h44).mono fun e w' h => stepped_tok (by simp [lexStep, h44, isSmallB, isDigitB]) h
   have hm : ¬ (bAt s k = 59 \/ bAt s k = 58 \/ bAt s k = 44) := by omega
   have f : ∀ c : Int, ¬ bAt s k = c -> (bAt s k == c) = false := fun c h => by simp [h]
   cases h1 : two s k 46 46 with
   | true => exact (step_dots b s k line v ts w hsc hk (f _ h10) (f _ h32) (f _ h9) (f _ h35) (f _ h59) (f _ h58) (f _ h44) hsm hdg h1).mono fun e w' h => stepped_tok (by simp [lexStep, h10, hn, h35, hsm, hdg, hm, h1]) h
   | false =>
    cases h2 : two s k 45 62 with
    | true => exact (step_arrow b s k line v ts w hsc hk (f _ h10) (f _ h32) (f _ h9) (f _ h35) (f _ h59) (f _ h58) (f _ h44) hsm hdg h1 h2).mono fun e w' h => stepped_tok (by simp [lexStep, h10, hn, h35, hsm, hdg, hm, h1, h2]) h
    | false => exact (step_none b s k line v ts w hsc hk (f _ h10) (f _ h32) (f _ h9) (f _ h35) (f _ h59) (f _ h58) (f _ h44) hsm hdg h1 h2).mono fun e w' h => stepped_bad (by simp [lexStep, h10, hn, h35, hsm, hdg, hm, h1, h2]) h
def Scanned (w : World) (s : ByteArray) (e : Ending) (w' : World) : Prop :=
 match lexFrom s 0 1 [] with
 | .ok ts => (∃ v, e = .returned v /\ w'.ownsRow w.heap.size 207 3 v ts.length (tkRow ts) /\ ts.length <= s.size + 1) /\ Below w.heap.size w w'
 | .error l => e = faultE 2 l /\ Below w.heap.size w w'
theorem lexFrom_skip {s : ByteArray} {k line k' l' : Nat} {ts : List Tk} (hk : k < s.size) (hL : lexStep s k line = .skip k' l') : lexFrom s k line ts = lexFrom s k' l' ts := by
 rw [lexFrom, dif_pos hk]
 split <;> simp_all
theorem lexFrom_tok {s : ByteArray} {k line k' : Nat} {t : Tk} {ts : List Tk} (hk : k < s.size) (hL : lexStep s k line = .tok t k') : lexFrom s k line ts = lexFrom s k' line (ts ++ [t]) := by
 rw [lexFrom, dif_pos hk]
 split <;> simp_all
theorem lexFrom_bad {s : ByteArray} {k line : Nat} {ts : List Tk} (hk : k < s.size) (hL : lexStep s k line = .bad) : lexFrom s k line ts = .error line := by
 rw [lexFrom, dif_pos hk]
 split <;> simp_all
theorem lexFrom_end {s : ByteArray} {k line : Nat} {ts : List Tk} (hk : ¬ k < s.size) : lexFrom s k line ts = .ok (ts ++ [⟨3, ByteArray.empty, line⟩]) := by
 rw [lexFrom, dif_neg hk]
theorem sc_new (w : World) (s : ByteArray) (hs : s.size <= 3000) : Sc (w.alloc (.cells #[.string s, .int .i64 0, .int .i64 1, .slice none 0 0] 212)) w.heap.size s 0 1 (.slice none 0 0) [] := by
 refine ⟨?_, ?_, ?_, ?_, ?_, World.ownsRow_nil _ _ _ _, by simp, by simp, by simp, hs⟩
 all_goals simp [go_sem]
set_option maxHeartbeats 1000000 in
theorem scan_any (s : ByteArray) (w : World) (hs : s.size <= 3000) : Calls Tryz.prog 76 #[.string s] w (Scanned w s) := by
  obtain ⟨i, hi, hz0, hz1, hz2⟩ := info_parts Tryz.infoToken
  go_enter Tryz.func76, Tryz.ntmps76
  go_wp2
  go_loopg [18] s.size (fun m _ wr => ∃ k line v ts, m = s.size - k /\ Hid (Sc wr w.heap.size s k line v ts) /\ Hid (Below w.heap.size w wr) /\ Hid (lexFrom s 0 1 [] = lexFrom s k line ts))
  case atStart => exact ⟨0, 1, .slice none 0 0, [], rfl, sc_new w s hs, (Below.refl _ _).alloc (Nat.le_refl _) _, rfl⟩
  case round =>
    obtain ⟨k, line, v, ts, rfl, HS, HB, HL⟩ := hrel
    have c0 := HS.o.c0
    have c1 := HS.o.c1
    by_cases hlt : k < s.size
    · have hd : decide ((k : Int) < (s.size : Int)) = true := by simp; omega
      go_wp2_with fail
      go_big_quiet ((fail))
      go_wp2_with fail
      have HN := hid (HB.o.trans (Dr.below ⟨nq, rfl⟩ _))
      refine (step_any w.heap.size s k line v ts _ (HS.o.dr ⟨nq, rfl⟩) hlt).mono ?_
      intro e w2 h
      cases hL : lexStep s k line with
      | skip k' l' =>
        unfold Stepped at h
        rw [hL] at h
        obtain ⟨rfl, ⟨v', hv⟩, hb⟩ := h
        have hs' := lexStep_skip hlt hL
        go_wp2
        go_roundg (s.size - k')
        case measure => omega
        case rel => exact ⟨k', l', v', ts, rfl, hv, HN.o.trans hb, HL.o.trans (lexFrom_skip hlt hL)⟩
      | tok t k' =>
        unfold Stepped at h
        rw [hL] at h
        obtain ⟨rfl, ⟨v', hv⟩, hb⟩ := h
        have hs' := lexStep_tok hlt hL
        go_wp2
        go_roundg (s.size - k')
        case measure => omega
        case rel => exact ⟨k', line, v', ts ++ [t], rfl, hv, HN.o.trans hb, HL.o.trans (lexFrom_tok hlt hL)⟩
      | bad =>
        unfold Stepped at h
        rw [hL] at h
        obtain ⟨he, hb⟩ := h
        unfold faultE at he
        subst he
        have hfin : Scanned w s (faultE 2 line) w2 := by
          unfold Scanned
          rw [HL.o.trans (lexFrom_bad hlt hL)]
          exact ⟨rfl, HN.o.trans hb⟩
        exact ⟨rfl, hfin⟩
    · have hd : decide ((k : Int) < (s.size : Int)) = false := by simp; omega
      go_wp2_with fail
      go_big_quiet ((fail))
      go_wp2_with fail
      have hS2 := HS.o.dr (w' := wr.drewN nq) ⟨nq, rfl⟩
      have HN := hid (HB.o.trans (Dr.below ⟨nq, rfl⟩ _))
      clear c0 c1 HB HS
      generalize wr.drewN nq = wx at *
      obtain ⟨c0, c1, c2, c3, fz, own, few, hat, ln, sz⟩ := hS2
      clear c0 c1 fz
      have hbx : w.heap.size < wx.heap.size := World.block_lt_of_cell? wx _ c2
      go_region_held3 (fun w' => w'.cell? ⟨w.heap.size, 2, none⟩ = some (.int .i64 line) /\ w'.cell? ⟨w.heap.size, 3, none⟩ = some v) (go_keep)
        ((refine step_append_lies _ rfl (.tmp 22) (.tmp 28) 151 rfl (w.heap.size + 1) 207 i _ 3 32 Tryz.underlying151 hi hz0 hz1 hz2 rfl (by decide) v ts.length (tkRow ts) rfl (by exact (own.alloc _).drew) ⟨wx.heap.size, 0, none⟩ 1 1 [.int .i64 3, .string ByteArray.empty, .int .i64 line] rfl rfl (by exact World.news_of_block (heap_alloc_new wx _)) (by simp [Value.oneCell']) (by decide) (by unfold maxLen; omega) (by omega) (by simp; omega) _ rfl (fun g cap w1 hown hgrow _ _ => ?_)
          obtain ⟨hc, _, hbe⟩ := sc_append own hbx ((Below.refl _ _).alloc (Nat.le_refl _) _).drew hgrow
          have d2 := (hc 2).trans c2
          have d3 := (hc 3).trans c3
          have HO := hid hown
          have HE := hid hbe
          clear hc hgrow hown hbe))
      go_wp2
      go_ret
      unfold Scanned
      rw [HL.o.trans (lexFrom_end hlt)]
      refine ⟨⟨_, rfl, ?_, by simp; omega⟩, HN.o.trans HE.o⟩
      have hO := HO.o
      rw [tkRow_snoc, List.length_append]
      exact ⟨hO.1, hO.2.imp id (fun ⟨g, cap, cur, h1, h2, h3⟩ => ⟨g, cap, cur, h1, by omega, h3⟩)⟩
end Go.Proofs.YtccikgogjfbpeabGreatDoor

namespace Go.Proofs.YtccikgogjfbpeabGreatDoor
open Go.RowKit
structure Fr (S : Nat -> Prop) (w w' : World) : Prop where
 os : w'.os = w.os
 tape : w'.tape = w.tape
 output : w'.output = w.output
 size : w.heap.size <= w'.heap.size
 block : ∀ k, k < w.heap.size -> ¬ S k -> w'.heap[k]? = w.heap[k]?
abbrev F0 : World -> World -> Prop := Fr (fun (_ : Nat) => False)
theorem Fr.refl (S : Nat -> Prop) (w : World) : Fr S w w := ⟨rfl, rfl, rfl, Nat.le_refl _, fun _ _ _ => rfl⟩
theorem Fr.trans {S : Nat -> Prop} {a b c : World} (h : Fr S a b) (k : Fr S b c) : Fr S a c :=
 ⟨k.os.trans h.os, k.tape.trans h.tape, k.output.trans h.output, Nat.le_trans h.size k.size, fun i hi hn => (k.block i (Nat.lt_of_lt_of_le hi h.size) hn).trans (h.block i hi hn)⟩
theorem Fr.mono {S T : Nat -> Prop} {w w' : World} (h : Fr S w w') (hST : ∀ k, S k -> T k) : Fr T w w' := ⟨h.os, h.tape, h.output, h.size, fun k hk hn => h.block k hk fun hs => hn (hST k hs)⟩
theorem Fr.monoNew {S T : Nat -> Prop} {a w w' : World} (h : Fr S a w) (k : Fr T w w') (hT : ∀ i, T i -> S i \/ a.heap.size <= i) : Fr S a w' :=
 ⟨k.os.trans h.os, k.tape.trans h.tape, k.output.trans h.output, Nat.le_trans h.size k.size, fun i hi hn =>
  (k.block i (Nat.lt_of_lt_of_le hi h.size) fun ht => (hT i ht).elim hn (fun hh => by omega)).trans (h.block i hi hn)⟩
theorem Fr.of_below {S : Nat -> Prop} {w w' : World} (h : Below w.heap.size w w') : Fr S w w' := ⟨h.os, h.tape, h.output, h.size, fun k hk _ => h.block k hk⟩
theorem Fr.alloc {S : Nat -> Prop} {a w : World} (h : Fr S a w) (o : Obj) : Fr S a (w.alloc o) :=
 h.trans (Fr.of_below ((Below.refl _ _).alloc (Nat.le_refl _) o))
theorem Fr.drew {S : Nat -> Prop} {a w : World} (h : Fr S a w) : Fr S a w.drew := h.trans ⟨rfl, rfl, rfl, Nat.le_refl _, fun _ _ _ => rfl⟩
theorem Fr.setCell {S : Nat -> Prop} {a w : World} (h : Fr S a w) {p : Addr} (hp : S p.block \/ a.heap.size <= p.block) (u : Value) : Fr S a (w.setCell p u) :=
 ⟨h.os, h.tape, h.output, by simpa using h.size, fun k hk hn => by
  rw [Below.heap_setCell _ _ _ _ (fun e => by subst e; exact hp.elim hn (fun hh => by omega))]
  exact h.block k hk hn⟩
theorem Fr.cell {S : Nat -> Prop} {w w' : World} (h : Fr S w w') {p : Addr} (hp : p.block < w.heap.size) (hn : ¬ S p.block) : w'.cell? p = w.cell? p := World.cell?_of_block (w := w) (h.block p.block hp hn)
theorem Fr.frozen {S : Nat -> Prop} {w w' : World} (h : Fr S w w') {p : Addr} (hp : p.block < w.heap.size) (hn : ¬ S p.block) : w'.frozen? p = w.frozen? p := World.frozen?_of_block (w := w) (h.block p.block hp hn)
theorem Fr.below {S : Nat -> Prop} {w w' : World} (h : Fr S w w') {B : Nat} (hB : B <= w.heap.size) (hS : ∀ k, S k -> B <= k) : Below B w w' :=
 ⟨h.os, h.tape, h.output, h.size, fun k hk => h.block k (by omega) fun hs => by have := hS k hs; omega⟩
def tkV (t : Tk) : Value := .agg #[.int .i64 t.sort, .string t.text, .int .i64 t.line]
structure Pa (w : World) (p g cap : Nat) (ts : List Tk) (i : Nat) : Prop where
 c0 : w.cell? ⟨p, 0, none⟩ = some (.slice (some ⟨g, 0, none⟩) ts.length cap)
 c1 : w.cell? ⟨p, 1, none⟩ = some (.int .i64 i)
 fz : ∀ o, w.frozen? ⟨p, o, none⟩ = false
 row : ∀ j t, ts[j]? = some t -> w.cell? ⟨g, j * 3, none⟩ = some (.int .i64 t.sort) /\ w.cell? ⟨g, j * 3 + 1, none⟩ = some (.string t.text) /\ w.cell? ⟨g, j * 3 + 2, none⟩ = some (.int .i64 t.line)
 ne : g ≠ p
 gl : g < w.heap.size
 lt : i < ts.length
 few : ts.length <= 4000
 last : (ts.getLastD ⟨3, ByteArray.empty, 0⟩).sort = 3
set_option maxHeartbeats 400000 in
theorem here_any (w : World) (p g cap : Nat) (ts : List Tk) (i : Nat) (t : Tk) (h : Pa w p g cap ts i) (ht : ts[i]? = some t) :
  Calls Tryz.prog 112 #[.pointer (some ⟨p, 0, none⟩)] w fun e w' => e = .returned (tkV t) /\ Fr (fun _ => False) w w' := by
 obtain ⟨c0, c1, fz, row, ne, gl, lt, few, last⟩ := h
 obtain ⟨r0, r1, r2⟩ := row i t ht
 have hpl : p < w.heap.size := World.block_lt_of_cell? w _ c0
 have h1 : (i : Int) < (ts.length : Int) := by omega
 clear row last
 go_enter Tryz.func112, Tryz.ntmps112
 go_wp2_with fail
 go_region_held3 (fun w' => w'.cell? ⟨p, 0, none⟩ = some (.slice (some ⟨g, 0, none⟩) ts.length cap) /\ w'.cell? ⟨p, 1, none⟩ = some (.int .i64 i) /\ w'.cell? ⟨g, i * 3, none⟩ = some (.int .i64 t.sort) /\ w'.cell? ⟨g, i * 3 + 1, none⟩ = some (.string t.text) /\ w'.cell? ⟨g, i * 3 + 2, none⟩ = some (.int .i64 t.line)) (go_keep) (fail)
 go_wp2
 exact bodyPost_ret (v := tkV t) (by simp [results, Tryz.results112, go_sem, tkV]) rfl ⟨rfl, ((Fr.refl _ _).alloc _).drew⟩
theorem Pa.fr {w w' : World} {p g cap : Nat} {ts : List Tk} {i : Nat} {S : Nat -> Prop} (h : Pa w p g cap ts i) (hf : Fr S w w') (hS : ∀ k, S k -> k ≠ p /\ k ≠ g) : Pa w' p g cap ts i := by
 obtain ⟨c0, c1, fz, row, ne, gl, lt, few, last⟩ := h
 have hpl : p < w.heap.size := World.block_lt_of_cell? w _ c0
 have hp : ¬ S p := fun e => (hS p e).1 rfl
 have hg : ¬ S g := fun e => (hS g e).2 rfl
 refine ⟨?_, ?_, fun o => ?_, fun j t hj => ?_, ne, Nat.lt_of_lt_of_le gl hf.size, lt, few, last⟩
 ·rw [hf.cell (p := ⟨p, 0, none⟩) hpl hp]; exact c0
 ·rw [hf.cell (p := ⟨p, 1, none⟩) hpl hp]; exact c1
 ·rw [hf.frozen (p := ⟨p, o, none⟩) hpl hp]; exact fz o
 ·obtain ⟨a, b, c⟩ := row j t hj
  rw [hf.cell (p := ⟨g, j * 3, none⟩) gl hg, hf.cell (p := ⟨g, j * 3 + 1, none⟩) gl hg, hf.cell (p := ⟨g, j * 3 + 2, none⟩) gl hg]
  exact ⟨a, b, c⟩
theorem Pa.next {w : World} {p g cap : Nat} {ts : List Tk} {i : Nat} {t : Tk} (h : Pa w p g cap ts i) (ht : ts[i]? = some t) (hs : t.sort ≠ 3) :
  Pa (w.setCell ⟨p, 1, none⟩ (.int .i64 (i + 1 : Nat))) p g cap ts (i + 1) := by
 obtain ⟨c0, c1, fz, row, ne, gl, lt, few, last⟩ := h
 refine ⟨?_, ?_, fun o => by simp [fz o], fun j t hj => ?_, ne, by simpa using gl, ?_, few, last⟩
 ·rw [World.cell?_setCell_other _ _ _ _ (by simp)]; exact c0
 ·exact World.cell?_setCell_same _ _ _ c1
 ·have hn : ∀ o, (⟨p, 1, none⟩ : Addr) ≠ ⟨g, o, none⟩ := fun o e => ne (by injection e with e1; exact e1.symm)
  rw [World.cell?_setCell_other _ _ _ _ (hn _), World.cell?_setCell_other _ _ _ _ (hn _), World.cell?_setCell_other _ _ _ _ (hn _)]
  exact row j t hj
 ·rcases Nat.lt_or_ge (i + 1) ts.length with h' | h'
  ·exact h'
  ·exfalso
   apply hs
   have e : i = ts.length - 1 := by omega
   rw [List.getLastD_eq_getLast?, List.getLast?_eq_getElem?, <- e, ht] at last
   exact last
set_option maxHeartbeats 400000 in
theorem skip_yes (w : World) (p g cap : Nat) (ts : List Tk) (i : Nat) (t : Tk) (m : ByteArray) (h : Pa w p g cap ts i) (ht : ts[i]? = some t) (hq : isFix t m = true) :
  Calls Tryz.prog 145 #[.pointer (some ⟨p, 0, none⟩), .string m] w fun e w' => e = .returned (.bool true) /\ Pa w' p g cap ts (i + 1) /\ Fr (fun k => k = p) w w' := by
 unfold isFix at hq
 rw [Bool.and_eq_true, decide_eq_true_eq] at hq
 obtain ⟨hs, hm⟩ := hq
 have HP := hid h
 have hpl : p < w.heap.size := World.block_lt_of_cell? w _ h.c0
 have hi : i <= 4000 := by have := h.lt; have := h.few; omega
 have HH := hid (here_any w p g cap ts i t h ht)
 clear h
 go_enter Tryz.func145, Tryz.ntmps145
 go_wp2_with fail
 refine HH.o.mono ?_
 rintro e w1 ⟨rfl, hf⟩
 have c1 := (HP.o.fr hf (by simp)).c1
 have fz := (HP.o.fr hf (by simp)).fz
 have hp1 : p < w1.heap.size := Nat.lt_of_lt_of_le hpl hf.size
 have HF := hid hf
 clear hf
 simp only [tkV]
 simp only [hs]
 go_wp2
 go_ret
 have hn := ((HP.o.fr HF.o (by simp)).next ht (by omega)).fr (S := fun _ => False) ((Fr.refl _ _).alloc (.cells #[.int .i64 2, .string t.text, .int .i64 t.line] 207)) (by simp)
 rw [Int.natCast_add] at hn
 exact ⟨rfl, hn, ((HF.o.mono (T := fun k => k = p) (by simp)).setCell (Or.inl rfl) _).alloc _⟩
set_option maxHeartbeats 400000 in
theorem skip_no (w : World) (p g cap : Nat) (ts : List Tk) (i : Nat) (t : Tk) (m : ByteArray) (h : Pa w p g cap ts i) (ht : ts[i]? = some t) (hq : isFix t m = false) :
  Calls Tryz.prog 145 #[.pointer (some ⟨p, 0, none⟩), .string m] w fun e w' => e = .returned (.bool false) /\ Fr (fun _ => False) w w' := by
 unfold isFix at hq
 by_cases hs : t.sort = 2
 ·have hm : (t.text.toList == m.toList) = false := by simpa [hs] using hq
  clear hq
  have HP := hid h
  have hpl : p < w.heap.size := World.block_lt_of_cell? w _ h.c0
  have hi : i <= 4000 := by have := h.lt; have := h.few; omega
  have HH := hid (here_any w p g cap ts i t h ht)
  clear h
  go_enter Tryz.func145, Tryz.ntmps145
  go_wp2_with fail
  refine HH.o.mono ?_
  rintro e w1 ⟨rfl, hf⟩
  have c1 := (HP.o.fr hf (by simp)).c1
  have fz := (HP.o.fr hf (by simp)).fz
  have hp1 : p < w1.heap.size := Nat.lt_of_lt_of_le hpl hf.size
  have HF := hid hf
  clear hf
  simp only [tkV]
  simp only [hs]
  go_wp2
  go_ret
  exact ⟨rfl, HF.o.alloc _⟩
 ·have hm : ((t.sort : Int) != 2) = true := by simp; omega
  clear hq hs
  have HP := hid h
  have hpl : p < w.heap.size := World.block_lt_of_cell? w _ h.c0
  have hi : i <= 4000 := by have := h.lt; have := h.few; omega
  have HH := hid (here_any w p g cap ts i t h ht)
  clear h
  go_enter Tryz.func145, Tryz.ntmps145
  go_wp2_with fail
  refine HH.o.mono ?_
  rintro e w1 ⟨rfl, hf⟩
  have c1 := (HP.o.fr hf (by simp)).c1
  have fz := (HP.o.fr hf (by simp)).fz
  have hp1 : p < w1.heap.size := Nat.lt_of_lt_of_le hpl hf.size
  have HF := hid hf
  clear hf
  simp only [tkV]
  go_wp2
  go_ret
  exact ⟨rfl, HF.o.alloc _⟩
set_option maxHeartbeats 400000 in
theorem giveUp_any (t : Tk) (kind : Nat) (i1 : Int) (w : World) (e1 : i1 = kind) :
  Calls Tryz.prog 148 #[tkV t, .int .i64 i1] w fun e w' => e = faultE kind t.line /\ Fr (fun _ => False) w w' := by
 subst e1
 unfold tkV
 go_enter Tryz.func148, Tryz.ntmps148
 go_wp2
 exact ⟨rfl, rfl, (Fr.refl _ _).alloc _⟩
set_option maxHeartbeats 400000 in
theorem expect_yes (w : World) (p g cap : Nat) (ts : List Tk) (i : Nat) (t : Tk) (m : ByteArray) (h : Pa w p g cap ts i) (ht : ts[i]? = some t) (hq : isFix t m = true) :
  Calls Tryz.prog 114 #[.pointer (some ⟨p, 0, none⟩), .string m] w fun e w' => e = .returned (.tuple #[]) /\ Pa w' p g cap ts (i + 1) /\ Fr (fun k => k = p) w w' := by
 go_enter Tryz.func114, Tryz.ntmps114
 go_wp2_with (go_at_call 145; refine (skip_yes w p g cap ts i t m h ht hq).mono ?_; rintro e w1 ⟨rfl, hp, hf⟩)
 go_end0
 exact ⟨rfl, hp, hf⟩
set_option maxHeartbeats 400000 in
theorem expect_no (w : World) (p g cap : Nat) (ts : List Tk) (i : Nat) (t : Tk) (m : ByteArray) (h : Pa w p g cap ts i) (ht : ts[i]? = some t) (hq : isFix t m = false) :
  Calls Tryz.prog 114 #[.pointer (some ⟨p, 0, none⟩), .string m] w fun e w' => e = faultE 3 t.line /\ Fr (fun _ => False) w w' := by
 have HP := hid h
 clear h
 go_enter Tryz.func114, Tryz.ntmps114
 go_wp2_with (go_at_call 145; refine (skip_no w p g cap ts i t m HP.o ht hq).mono ?_; rintro e w1 ⟨rfl, hf⟩; have HF : Hid (Fr (fun _ => False) w w1) := hf; clear hf)
 refine (here_any _ p g cap ts i t (HP.o.fr HF.o (by simp)) ht).mono ?_
 rintro e w2 ⟨rfl, hf⟩
 have HG := hid (HF.o.trans hf)
 clear hf
 go_wp2_with fail
 refine (giveUp_any t 3 _ _ (by rfl)).mono ?_
 rintro e w3 ⟨he, hf⟩
 unfold faultE at he
 subst he
 exact ⟨rfl, rfl, HG.o.trans hf⟩
set_option maxHeartbeats 400000 in
theorem take_yes (w : World) (p g cap : Nat) (ts : List Tk) (i : Nat) (t : Tk) (want : Nat) (i1 : Int) (h : Pa w p g cap ts i) (ht : ts[i]? = some t) (hs : t.sort = want) (hw : want ≠ 3) (e1 : i1 = want) :
    Calls Tryz.prog 187 #[.pointer (some ⟨p, 0, none⟩), .int .i64 i1] w fun e w' => e = .returned (tkV t) /\ Pa w' p g cap ts (i + 1) /\ Fr (fun k => k = p) w w' := by
  subst e1
  have HP := hid h
  have hpl : p < w.heap.size := World.block_lt_of_cell? w _ h.c0
  have hi : i <= 4000 := by have := h.lt; have := h.few; omega
  have HH := hid (here_any w p g cap ts i t h ht)
  clear h
  go_enter Tryz.func187, Tryz.ntmps187
  go_wp2_with fail
  refine (here_any _ p g cap ts i t (HP.o.fr (S := fun _ => False) ((Fr.refl _ _).alloc _) (by simp)) ht).mono ?_
  rintro e w1 ⟨rfl, hf⟩
  have HF := hid (((Fr.refl _ _).alloc _).trans hf)
  have c1 := (HP.o.fr HF.o (by simp)).c1
  have fz := (HP.o.fr HF.o (by simp)).fz
  have hp1 : p < w1.heap.size := Nat.lt_of_lt_of_le hpl HF.o.size
  have hR : w.heap.size < w1.heap.size := by have := hf.size; simp at this; omega
  have q0 : w1.cell? ⟨w.heap.size, 0, none⟩ = some (.int .i64 0) := by rw [hf.cell (p := ⟨w.heap.size, 0, none⟩) (by simp) (by simp)]; simp [go_sem]
  have q1 : w1.cell? ⟨w.heap.size, 1, none⟩ = some (.string ByteArray.empty) := by rw [hf.cell (p := ⟨w.heap.size, 1, none⟩) (by simp) (by simp)]; simp [go_sem]; rfl
  have q2 : w1.cell? ⟨w.heap.size, 2, none⟩ = some (.int .i64 0) := by rw [hf.cell (p := ⟨w.heap.size, 2, none⟩) (by simp) (by simp)]; simp [go_sem]
  have qf : ∀ o, w1.frozen? ⟨w.heap.size, o, none⟩ = false := fun o => by rw [hf.frozen (p := ⟨w.heap.size, o, none⟩) (by simp) (by simp)]; simp [go_sem]
  have hpR : ¬ p = w.heap.size := by omega
  have hRp : ¬ w.heap.size = p := by omega
  clear hf
  simp only [tkV, hs]
  go_wp2
  have hgl := HP.o.gl
  have hn := ((HP.o.fr HF.o (by simp)).next ht (by omega)).fr (S := fun k => k = w.heap.size)
    (((((Fr.refl (fun k => k = w.heap.size) _).setCell (p := ⟨w.heap.size, 0, none⟩) (Or.inl rfl) (.int .i64 want)).setCell (p := ⟨w.heap.size, 1, none⟩) (Or.inl rfl) (.string t.text)).setCell (p := ⟨w.heap.size, 2, none⟩) (Or.inl rfl) (.int .i64 t.line)).alloc (.cells #[.int .i64 want, .string t.text, .int .i64 t.line] 207)) (fun k hk => by omega)
  rw [Int.natCast_add] at hn
  exact bodyPost_ret (v := tkV t) (by simp [results, Tryz.results187, go_sem, tkV, *]) rfl ⟨rfl, hn,
    (((((HF.o.mono (T := fun k => k = p) (by simp)).setCell (Or.inl rfl) _).setCell (Or.inr (Nat.le_refl _)) _).setCell (Or.inr (Nat.le_refl _)) _).setCell (Or.inr (Nat.le_refl _)) _).alloc _⟩
set_option maxHeartbeats 400000 in
theorem take_no (w : World) (p g cap : Nat) (ts : List Tk) (i : Nat) (t : Tk) (want : Nat) (i1 : Int) (h : Pa w p g cap ts i) (ht : ts[i]? = some t) (hs : t.sort ≠ want) (e1 : i1 = want) :
  Calls Tryz.prog 187 #[.pointer (some ⟨p, 0, none⟩), .int .i64 i1] w fun e w' => e = faultE 3 t.line /\ Fr (fun _ => False) w w' := by
 subst e1
 have hm : ((t.sort : Int) != (want : Int)) = true := by simp; omega
 have HP := hid h
 have hpl : p < w.heap.size := World.block_lt_of_cell? w _ h.c0
 clear h hs
 go_enter Tryz.func187, Tryz.ntmps187
 go_wp2_with fail
 refine (here_any _ p g cap ts i t (HP.o.fr (S := fun _ => False) ((Fr.refl _ _).alloc _) (by simp)) ht).mono ?_
 rintro e w1 ⟨rfl, hf⟩
 have HF := hid (((Fr.refl _ _).alloc _).trans hf)
 clear hf
 simp only [tkV]
 go_wp2_with fail
 refine (giveUp_any t 3 _ _ (by rfl)).mono ?_
 rintro e w3 ⟨he, hf⟩
 unfold faultE at he
 subst he
 exact ⟨rfl, rfl, (HF.o.alloc _).trans hf⟩
end Go.Proofs.YtccikgogjfbpeabGreatDoor
