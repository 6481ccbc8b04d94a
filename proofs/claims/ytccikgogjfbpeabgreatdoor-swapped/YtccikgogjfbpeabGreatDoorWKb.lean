/- The keeps: which of n things; a number as digits. The keeps: a table of rules that are read, and what it decides. -/
import Derived.Test.YtccikgogjfbpeabGreatDoorWHa
import Derived.Test.YtccikgogjfbpeabGreatDoorWKa
import Derived.Test.YtccikgogjfbpeabGreatDoorWQi
import Derived.Laws.IdiomStrings
import Derived.Test.YtccikgogjfbpeabGreatDoorWGi
import Derived.Test.YtccikgogjfbpeabGreatDoorWDf
namespace Go.Proofs.YtccikgogjfbpeabGreatDoor
open Go.RowKit
def pickK (c : Int) (n : Nat) : Nat := ((if c < 0 then -(c + 1) else c) % (n : Int)).toNat
theorem pickK_lt (c : Int) (n : Nat) (h : 0 < n) : pickK c n < n := by
 unfold pickK
 have h1 := Int.emod_nonneg (if c < 0 then -(c + 1) else c) (b := (n : Int)) (by omega)
 have h2 := Int.emod_lt_of_pos (if c < 0 then -(c + 1) else c) (b := (n : Int)) (by omega)
 omega
set_option maxRecDepth 30000 in
set_option maxHeartbeats 400000 in
theorem kpick_any (c : Int) (n : Nat) (w : World) (h1 : -9223372036854775808 <= c) (h2 : c <= 9223372036854775807) (h0 : 0 < n) (hn : n <= 10000000000) :
  Calls Tryz.prog 23 #[.int .i64 c, .int .i64 n] w fun e w' => e = .returned (.int .i64 (pickK c n)) /\ w' = w := by
 have hi0 : (0 : Int) < (n : Int) := by omega
 have hin : (n : Int) <= 10000000000 := by omega
 have hne : ((n : Int) == 0) = false := by simp; omega
 by_cases hc : c < 0
 ·have HM : Hid ((pickK c n : Int) = (-(c + 1)) % (n : Int)) := by
   show _ = _
   unfold pickK
   rw [if_pos hc, Int.toNat_of_nonneg (Int.emod_nonneg _ (by omega))]
  clear h0 hn
  go_enter Tryz.func23, Tryz.ntmps23
  go_wp2
  go_ret
  exact ⟨ret_int (by rw [HM.o, <- Int.neg_tmod, Int.tmod_eq_emod_of_nonneg (by omega)]), rfl⟩
 ·have HM : Hid ((pickK c n : Int) = c % (n : Int)) := by
   show _ = _
   unfold pickK
   rw [if_neg hc, Int.toNat_of_nonneg (Int.emod_nonneg _ (by omega))]
  have hc' : 0 <= c := by omega
  clear h0 hn
  go_enter Tryz.func23, Tryz.ntmps23
  go_wp2
  go_ret
  exact ⟨ret_int (by rw [HM.o]), rfl⟩
theorem wrap_dig (m : Nat) (h : m < 10) : IntKind.u8.wrap (48 + (m : Int)) = (48 + (m : Int)) := by
 have : m = 0 \/ m = 1 \/ m = 2 \/ m = 3 \/ m = 4 \/ m = 5 \/ m = 6 \/ m = 7 \/ m = 8 \/ m = 9 := by omega
 rcases this with rfl | rfl | rfl | rfl | rfl | rfl | rfl | rfl | rfl | rfl <;> decide
theorem digL_on {n wd c : Nat} {suf : List UInt8} (h : digL n wd = digL c (wd - suf.length) ++ suf) (hc : 0 < c \/ suf.length < wd) : digL n wd = digL (c / 10) (wd - (UInt8.ofNat (48 + c % 10) :: suf).length) ++ (UInt8.ofNat (48 + c % 10) :: suf) := by
 rw [h, digL_step (by omega), show wd - (UInt8.ofNat (48 + c % 10) :: suf).length = wd - suf.length - 1 from by simp only [List.length_cons]; omega, List.append_assoc]
 rfl
set_option maxRecDepth 30000 in
set_option maxHeartbeats 2000000 in
theorem kdigits_any (n wd : Nat) (w : World) (hn : n <= 10000000000) (hw : wd <= 1000) :
  Calls Tryz.prog 29 #[.int .i64 n, .int .i64 wd] w fun e w' => e = .returned (.string (bs (digL n wd))) /\ F0 w w' := by
 go_enter Tryz.func29, Tryz.ntmps29
 go_wp2_with fail
 go_loopg [0, 5] (n + wd) (fun mm nv sv wr => ∃ (c : Nat) (suf : List UInt8), c <= n /\ mm = c + (wd - suf.length) /\ suf.length + c <= n + wd /\ nv = .int .i64 (c : Nat) /\ sv = .string (bs suf) /\ Hid (digL n wd = digL c (wd - suf.length) ++ suf) /\ Hid (F0 w wr))
 case atStart => exact ⟨n, [], by omega, rfl, by simp, rfl, rfl, by show _ = _; simp, Fr.refl _ _⟩
 case round =>
  obtain ⟨c, suf, hcn, rfl, hsl, rfl, rfl, HD, HFr⟩ := hrel
  obtain ⟨S, hS⟩ : ∃ S, bs suf = S := ⟨_, rfl⟩
  have hsz : S.size = suf.length := by rw [<- hS]; rfl
  have hsb : S.size <= 20000000000 := by omega
  rw [hS]
  by_cases hgo : 0 < c \/ suf.length < wd
  ·obtain ⟨m, hm⟩ : ∃ m, c % 10 = m := ⟨_, rfl⟩
   have hm16 : m < 10 := by omega
   have hmi : (c : Int).tmod 10 = (m : Int) := by rw [Int.tmod_eq_emod_of_nonneg (by omega)]; omega
   have hqi : (c : Int).tdiv 10 = ((c / 10 : Nat) : Int) := by rw [Int.tdiv_eq_ediv_of_nonneg (by omega)]; omega
   obtain ⟨b8, hb8⟩ : ∃ b8 : UInt8, b8 = UInt8.ofNat (48 + m) := ⟨_, rfl⟩
   have hbn : (b8.toNat : Int) = (48 + (m : Int)) := by rw [hb8, UInt8.toNat_ofNat']; omega
   have hwr := wrap_dig m hm16
   have HDN := hid (digL_on HD.o hgo)
   rw [hm, <- hb8] at HDN
   have HFa : Hid (F0 w (wr.alloc (.cells #[.int .u8 (48 + (m : Int))] 5))) := HFr.o.alloc _
   have hcv : (convert 104 9 (.slice (some ⟨wr.heap.size, 0, none⟩) 1 1)).run Tryz.prog (wr.alloc (.cells #[.int .u8 (48 + (m : Int))] 5)) = .ok (.string ⟨#[b8]⟩) (wr.alloc (.cells #[.int .u8 (48 + (m : Int))] 5)) := by
    have e := run_convert_bytes_back (P := Tryz.prog) (wr.alloc (.cells #[.int .u8 (48 + (m : Int))] 5)) 104 9 5 ⟨wr.heap.size, 0, none⟩ 1 [b8] Tryz.underlying104 Tryz.underlying5 Tryz.underlying9 (by
     intro j hj
     have : j = 0 := by simpa using hj
     subst this
     rw [show (⟨wr.heap.size, 0, none⟩ : Addr).add 0 = ⟨wr.heap.size, 0, none⟩ from rfl]
     exact block_cell (heap_alloc_new wr _) 0 _ (by simp [hbn]))
    simpa using e
   have hap : (⟨#[b8]⟩ : ByteArray) ++ S = bs (b8 :: suf) := by rw [<- hS]; exact bs_append [b8] suf
   have hdl : c / 10 + (wd - (b8 :: suf).length) < c + (wd - suf.length) := by simp only [List.length_cons]; omega
   have hsl' : (b8 :: suf).length + c / 10 <= n + wd := by simp only [List.length_cons]; omega
   have hcn' : c / 10 <= n := by omega
   clear hm hb8 hbn HD HFr hsl
   by_cases hc0 : 0 < c
   ·have hc1 : (0 : Int) < (c : Int) := by omega
    clear hgo hsz
    go_wp2_with fail
    go_roundg (c / 10 + (wd - (b8 :: suf).length))
    case measure => exact hdl
    case rel => exact ⟨c / 10, b8 :: suf, hcn', rfl, hsl', by go_num, by rw [<- hap], HDN, HFa⟩
   ·have hc1 : ¬ (0 : Int) < (c : Int) := by omega
    have hlt : (S.size : Int) < (wd : Int) := by omega
    clear hgo hsz
    go_wp2_with fail
    go_roundg (c / 10 + (wd - (b8 :: suf).length))
    case measure => exact hdl
    case rel => exact ⟨c / 10, b8 :: suf, hcn', rfl, hsl', by go_num, by rw [<- hap], HDN, HFa⟩
  ·have hc1 : ¬ (0 : Int) < (c : Int) := by omega
   have hlt : ¬ (S.size : Int) < (wd : Int) := by omega
   have HE : Hid (digL n wd = suf) := by
    have e := HD.o
    rw [show c = 0 from by omega, show wd - suf.length = 0 from by omega, digL_zero] at e
    exact e
   clear hgo HD hsz
   go_wp2_with fail
   go_ret
   rw [HE.o, hS]
   exact ⟨rfl, HFr.o⟩
end Go.Proofs.YtccikgogjfbpeabGreatDoor

namespace Go.Proofs.YtccikgogjfbpeabGreatDoor
open Go.RowKit
def TbAt (w : World) (T : Nat) (rts : List RouteM) (R : List RuleM) : Prop :=
 ∃ zb TT ra rc, w.cell? ⟨T, 1, none⟩ = some (.pointer (some ⟨TT, 0, none⟩)) /\ TreeAt zb w TT (.slice ra rts.length rc) R (stageF (rankF R) R.length) /\ w.ownsRow 0 144 3 (.slice ra rts.length rc) rts.length (rtRow rts) /\ BookOk rts R
theorem TbAt.fr {w w' : World} {T : Nat} {rts : List RouteM} {R : List RuleM} (h : TbAt w T rts R) (hf : F0 w w') : TbAt w' T rts R := by
 obtain ⟨zb, TT, ra, rc, h1, h2, h3, h4⟩ := h
 exact ⟨zb, TT, ra, rc, (hf.cell (p := ⟨T, 1, none⟩) (World.block_lt_of_cell? w _ h1) (by simp)).trans h1, h2.fr hf (by simp), ownsRow_fr h3 hf (by simp), h4⟩
theorem TbAt.decide {w : World} {T : Nat} {rts : List RouteM} {R : List RuleM} (h : TbAt w T rts R) (a : Option Addr) (c : Nat) (l : List ByteArray) (hst : StrsAt w a l) (hl : l.length <= maxLen) (p : PayM) (hs : p.pan.size <= maxLen) :
  Calls Tryz.prog 7 #[.pointer (some ⟨T, 0, none⟩), payV p, .slice a l.length c] w fun e w' => e = .returned (outV (decM rts R p (dnF rts l))) /\ F0 w w' := by
 obtain ⟨zb, TT, ra, rc, h1, h2, h3, h4⟩ := h
 exact Decide_any w zb T TT rts R ra rc a c l p ⟨h1, h2, h3, h4, hst, hl⟩ hs
theorem strsAt_nil (w : World) : StrsAt w none [] := by intro k s hs; simp at hs
theorem TbAt.decide0 {w : World} {T : Nat} {rts : List RouteM} {R : List RuleM} (h : TbAt w T rts R) (p : PayM) (hs : p.pan.size <= maxLen) :
  Calls Tryz.prog 7 #[.pointer (some ⟨T, 0, none⟩), payV p, .slice none 0 0] w fun e w' => e = .returned (outV (decM rts R p (dnF rts []))) /\ F0 w w' :=
 h.decide none 0 [] (strsAt_nil w) (by unfold maxLen; simp) p hs
set_option maxRecDepth 30000 in
set_option maxHeartbeats 1000000 in
theorem ktable_any (s : ByteArray) (w : World) (p : List RouteM × List RuleM) (hR : readM s = .ok p) :
  Calls Tryz.prog 13 #[.string s] w fun e w' => (∃ T, e = .returned (.pointer (some ⟨T, 0, none⟩)) /\ TbAt w' T p.1 p.2) /\ F0 w w' := by
 have HC := hid (Compile_any s w)
 have HR := hid hR
 clear hR
 go_enter Tryz.func13, Tryz.ntmps13
 go_wp2_with fail
 refine HC.o.mono ?_
 rintro e w1 hP
 obtain ⟨⟨T, B, TT, vr, vl, xs, rfl, hT, hT0, hT1, hB, hk, htr⟩, hbl⟩ := (CPost.ok HR.o).1 hP
 have HF : Hid (F0 w w1) := Fr.of_below hbl
 have HT : Hid (TbAt w1 T p.1 p.2) := by
  obtain ⟨ra, rc, e⟩ := ownsRow_len hk.ro
  subst e
  exact ⟨_, TT, ra, rc, hT1, htr, ownsRow_base hk.ro (Nat.zero_le _), readM_book HR.o⟩
 clear hP hT hT0 hT1 hB hk htr hbl HC
 go_wp2_with fail
 go_ret
 exact ⟨⟨T, rfl, HT.o⟩, HF.o⟩
def oK (o : Nat × ByteArray × ByteArray) : Obj := .cells #[.int .i64 (o.1 : Nat), .string o.2.1, .string o.2.2] 30
theorem dec_one {rts : List RouteM} {r : RuleM} {p : PayM} {dn : Nat -> Bool} (hp : payOk p = true) : decM rts [r] p dn = if meetC [r] p (card6 p.pan) 0 = true then outM rts r dn p.am else (2, ByteArray.empty, ByteArray.empty) := by
 unfold decM
 rw [if_pos hp]
 cases hm : meetC [r] p (card6 p.pan) 0 with
 | true => simp [bestR, hm]
 | false => simp [bestR, hm]
end Go.Proofs.YtccikgogjfbpeabGreatDoor
