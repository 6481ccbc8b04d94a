/- The keeps: awake. The keeps: raw numbers, a number as a text. Four routes with fees, and a rule that takes them: what is read, what is decided; plain. -/
import Derived.Test.YtccikgogjfbpeabGreatDoorWHa
import Derived.Test.YtccikgogjfbpeabGreatDoorWKb
import Derived.Laws.CopyOwn
namespace Go.Proofs.YtccikgogjfbpeabGreatDoor
open Go.RowKit
def awT : List UInt8 := [114, 111, 117, 116, 101, 32, 97, 32, 49, 32, 48, 59, 32, 114, 117, 108, 101, 32, 120, 32, 49, 58, 32, 98, 105, 110, 32, 52, 46, 46, 53, 32, 45, 62, 32, 97, 59]
def awX : RuX := ⟨[120], [49], [52], [53], [], none, [], false, false, [[97]]⟩
def awR : List RouteM := [⟨bs [97], 1, 0⟩]
def awL : List RuleM := [awX.rl [0] 1]
theorem awX_ok : awX.Ok :=
 ⟨nmL_of rfl (by decide) (by decide) (by decide) (by decide), dgL_of (by decide) (by decide) (by decide), dgL_of (by decide) (by decide) (by decide), dgL_of (by decide) (by decide) (by decide), fun w hw => (by simp [awX] at hw), fun ab h => (by simp [awX] at h), fun w hw => (by simp [awX] at hw),
  fun w hw => (by simp [awX] at hw; subst hw; exact nmL_of rfl (by decide) (by decide) (by decide) (by decide)), .inr ⟨rfl, by simp [awX]⟩⟩
theorem aw_read : readM (bs awT) = .ok (awR, awL) := by
 have h := tx_route (nm := [97]) (b := [49]) (c := [48]) (nmL_of rfl (by decide) (by decide) (by decide) (by decide)) (dgL_of (by decide) (by decide) (by decide)) (dgL_of (by decide) (by decide) (by decide)) (tx_blank (tx_rule awX_ok (tx_nil 1)))
 have e : bs awT = bs (rtX [97] [49] [48] ++ 32 :: (awX.text ++ [])) := rfl
 rw [e, readM_of h (by decide), under_route (by decide) (by decide) (by decide) (by decide), List.nil_append,
  under_rule (ps := [0]) (by decide) rfl ⟨by decide, by decide, by decide, by decide, ⟨by decide, by decide⟩, by simp [awX], ⟨by decide, by decide⟩⟩ (by simp only [awX, List.map_cons, List.map_nil, plsFrom]; rw [if_neg (by decide), show (nT [97] 1).text = bs [97] from rfl, place_eq (by decide)]; rfl)]
 rfl
theorem aw_1 : decM awR awL ⟨bs [52, 57, 57, 57, 57, 57], 0, 0, 0⟩ (dnF awR []) = (0, bs [120], bs [97]) := by
 unfold awL
 rw [dec_one (by decide), if_pos (by decide)]
 rfl
theorem aw_2 : decM awR awL ⟨bs [51, 57, 57, 57, 57, 57], 0, 0, 0⟩ (dnF awR []) = (2, ByteArray.empty, ByteArray.empty) := by
 unfold awL
 rw [dec_one (by decide), if_neg (by decide)]
set_option maxRecDepth 30000 in
set_option maxHeartbeats 2000000 in
theorem kawake_any (w : World) : Calls Tryz.prog 5 #[] w fun e w' => e = .returned (.bool true) /\ F0 w w' := by
 have HT := hid (ktable_any (bs awT) w _ aw_read)
 unfold awT at HT
 go_enter Tryz.func5, Tryz.ntmps5
 go_wp2_with fail
 refine HT.o.mono ?_
 rintro e w1 ⟨⟨T, rfl, hT⟩, hf1⟩
 have HTB := hid hT
 have HF1 := hid hf1
 clear hT hf1 HT
 have HD1 : Hid (Calls Tryz.prog 7 #[.pointer (some ⟨T, 0, none⟩), .agg #[.string ⟨#[52, 57, 57, 57, 57, 57]⟩, .int .i64 0, .int .i64 0, .int .i64 0], .slice none 0 0] w1 fun e w' => e = .returned (.agg #[.int .i64 0, .string ⟨#[120]⟩, .string ⟨#[97]⟩]) /\ F0 w1 w') := by
  have e := HTB.o.decide0 ⟨bs [52, 57, 57, 57, 57, 57], 0, 0, 0⟩ (by decide)
  rw [aw_1] at e
  exact e
 go_wp2_with fail
 refine HD1.o.mono ?_
 rintro e w2 ⟨rfl, hf2⟩
 have HB1 := hid (heap_alloc_new w2 (oK (0, bs [120], bs [97])))
 have HF2 := hid ((HF1.o.trans hf2).alloc (oK (0, bs [120], bs [97])))
 have HTC := hid ((HTB.o.fr hf2).fr ((Fr.refl _ _).alloc (oK (0, bs [120], bs [97]))))
 have HD2 : Hid (Calls Tryz.prog 7 #[.pointer (some ⟨T, 0, none⟩), .agg #[.string ⟨#[51, 57, 57, 57, 57, 57]⟩, .int .i64 0, .int .i64 0, .int .i64 0], .slice none 0 0] (w2.alloc (.cells #[.int .i64 0, .string ⟨#[120]⟩, .string ⟨#[97]⟩] 30)) fun e w' => e = .returned (.agg #[.int .i64 2, .string ⟨#[]⟩, .string ⟨#[]⟩]) /\ F0 (w2.alloc (.cells #[.int .i64 0, .string ⟨#[120]⟩, .string ⟨#[97]⟩] 30)) w') := by
  have e := HTC.o.decide0 ⟨bs [51, 57, 57, 57, 57, 57], 0, 0, 0⟩ (by decide)
  rw [aw_2] at e
  exact e
 clear hf2 HD1 HTB HF1 HTC
 go_wp2_with fail
 refine HD2.o.mono ?_
 rintro e w3 ⟨rfl, hf3⟩
 have b2 := heap_alloc_new w3 (oK (2, ByteArray.empty, ByteArray.empty))
 have b1 := ((Fr.refl (fun _ => False) _).alloc (oK (2, ByteArray.empty, ByteArray.empty))).whole (hf3.whole HB1.o (by simp)) (by simp)
 have HF3 := hid ((HF2.o.trans hf3).alloc (oK (2, ByteArray.empty, ByteArray.empty)))
 have p0 : (w3.alloc (.cells #[.int .i64 2, .string ⟨#[]⟩, .string ⟨#[]⟩] 30)).cell? ⟨w2.heap.size, 0, none⟩ = some (.int .i64 0) := block_cell b1 0 _ rfl
 have p1 : (w3.alloc (.cells #[.int .i64 2, .string ⟨#[]⟩, .string ⟨#[]⟩] 30)).cell? ⟨w2.heap.size, 1, none⟩ = some (.string ⟨#[120]⟩) := block_cell b1 1 _ rfl
 have p2 : (w3.alloc (.cells #[.int .i64 2, .string ⟨#[]⟩, .string ⟨#[]⟩] 30)).cell? ⟨w2.heap.size, 2, none⟩ = some (.string ⟨#[97]⟩) := block_cell b1 2 _ rfl
 have q0 : (w3.alloc (.cells #[.int .i64 2, .string ⟨#[]⟩, .string ⟨#[]⟩] 30)).cell? ⟨w3.heap.size, 0, none⟩ = some (.int .i64 2) := block_cell b2 0 _ rfl
 have q1 : (w3.alloc (.cells #[.int .i64 2, .string ⟨#[]⟩, .string ⟨#[]⟩] 30)).cell? ⟨w3.heap.size, 1, none⟩ = some (.string ⟨#[]⟩) := block_cell b2 1 _ rfl
 have q2 : (w3.alloc (.cells #[.int .i64 2, .string ⟨#[]⟩, .string ⟨#[]⟩] 30)).cell? ⟨w3.heap.size, 2, none⟩ = some (.string ⟨#[]⟩) := block_cell b2 2 _ rfl
 clear hf3 HD2 HB1 HF2 b1 b2
 go_wp2_with fail
 go_ret
 exact ⟨rfl, HF3.o⟩
end Go.Proofs.YtccikgogjfbpeabGreatDoor

namespace Go.Proofs.YtccikgogjfbpeabGreatDoor
open Go.RowKit
def RawAt (w : World) (a : Option Addr) (l : List Int) : Prop := ∀ k x, l[k]? = some x -> ∃ g o, a = some ⟨g, o, none⟩ /\ w.cell? ⟨g, o + k, none⟩ = some (.int .i64 x)
theorem RawAt.fr {w w' : World} {a : Option Addr} {l : List Int} (h : RawAt w a l) (hf : F0 w w') : RawAt w' a l := by
 intro k x hx
 obtain ⟨g, o, e, hc⟩ := h k x hx
 exact ⟨g, o, e, (hf.cell (p := ⟨g, o + k, none⟩) (World.block_lt_of_cell? w _ hc) (by simp)).trans hc⟩
def rawK (l : List Int) (i : Nat) : Int := l.getD i 0
def InI (x : Int) : Prop := -9223372036854775808 <= x /\ x <= 9223372036854775807
theorem rawK_in {l : List Int} (h : ∀ x, x ∈ l -> InI x) (i : Nat) : InI (rawK l i) := by
 unfold rawK
 rw [List.getD_eq_getElem?_getD]
 cases hx : l[i]? with
 | none => simp [InI]
 | some x => exact h x (List.mem_of_getElem? hx)
set_option maxRecDepth 30000 in
set_option maxHeartbeats 400000 in
theorem kraw_any (w : World) (a : Option Addr) (n c : Nat) (l : List Int) (i : Nat) (iv : Int) (hl : l.length = n) (h : RawAt w a l) (e : iv = i) :
  Calls Tryz.prog 30 #[.slice a n c, .int .i64 iv] w fun e w' => e = .returned (.int .i64 (rawK l i)) /\ w' = w := by
 subst e
 by_cases hi : i < n
 ·have hii : ¬ (n : Int) <= (i : Int) := by omega
  have hi2 : (i : Int) < (n : Int) := by omega
  have hx := List.getElem?_eq_getElem (show i < l.length by omega)
  obtain ⟨g, o, rfl, hc⟩ := h i _ hx
  have HV : Hid (rawK l i = l[i]) := by show _ = _; unfold rawK; rw [List.getD_eq_getElem?_getD, hx]; rfl
  generalize l[i] = x at *
  clear h hx
  go_enter Tryz.func30, Tryz.ntmps30
  go_wp2
  go_ret
  rw [HV.o]
  exact ⟨rfl, rfl⟩
 ·have hii : (n : Int) <= (i : Int) := by omega
  have HV : Hid (rawK l i = 0) := by show _ = _; unfold rawK; rw [List.getD_eq_getElem?_getD, List.getElem?_eq_none (by omega)]; rfl
  clear h
  go_enter Tryz.func30, Tryz.ntmps30
  go_wp2
  go_ret
  rw [HV.o]
  exact ⟨rfl, rfl⟩
set_option maxRecDepth 30000 in
set_option maxHeartbeats 400000 in
theorem ktext_any (n : Nat) (nv : Int) (w : World) (e : nv = n) (hn : n <= 10000000000) :
  Calls Tryz.prog 16 #[.int .i64 nv] w fun e w' => e = .returned (.string (bs (digL n 1))) /\ F0 w w' := by
 subst e
 have HC := hid (kdigits_any n 1 w hn (by decide))
 go_enter Tryz.func16, Tryz.ntmps16
 go_wp2_with fail
 refine HC.o.mono ?_
 rintro e w1 ⟨rfl, hf⟩
 have HF := hid hf
 clear hf HC
 go_wp2_with fail
 go_ret
 exact ⟨rfl, HF.o⟩
theorem Tryz.infoStrK : (Tryz.prog.info? 9).map (fun i => (i.zero, i.size, i.bytes)) = some (some (.string ByteArray.empty), 1, 16) := by kernel_rfl
def sRow (l : List ByteArray) : List Value := l.map Value.string
theorem strsAt_row {w : World} {base : Nat} {a : Option Addr} {c : Nat} {l : List ByteArray} (h : w.ownsRow base 9 1 (.slice a l.length c) l.length (sRow l)) : StrsAt w a l := by
 intro k s hs
 have hk : k < l.length := (List.getElem?_eq_some_iff.1 hs).1
 obtain ⟨g, cap, e, _, _⟩ := h.form (by omega)
 injection e with e1 _ _
 subst e1
 refine ⟨g, 0, rfl, ?_⟩
 have := h.cells (g := g) rfl k (.string s) (by simp [sRow, hs])
 rw [addr_add'] at this
 simpa using this
end Go.Proofs.YtccikgogjfbpeabGreatDoor

namespace Go.Proofs.YtccikgogjfbpeabGreatDoor
theorem digL_le2 : ∀ (m n w : Nat), n < 10 ^ m -> w <= m -> (digL n w).length <= m
 | 0, n, w, h, hw => by
  have h0 : n = 0 := by simpa using h
  have h1 : w = 0 := by omega
  rw [h0, h1, digL_zero]; simp
 | m + 1, n, w, h, hw => by
  by_cases h0 : n = 0 /\ w = 0
  ·rw [h0.1, h0.2, digL_zero]; simp
  ·have := digL_le2 m (n / 10) (w - 1) (by rw [Nat.pow_succ] at h; omega) (by omega)
   rw [digL_step h0, List.length_append]
   simp only [List.length_singleton]
   omega
theorem tx_DgL {n : Nat} (h : n < 1000000000) : DgL (digL n 1) := by
 have h1 := digL_ge n 1
 have h2 := digL_le2 9 n 1 h (by decide)
 exact ⟨fun e => by rw [e] at h1; simp at h1, h2, fun x hx => isDigitB_of (digL_dg _ n 1 rfl x hx)⟩
end Go.Proofs.YtccikgogjfbpeabGreatDoor
