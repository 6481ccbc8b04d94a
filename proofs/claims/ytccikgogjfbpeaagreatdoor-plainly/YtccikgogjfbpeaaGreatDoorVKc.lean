/- The keeps: awake. The keeps: raw numbers, a number as a text. Four routes with fees, and a rule that takes them: what is read, what is decided; plain. -/
import Derived.Test.YtccikgogjfbpeaaGreatDoorVHa
import Derived.Test.YtccikgogjfbpeaaGreatDoorVKb
import Derived.Laws.CopyOwn
namespace Go.Proofs.YtccikgogjfbpeaaGreatDoor
open Go.RowKit

def awT : List UInt8 := [114, 111, 117, 116, 101, 32, 97, 32, 49, 32, 48, 59, 32, 114, 117, 108, 101, 32, 120, 32, 49, 58, 32, 98, 105, 110, 32, 52, 46, 46, 53, 32, 45, 62, 32, 97, 59]
def awX : RuX := ⟨[120], [49], [52], [53], [], none, [], false, false, [[97]]⟩
def awR : List RouteM := [⟨bs [97], 1, 0⟩]
def awL : List RuleM := [awX.rl [0] 1]
theorem awX_ok : awX.Ok :=
 ⟨nmL_of rfl (by decide) (by decide) (by decide) (by decide), dgL_of (by decide) (by decide) (by decide), dgL_of (by decide) (by decide) (by decide), dgL_of (by decide) (by decide) (by decide), fun w hw => (by simp [awX] at hw), fun ab h => (by simp [awX] at h), fun w hw => (by simp [awX] at hw),
  fun w hw => (by simp [awX] at hw; subst hw; exact nmL_of rfl (by decide) (by decide) (by decide) (by decide)), .inr ⟨rfl, by simp [awX]⟩⟩
theorem aw_read : readM (bs awT) = .ok (awR, awL) := by
 have h := tx_route (nm := [97]) (b := [49]) (c := [48]) (nmL_of rfl (by decide) (by decide) (by decide) (by decide)) (dgL_of (by decide) (by decide) (by decide)) (dgL_of (by decide) (by decide) (by decide)) (tx_blank (tx_rule awX_ok (tx_nil 1)))
 have e : bs awT = bs (rtX [97] [49] [48] ++ 32 :: (awX.text ++ [])) := rfl
 rw [e, readM_of h (by decide), under_route (by decide) (by decide) (by decide) (by decide), List.nil_append,
  under_rule (ps := [0]) (by decide) rfl ⟨by decide, by decide, by decide, by decide, ⟨by decide, by decide⟩, by simp [awX], ⟨by decide, by decide⟩⟩ (by simp only [awX, List.map_cons, List.map_nil, plsFrom]; rw [if_neg (by decide), show (nT [97] 1).text = bs [97] from rfl, place_eq (by decide)]; rfl)]
 rfl
theorem aw_1 : decM awR awL ⟨bs [52, 57, 57, 57, 57, 57], 0, 0, 0⟩ (dnF awR []) = (0, bs [120], bs [97]) := by
 unfold awL
 rw [dec_one (by decide), if_pos (by decide)]
 rfl
theorem aw_2 : decM awR awL ⟨bs [51, 57, 57, 57, 57, 57], 0, 0, 0⟩ (dnF awR []) = (2, ByteArray.empty, ByteArray.empty) := by
 unfold awL
 rw [dec_one (by decide), if_neg (by decide)]
set_option maxRecDepth 30000 in
set_option maxHeartbeats 2000000 in
theorem kawake_any (w : World) : Calls Tryz.prog 12 #[] w fun e w' => e = .returned (.bool true) ∧ Fr (fun _ => False) w w' := by
 have HT := hid (ktable_any (bs awT) w _ aw_read)
 unfold awT at HT
 go_enter Tryz.func12, Tryz.ntmps12
 go_wp2_with fail
 refine HT.out.mono ?_
 rintro e w1 ⟨⟨T, rfl, hT⟩, hf1⟩
 have HTB := hid hT
 have HF1 := hid hf1
 clear hT hf1 HT
 have HD1 : Hid (Calls Tryz.prog 19 #[.pointer (some ⟨T, 0, none⟩), .agg #[.string ⟨#[52, 57, 57, 57, 57, 57]⟩, .int .i64 0, .int .i64 0, .int .i64 0], .slice none 0 0] w1 fun e w' => e = .returned (.agg #[.int .i64 0, .string ⟨#[120]⟩, .string ⟨#[97]⟩]) ∧ Fr (fun _ => False) w1 w') := by
  have e := HTB.out.decide0 ⟨bs [52, 57, 57, 57, 57, 57], 0, 0, 0⟩ (by decide)
  rw [aw_1] at e
  exact e
 go_wp2_with fail
 refine HD1.out.mono ?_
 rintro e w2 ⟨rfl, hf2⟩
 have HB1 := hid (heap_alloc_new w2 (oK (0, bs [120], bs [97])))
 have HF2 := hid ((HF1.out.trans hf2).alloc (oK (0, bs [120], bs [97])))
 have HTC := hid ((HTB.out.fr hf2).fr ((Fr.refl _ _).alloc (oK (0, bs [120], bs [97]))))
 have HD2 : Hid (Calls Tryz.prog 19 #[.pointer (some ⟨T, 0, none⟩), .agg #[.string ⟨#[51, 57, 57, 57, 57, 57]⟩, .int .i64 0, .int .i64 0, .int .i64 0], .slice none 0 0] (w2.alloc (.cells #[.int .i64 0, .string ⟨#[120]⟩, .string ⟨#[97]⟩] 38)) fun e w' => e = .returned (.agg #[.int .i64 2, .string ⟨#[]⟩, .string ⟨#[]⟩]) ∧ Fr (fun _ => False) (w2.alloc (.cells #[.int .i64 0, .string ⟨#[120]⟩, .string ⟨#[97]⟩] 38)) w') := by
  have e := HTC.out.decide0 ⟨bs [51, 57, 57, 57, 57, 57], 0, 0, 0⟩ (by decide)
  rw [aw_2] at e
  exact e
 clear hf2 HD1 HTB HF1 HTC
 go_wp2_with fail
 refine HD2.out.mono ?_
 rintro e w3 ⟨rfl, hf3⟩
 have b2 := heap_alloc_new w3 (oK (2, ByteArray.empty, ByteArray.empty))
 have b1 := ((Fr.refl (fun _ => False) _).alloc (oK (2, ByteArray.empty, ByteArray.empty))).whole (hf3.whole HB1.out (by simp)) (by simp)
 have HF3 := hid ((HF2.out.trans hf3).alloc (oK (2, ByteArray.empty, ByteArray.empty)))
 have p0 : (w3.alloc (.cells #[.int .i64 2, .string ⟨#[]⟩, .string ⟨#[]⟩] 38)).cell? ⟨w2.heap.size, 0, none⟩ = some (.int .i64 0) := block_cell b1 0 _ rfl
 have p1 : (w3.alloc (.cells #[.int .i64 2, .string ⟨#[]⟩, .string ⟨#[]⟩] 38)).cell? ⟨w2.heap.size, 1, none⟩ = some (.string ⟨#[120]⟩) := block_cell b1 1 _ rfl
 have p2 : (w3.alloc (.cells #[.int .i64 2, .string ⟨#[]⟩, .string ⟨#[]⟩] 38)).cell? ⟨w2.heap.size, 2, none⟩ = some (.string ⟨#[97]⟩) := block_cell b1 2 _ rfl
 have q0 : (w3.alloc (.cells #[.int .i64 2, .string ⟨#[]⟩, .string ⟨#[]⟩] 38)).cell? ⟨w3.heap.size, 0, none⟩ = some (.int .i64 2) := block_cell b2 0 _ rfl
 have q1 : (w3.alloc (.cells #[.int .i64 2, .string ⟨#[]⟩, .string ⟨#[]⟩] 38)).cell? ⟨w3.heap.size, 1, none⟩ = some (.string ⟨#[]⟩) := block_cell b2 1 _ rfl
 have q2 : (w3.alloc (.cells #[.int .i64 2, .string ⟨#[]⟩, .string ⟨#[]⟩] 38)).cell? ⟨w3.heap.size, 2, none⟩ = some (.string ⟨#[]⟩) := block_cell b2 2 _ rfl
 clear hf3 HD2 HB1 HF2 b1 b2
 go_wp2_with fail
 go_ret
 exact ⟨rfl, HF3.out⟩
end Go.Proofs.YtccikgogjfbpeaaGreatDoor

namespace Go.Proofs.YtccikgogjfbpeaaGreatDoor
open Go.RowKit

/-- Raw numbers that came in. -/
def RawAt (w : World) (a : Option Addr) (l : List Int) : Prop := ∀ k x, l[k]? = some x → ∃ g o, a = some ⟨g, o, none⟩ ∧ w.cell? ⟨g, o + k, none⟩ = some (.int .i64 x)
theorem RawAt.fr {w w' : World} {a : Option Addr} {l : List Int} (h : RawAt w a l) (hf : Fr (fun _ => False) w w') : RawAt w' a l := by
 intro k x hx
 obtain ⟨g, o, e, hc⟩ := h k x hx
 exact ⟨g, o, e, (hf.cell (p := ⟨g, o + k, none⟩) (World.block_lt_of_cell? w _ hc) (by simp)).trans hc⟩
def rawK (l : List Int) (i : Nat) : Int := l.getD i 0
def InI (x : Int) : Prop := -9223372036854775808 ≤ x ∧ x ≤ 9223372036854775807
theorem rawK_in {l : List Int} (h : ∀ x, x ∈ l → InI x) (i : Nat) : InI (rawK l i) := by
 unfold rawK
 rw [List.getD_eq_getElem?_getD]
 cases hx : l[i]? with
 | none => simp [InI]
 | some x => exact h x (List.mem_of_getElem? hx)
set_option maxRecDepth 30000 in
set_option maxHeartbeats 400000 in
theorem kraw_any (w : World) (a : Option Addr) (n c : Nat) (l : List Int) (i : Nat) (iv : Int) (hl : l.length = n) (h : RawAt w a l) (e : iv = i) :
  Calls Tryz.prog 35 #[.slice a n c, .int .i64 iv] w fun e w' => e = .returned (.int .i64 (rawK l i)) ∧ w' = w := by
 subst e
 by_cases hi : i < n
 ·have hii : ¬ (n : Int) ≤ (i : Int) := by omega
  have hi2 : (i : Int) < (n : Int) := by omega
  have hx := List.getElem?_eq_getElem (show i < l.length by omega)
  obtain ⟨g, o, rfl, hc⟩ := h i _ hx
  have HV : Hid (rawK l i = l[i]) := by show _ = _; unfold rawK; rw [List.getD_eq_getElem?_getD, hx]; rfl
  generalize l[i] = x at *
  clear h hx
  go_enter Tryz.func35, Tryz.ntmps35
  go_wp2
  go_ret
  rw [HV.out]
  exact ⟨rfl, rfl⟩
 ·have hii : (n : Int) ≤ (i : Int) := by omega
  have HV : Hid (rawK l i = 0) := by show _ = _; unfold rawK; rw [List.getD_eq_getElem?_getD, List.getElem?_eq_none (by omega)]; rfl
  clear h
  go_enter Tryz.func35, Tryz.ntmps35
  go_wp2
  go_ret
  rw [HV.out]
  exact ⟨rfl, rfl⟩
set_option maxRecDepth 30000 in
set_option maxHeartbeats 400000 in
theorem ktext_any (n : Nat) (nv : Int) (w : World) (e : nv = n) (hn : n ≤ 10000000000) :
  Calls Tryz.prog 22 #[.int .i64 nv] w fun e w' => e = .returned (.string (bs (digL n 1))) ∧ Fr (fun _ => False) w w' := by
 subst e
 have HC := hid (kdigits_any n 1 w hn (by decide))
 go_enter Tryz.func22, Tryz.ntmps22
 go_wp2_with fail
 refine HC.out.mono ?_
 rintro e w1 ⟨rfl, hf⟩
 have HF := hid hf
 clear hf HC
 go_wp2_with fail
 go_ret
 exact ⟨rfl, HF.out⟩
theorem Tryz.infoStrK : (Tryz.prog.info? 9).map (fun i => (i.zero, i.size, i.bytes)) = some (some (.string ByteArray.empty), 1, 16) := by kernel_rfl
def sRow (l : List ByteArray) : List Value := l.map Value.string
theorem strsAt_row {w : World} {base : Nat} {a : Option Addr} {c : Nat} {l : List ByteArray} (h : w.ownsRow base 9 1 (.slice a l.length c) l.length (sRow l)) : StrsAt w a l := by
 intro k s hs
 have hk : k < l.length := (List.getElem?_eq_some_iff.1 hs).1
 obtain ⟨g, cap, e, _, _⟩ := h.form (by omega)
 injection e with e1 _ _
 subst e1
 refine ⟨g, 0, rfl, ?_⟩
 have := h.cells (g := g) rfl k (.string s) (by simp [sRow, hs])
 rw [addr_add'] at this
 simpa using this
end Go.Proofs.YtccikgogjfbpeaaGreatDoor

namespace Go.Proofs.YtccikgogjfbpeaaGreatDoor

def wN (k : Nat) : List UInt8 := [119, UInt8.ofNat (48 + k)]
theorem wN_text {k : Nat} (h : k < 10) : 119 :: digL k 1 = wN k := by
 rw [digL_step (by omega), show k / 10 = 0 from by omega, show 1 - 1 = 0 from rfl, digL_zero, show k % 10 = k from by omega]
 rfl
theorem digL_le2 : ∀ (m n w : Nat), n < 10 ^ m → w ≤ m → (digL n w).length ≤ m
 | 0, n, w, h, hw => by
  have h0 : n = 0 := by simpa using h
  have h1 : w = 0 := by omega
  rw [h0, h1, digL_zero]; simp
 | m + 1, n, w, h, hw => by
  by_cases h0 : n = 0 ∧ w = 0
  ·rw [h0.1, h0.2, digL_zero]; simp
  ·have := digL_le2 m (n / 10) (w - 1) (by rw [Nat.pow_succ] at h; omega) (by omega)
   rw [digL_step h0, List.length_append]
   simp only [List.length_singleton]
   omega
theorem tx_DgL {n : Nat} (h : n < 1000000000) : DgL (digL n 1) := by
 have h1 := digL_ge n 1
 have h2 := digL_le2 9 n 1 h (by decide)
 exact ⟨fun e => by rw [e] at h1; simp at h1, h2, fun x hx => isDigitB_of (digL_dg _ n 1 rfl x hx)⟩
def fR (B R : Nat → Nat) (k : Nat) : List UInt8 := rtX (wN k) (digL (B k) 1) (digL (R k) 1)
def chS (B R : Nat → Nat) : Nat → List UInt8
 | 0 => []
 | i + 1 => chS B R i ++ fR B R i
def chN : Nat → List UInt8
 | 0 => []
 | i + 1 => chN i ++ ((if i = 0 then [] else [44, 32]) ++ wN i)
def chX (ch : Bool) : RuX := ⟨[120], [48], [48], [57], [], none, [], false, ch, [wN 0, wN 1, wN 2, wN 3]⟩
def rts4 (B R : Nat → Nat) : List RouteM := [⟨bs (wN 0), B 0, R 0⟩, ⟨bs (wN 1), B 1, R 1⟩, ⟨bs (wN 2), B 2, R 2⟩, ⟨bs (wN 3), B 3, R 3⟩]
def chL (ch : Bool) : List RuleM := [(chX ch).rl [0, 1, 2, 3] 4]
def chH (ch : Bool) : List UInt8 := if ch then [99, 104, 101, 97, 112, 101, 115, 116, 32] else []
def chM : List UInt8 := [32, 114, 117, 108, 101, 32, 120, 32, 48, 58, 32, 98, 105, 110, 32, 48, 46, 46, 57, 32, 45, 62, 32]
theorem wN_NmL {k : Nat} (h : k < 4) : NmL (wN k) := by
 have : k = 0 ∨ k = 1 ∨ k = 2 ∨ k = 3 := by omega
 rcases this with rfl | rfl | rfl | rfl <;> exact nmL_of rfl (by decide) (by decide) (by decide) (by decide)
theorem chX_ok (ch : Bool) : (chX ch).Ok :=
 ⟨show NmL [120] from nmL_of rfl (by decide) (by decide) (by decide) (by decide), show DgL [48] from dgL_of (by decide) (by decide) (by decide), show DgL [48] from dgL_of (by decide) (by decide) (by decide), show DgL [57] from dgL_of (by decide) (by decide) (by decide), fun w hw => (by simp [chX] at hw), fun ab h => (by simp [chX] at h), fun w hw => (by simp [chX] at hw),
  fun w hw => (by
   simp [chX] at hw
   rcases hw with rfl | rfl | rfl | rfl <;> exact wN_NmL (by decide)), .inr ⟨rfl, by simp [chX]⟩⟩
theorem ch_read (ch : Bool) (B R : Nat → Nat) (hB : ∀ k, B k ≤ 1000000) (hR : ∀ k, R k ≤ 1000) :
  readM (bs (chS B R 4 ++ (chM ++ (chH ch ++ (chN 4 ++ [59]))))) = .ok (rts4 B R, chL ch) := by
 have tb : ∀ k, DgL (digL (B k) 1) := fun k => tx_DgL (by have := hB k; omega)
 have tr : ∀ k, DgL (digL (R k) 1) := fun k => tx_DgL (by have := hR k; omega)
 have h := tx_route (wN_NmL (k := 0) (by decide)) (tb 0) (tr 0) (tx_route (wN_NmL (k := 1) (by decide)) (tb 1) (tr 1) (tx_route (wN_NmL (k := 2) (by decide)) (tb 2) (tr 2) (tx_route (wN_NmL (k := 3) (by decide)) (tb 3) (tr 3) (tx_blank (tx_rule (chX_ok ch) (tx_nil 1))))))
 have e : chS B R 4 ++ (chM ++ (chH ch ++ (chN 4 ++ [59]))) = rtX (wN 0) (digL (B 0) 1) (digL (R 0) 1) ++ (rtX (wN 1) (digL (B 1) 1) (digL (R 1) 1) ++ (rtX (wN 2) (digL (B 2) 1) (digL (R 2) 1) ++ (rtX (wN 3) (digL (B 3) 1) (digL (R 3) 1) ++ (32 :: ((chX ch).text ++ []))))) := by
  have e1 : chM ++ (chH ch ++ (chN 4 ++ [59])) = 32 :: ((chX ch).text ++ []) := by cases ch <;> rfl
  rw [e1]
  simp only [chS, fR, List.nil_append, List.append_assoc]
 have lb : ∀ k, (digL (B k) 1).length ≤ 9 := fun k => (tb k).2.1
 have lr : ∀ k, (digL (R k) 1).length ≤ 9 := fun k => (tr k).2.1
 have hlen : (rtX (wN 0) (digL (B 0) 1) (digL (R 0) 1) ++ (rtX (wN 1) (digL (B 1) 1) (digL (R 1) 1) ++ (rtX (wN 2) (digL (B 2) 1) (digL (R 2) 1) ++ (rtX (wN 3) (digL (B 3) 1) (digL (R 3) 1) ++ (32 :: ((chX ch).text ++ [])))))).length ≤ 3000 := by
  have l0 := lb 0; have l1 := lb 1; have l2 := lb 2; have l3 := lb 3; have r0 := lr 0; have r1 := lr 1; have r2 := lr 2; have r3 := lr 3
  have lt : (chX ch).text.length ≤ 100 := by cases ch <;> decide
  simp only [rtX, List.length_append, List.length_cons, List.length_nil, wN]
  omega
 have nb : ∀ k, numOf (digL (B k) 1) = B k := fun k => digL_num _ _ 1 rfl
 have nr : ∀ k, numOf (digL (R k) 1) = R k := fun k => digL_num _ _ 1 rfl
 rw [e, readM_of h hlen,
  under_route (by decide) (by decide) (by rw [nb]; exact hB 0) (by rw [nr]; exact hR 0), List.nil_append,
  under_route (by simp) (by rw [place_ne (by decide)]; decide) (by rw [nb]; exact hB 1) (by rw [nr]; exact hR 1), List.cons_append, List.nil_append,
  under_route (by simp) (by rw [place_ne (by decide), place_ne (by decide)]; decide) (by rw [nb]; exact hB 2) (by rw [nr]; exact hR 2), List.cons_append, List.cons_append, List.nil_append,
  under_route (by simp) (by rw [place_ne (by decide), place_ne (by decide), place_ne (by decide)]; decide) (by rw [nb]; exact hB 3) (by rw [nr]; exact hR 3), List.cons_append, List.cons_append, List.cons_append, List.nil_append]
 simp only [nb, nr]
 rw [under_rule (r := chX ch) (ps := [0, 1, 2, 3]) (by decide) rfl ⟨show numOf [48] ≤ 1000 by decide, show (1 : Nat) ≤ 6 by decide, rfl, show numOf [48] ≤ numOf [57] by decide, ⟨show (0 : Nat) ≤ 4 by decide, by intro w hw; simp [chX] at hw⟩, by intro ab hab; simp [chX] at hab, ⟨show (0 : Nat) ≤ 4 by decide, by intro w hw; simp [chX] at hw⟩⟩ ?_]
 ·rfl
 ·simp only [chX, List.map_cons, List.map_nil, plsFrom]
  rw [show ∀ k, (nT (wN k) 1).text = bs (wN k) from fun _ => rfl, show ∀ k, (nT (wN k) 1).text = bs (wN k) from fun _ => rfl, show ∀ k, (nT (wN k) 1).text = bs (wN k) from fun _ => rfl, show ∀ k, (nT (wN k) 1).text = bs (wN k) from fun _ => rfl]
  rw [place_eq (a := wN 0) (by decide), place_ne (a := wN 1) (by decide), place_eq (a := wN 1) (by decide), place_ne (a := wN 2) (by decide), place_ne (a := wN 2) (by decide), place_eq (a := wN 2) (by decide), place_ne (a := wN 3) (by decide), place_ne (a := wN 3) (by decide), place_ne (a := wN 3) (by decide), place_eq (a := wN 3) (by decide)]
  rfl
/-- One route more. -/
def bestS (ch : Bool) (fee : Nat → Int) (dn : Nat → Bool) (b : Option Nat) (x : Nat) : Option Nat := if dn x then b else match b with
 | none => some x
 | some y => if ch && decide (fee x < fee y) then some x else some y
theorem bestM_snoc (ch : Bool) (fee : Nat → Int) (dn : Nat → Bool) (x : Nat) : ∀ (l : List Nat) (b : Option Nat), bestM ch fee dn (l ++ [x]) b = bestS ch fee dn (bestM ch fee dn l b) x
 | [], _ => rfl
 | _ :: r, _ => bestM_snoc ch fee dn x r _
theorem bestM_dn {ch : Bool} {fee : Nat → Int} {dn dn' : Nat → Bool} : ∀ (l : List Nat) (b : Option Nat), (∀ x, x ∈ l → dn x = dn' x) → bestM ch fee dn l b = bestM ch fee dn' l b
 | [], _, _ => rfl
 | x :: r, b, h => by
  unfold bestM
  rw [h x (by simp)]
  exact bestM_dn r _ (fun y hy => h y (by simp [hy]))
theorem bestM_lt {ch : Bool} {fee : Nat → Int} {dn : Nat → Bool} : ∀ (i y : Nat), bestM ch fee dn (List.range i) none = some y → y < i
 | 0, y, h => by cases h
 | i + 1, y, h => by
  rw [List.range_succ, bestM_snoc] at h
  unfold bestS at h
  have ih := bestM_lt (ch := ch) (fee := fee) (dn := dn) i
  cases hb : bestM ch fee dn (List.range i) none with
  | none =>
   rw [hb] at h
   split at h
   ·cases h
   ·injection h with h; omega
  | some z =>
   rw [hb] at h ih
   have := ih z rfl
   split at h
   ·injection h with h; omega
   ·dsimp only at h
    split at h <;> (injection h with h; omega)
def offL (D : Nat → Bool) : Nat → List ByteArray
 | 0 => []
 | i + 1 => offL D i ++ (if D i then [bs (wN i), bs [122]] else [])
theorem offL_len (D : Nat → Bool) : ∀ i, (offL D i).length ≤ 2 * i
 | 0 => by simp [offL]
 | i + 1 => by
  have := offL_len D i
  unfold offL
  rw [List.length_append]
  split <;> simp <;> omega
theorem dn_off (B R : Nat → Nat) (D : Nat → Bool) {k : Nat} (h : k < 4) : dnF (rts4 B R) (offL D 4) k = D k := by
  have : k = 0 ∨ k = 1 ∨ k = 2 ∨ k = 3 := by omega
  rcases this with rfl | rfl | rfl | rfl <;>
    (simp only [dnF, rts4, List.getElem?_cons_zero, List.getElem?_cons_succ, inS, offL, List.nil_append, List.any_append, bs_toList]
     cases D 0 <;> cases D 1 <;> cases D 2 <;> cases D 3 <;> simp [wN])
def chO (rts : List RouteM) : Option Nat → Nat × ByteArray × ByteArray
 | none => (4, bs [120], ByteArray.empty)
 | some x => (0, bs [120], rtName rts x)
theorem ch_dec (ch : Bool) (B R : Nat → Nat) (D : Nat → Bool) (am : Int) (h0 : 0 ≤ am) (h1 : am ≤ 1000000000) :
  decM (rts4 B R) (chL ch) ⟨bs [48, 49, 50, 51, 52, 53, 54, 55, 56, 57], 0, am, 0⟩ (dnF (rts4 B R) (offL D 4)) = chO (rts4 B R) (bestM ch (feeM (rts4 B R) am) D (List.range 4) none) := by
 have hy : payOk ⟨bs [48, 49, 50, 51, 52, 53, 54, 55, 56, 57], 0, am, 0⟩ = true := by
  unfold payOk
  rw [show panOk (bs [48, 49, 50, 51, 52, 53, 54, 55, 56, 57]) = true from by decide]
  simp [h0, h1]
 show decM (rts4 B R) [(chX ch).rl [0, 1, 2, 3] 4] _ _ = _
 have hm : meetC [(chX ch).rl [0, 1, 2, 3] 4] ⟨bs [48, 49, 50, 51, 52, 53, 54, 55, 56, 57], 0, am, 0⟩ (card6 (bs [48, 49, 50, 51, 52, 53, 54, 55, 56, 57])) 0 = true := by
  unfold meetC chX RuX.rl
  simp only [List.getElem?_cons_zero, List.map_nil, Option.map_none]
  rw [show card6 (bs [48, 49, 50, 51, 52, 53, 54, 55, 56, 57]) = 12345 from by decide]
  simp [meetG, amOk, numOf]
 rw [dec_one hy, if_pos hm]
 unfold outM
 rw [show ((chX ch).rl [0, 1, 2, 3] 4).decline = false from rfl, if_neg (by decide), show ((chX ch).rl [0, 1, 2, 3] 4).cheapest = ch from rfl, show ((chX ch).rl [0, 1, 2, 3] 4).routes = List.range 4 from rfl, show ((chX ch).rl [0, 1, 2, 3] 4).name = bs [120] from rfl]
 rw [bestM_dn (dn' := D) _ _ (fun x hx => dn_off B R D (List.mem_range.1 hx))]
 show (match bestM ch (feeM (rts4 B R) am) D (List.range 4) none with | none => (4, bs [120], ByteArray.empty) | some x => (0, bs [120], rtName (rts4 B R) x)) = _
 cases bestM ch (feeM (rts4 B R) am) D (List.range 4) none <;> rfl
theorem fee4 (B R : Nat → Nat) (am : Int) {k : Nat} (h : k < 4) : feeM (rts4 B R) am k = (B k : Int) + (R k : Int) * am := by
 have : k = 0 ∨ k = 1 ∨ k = 2 ∨ k = 3 := by omega
 rcases this with rfl | rfl | rfl | rfl <;> rfl
theorem name4 (B R : Nat → Nat) {k : Nat} (h : k < 4) : rtName (rts4 B R) k = bs (wN k) := by
 have : k = 0 ∨ k = 1 ∨ k = 2 ∨ k = 3 := by omega
 rcases this with rfl | rfl | rfl | rfl <;> rfl
end Go.Proofs.YtccikgogjfbpeaaGreatDoor
