/- The keeps: awake. A rule with one range of digits: what is read, and what it decides; plain. -/
import Derived.Test.YtccikgogjfbpeaaHa
import Derived.Test.YtccikgogjfbpeaaKb
import Derived.Laws.CopyOwn
namespace Go.Proofs.Ytccikgogjfbpeaa
open Go.RowKit

def awT : List UInt8 := [114, 111, 117, 116, 101, 32, 97, 32, 49, 32, 48, 59, 32, 114, 117, 108, 101, 32, 120, 32, 49, 58, 32, 98, 105, 110, 32, 52, 46, 46, 53, 32, 45, 62, 32, 97, 59]
def awX : RuX := ⟨[120], [49], [52], [53], [], none, [], false, false, [[97]]⟩
def awR : List RouteM := [⟨bs [97], 1, 0⟩]
def awL : List RuleM := [awX.rl [0] 1]
theorem awX_ok : awX.Ok :=
 ⟨nmL_of rfl (by decide) (by decide) (by decide) (by decide), dgL_of (by decide) (by decide) (by decide), dgL_of (by decide) (by decide) (by decide), dgL_of (by decide) (by decide) (by decide), fun w hw => (by simp [awX] at hw), fun ab h => (by simp [awX] at h), fun w hw => (by simp [awX] at hw),
  fun w hw => (by simp [awX] at hw; subst hw; exact nmL_of rfl (by decide) (by decide) (by decide) (by decide)), .inr ⟨rfl, by simp [awX]⟩⟩
theorem aw_read : readM (bs awT) = .ok (awR, awL) := by
 have h := tx_route (nm := [97]) (b := [49]) (c := [48]) (nmL_of rfl (by decide) (by decide) (by decide) (by decide)) (dgL_of (by decide) (by decide) (by decide)) (dgL_of (by decide) (by decide) (by decide)) (tx_blank (tx_rule awX_ok (tx_nil 1)))
 have e : bs awT = bs (rtX [97] [49] [48] ++ 32 :: (awX.text ++ [])) := rfl
 rw [e, readM_of h (by decide), under_route (by decide) (by decide) (by decide) (by decide), List.nil_append,
  under_rule (ps := [0]) (by decide) rfl ⟨by decide, by decide, by decide, by decide, ⟨by decide, by decide⟩, by simp [awX], ⟨by decide, by decide⟩⟩ (by simp only [awX, List.map_cons, List.map_nil, plsFrom]; rw [if_neg (by decide), show (nT [97] 1).text = bs [97] from rfl, place_eq (by decide)]; rfl)]
 rfl
theorem aw_1 : decM awR awL ⟨bs [52, 57, 57, 57, 57, 57], 0, 0, 0⟩ (dnF awR []) = (0, bs [120], bs [97]) := by
 unfold awL
 rw [dec_one (by decide), if_pos (by decide)]
 rfl
theorem aw_2 : decM awR awL ⟨bs [51, 57, 57, 57, 57, 57], 0, 0, 0⟩ (dnF awR []) = (2, ByteArray.empty, ByteArray.empty) := by
 unfold awL
 rw [dec_one (by decide), if_neg (by decide)]
set_option maxRecDepth 30000 in
set_option maxHeartbeats 2000000 in
theorem kawake_any (w : World) : Calls Try.prog 4 #[] w fun e w' => e = .returned (.bool true) ∧ Fr (fun _ => False) w w' := by
 have HT := hid (ktable_any (bs awT) w _ aw_read)
 unfold awT at HT
 go_enter Try.func4, Try.ntmps4
 go_wp2_with fail
 refine HT.out.mono ?_
 rintro e w1 ⟨⟨T, rfl, hT⟩, hf1⟩
 have HTB := hid hT
 have HF1 := hid hf1
 clear hT hf1 HT
 have HD1 : Hid (Calls Try.prog 8 #[.pointer (some ⟨T, 0, none⟩), .agg #[.string ⟨#[52, 57, 57, 57, 57, 57]⟩, .int .i64 0, .int .i64 0, .int .i64 0], .slice none 0 0] w1 fun e w' => e = .returned (.agg #[.int .i64 0, .string ⟨#[120]⟩, .string ⟨#[97]⟩]) ∧ Fr (fun _ => False) w1 w') := by
  have e := HTB.out.decide0 ⟨bs [52, 57, 57, 57, 57, 57], 0, 0, 0⟩ (by decide)
  rw [aw_1] at e
  exact e
 go_wp2_with fail
 refine HD1.out.mono ?_
 rintro e w2 ⟨rfl, hf2⟩
 have HB1 := hid (heap_alloc_new w2 (oK (0, bs [120], bs [97])))
 have HF2 := hid ((HF1.out.trans hf2).alloc (oK (0, bs [120], bs [97])))
 have HTC := hid ((HTB.out.fr hf2).fr ((Fr.refl _ _).alloc (oK (0, bs [120], bs [97]))))
 have HD2 : Hid (Calls Try.prog 8 #[.pointer (some ⟨T, 0, none⟩), .agg #[.string ⟨#[51, 57, 57, 57, 57, 57]⟩, .int .i64 0, .int .i64 0, .int .i64 0], .slice none 0 0] (w2.alloc (.cells #[.int .i64 0, .string ⟨#[120]⟩, .string ⟨#[97]⟩] 29)) fun e w' => e = .returned (.agg #[.int .i64 2, .string ⟨#[]⟩, .string ⟨#[]⟩]) ∧ Fr (fun _ => False) (w2.alloc (.cells #[.int .i64 0, .string ⟨#[120]⟩, .string ⟨#[97]⟩] 29)) w') := by
  have e := HTC.out.decide0 ⟨bs [51, 57, 57, 57, 57, 57], 0, 0, 0⟩ (by decide)
  rw [aw_2] at e
  exact e
 clear hf2 HD1 HTB HF1 HTC
 go_wp2_with fail
 refine HD2.out.mono ?_
 rintro e w3 ⟨rfl, hf3⟩
 have b2 := heap_alloc_new w3 (oK (2, ByteArray.empty, ByteArray.empty))
 have b1 := ((Fr.refl (fun _ => False) _).alloc (oK (2, ByteArray.empty, ByteArray.empty))).whole (hf3.whole HB1.out (by simp)) (by simp)
 have HF3 := hid ((HF2.out.trans hf3).alloc (oK (2, ByteArray.empty, ByteArray.empty)))
 have p0 : (w3.alloc (.cells #[.int .i64 2, .string ⟨#[]⟩, .string ⟨#[]⟩] 29)).cell? ⟨w2.heap.size, 0, none⟩ = some (.int .i64 0) := block_cell b1 0 _ rfl
 have p1 : (w3.alloc (.cells #[.int .i64 2, .string ⟨#[]⟩, .string ⟨#[]⟩] 29)).cell? ⟨w2.heap.size, 1, none⟩ = some (.string ⟨#[120]⟩) := block_cell b1 1 _ rfl
 have p2 : (w3.alloc (.cells #[.int .i64 2, .string ⟨#[]⟩, .string ⟨#[]⟩] 29)).cell? ⟨w2.heap.size, 2, none⟩ = some (.string ⟨#[97]⟩) := block_cell b1 2 _ rfl
 have q0 : (w3.alloc (.cells #[.int .i64 2, .string ⟨#[]⟩, .string ⟨#[]⟩] 29)).cell? ⟨w3.heap.size, 0, none⟩ = some (.int .i64 2) := block_cell b2 0 _ rfl
 have q1 : (w3.alloc (.cells #[.int .i64 2, .string ⟨#[]⟩, .string ⟨#[]⟩] 29)).cell? ⟨w3.heap.size, 1, none⟩ = some (.string ⟨#[]⟩) := block_cell b2 1 _ rfl
 have q2 : (w3.alloc (.cells #[.int .i64 2, .string ⟨#[]⟩, .string ⟨#[]⟩] 29)).cell? ⟨w3.heap.size, 2, none⟩ = some (.string ⟨#[]⟩) := block_cell b2 2 _ rfl
 clear hf3 HD2 HB1 HF2 b1 b2
 go_wp2_with fail
 go_ret
 exact ⟨rfl, HF3.out⟩
end Go.Proofs.Ytccikgogjfbpeaa

namespace Go.Proofs.Ytccikgogjfbpeaa

def rgX (lo hi : List UInt8) : RuX := ⟨[120], [49], lo, hi, [], none, [], false, false, [[98]]⟩
def rgH : List UInt8 := [114, 111, 117, 116, 101, 32, 97, 32, 49, 48, 32, 50, 59, 32, 114, 111, 117, 116, 101, 32, 98, 32, 53, 48, 48, 32, 48, 59, 32, 114, 111, 117, 116, 101, 32, 99, 32, 48, 32, 57, 59, 10, 114, 117, 108, 101, 32, 120, 32, 49, 58, 32, 98, 105, 110, 32]
def rgL (lo hi : List UInt8) : List RuleM := [(rgX lo hi).rl [1] 3]
theorem rgX_ok {lo hi : List UInt8} (h1 : DgL lo) (h2 : DgL hi) : (rgX lo hi).Ok :=
 ⟨show NmL [120] from nmL_of rfl (by decide) (by decide) (by decide) (by decide), show DgL [49] from dgL_of (by decide) (by decide) (by decide), h1, h2, fun w hw => (by simp [rgX] at hw), fun ab h => (by simp [rgX] at h), fun w hw => (by simp [rgX] at hw),
  fun w hw => (by simp [rgX] at hw; subst hw; exact nmL_of rfl (by decide) (by decide) (by decide) (by decide)), .inr ⟨rfl, by simp [rgX]⟩⟩
theorem rg_read {lo hi : List UInt8} (h1 : DgL lo) (h2 : DgL hi) (h6 : lo.length ≤ 6) (he : hi.length = lo.length) (hle : numOf lo ≤ numOf hi) :
  readM (bs (rgH ++ (lo ++ ([46, 46] ++ (hi ++ [32, 45, 62, 32, 98, 59]))))) = .ok (rts3, rgL lo hi) := by
 have h := tx_routes3 (tx_rule (rgX_ok h1 h2) (tx_nil 2))
 have e : rgH ++ (lo ++ ([46, 46] ++ (hi ++ [32, 45, 62, 32, 98, 59]))) = routes3 ++ ((rgX lo hi).text ++ []) := by
  simp [rgH, routes3, RuX.text, gX, rgX, gdX, amX, acX, commaX]
 rw [e, readM_of h (by simp [RuX.text, gX, rgX, gdX, amX, acX, commaX, routes3]; omega), under_routes3,
  under_rule (r := rgX lo hi) (ps := [1]) (by decide) rfl ⟨show numOf [49] ≤ 1000 by decide, h6, he, hle, ⟨show (0 : Nat) ≤ 4 by decide, by intro w hw; simp [rgX] at hw⟩, by intro ab hab; simp [rgX] at hab, ⟨show (0 : Nat) ≤ 4 by decide, by intro w hw; simp [rgX] at hw⟩⟩
   (by simp only [rgX, List.map_cons, List.map_nil, plsFrom]; rw [if_neg (by decide), show (nT [98] 2).text = bs [98] from rfl]; unfold rts3; rw [place_ne (by decide), place_eq (by decide)]; rfl)]
 rfl
theorem rg_dec {f t n wd : Nat} {S : ByteArray} {r : List UInt8} {cur : Int} (hf : f < 10 ^ wd) (hn : n < 10 ^ wd) (hw : wd ≤ 6) (hS : S.data.toList = digL n wd ++ r) (h6 : 6 ≤ S.size) (h19 : S.size ≤ 19) (hd : ∀ x, x ∈ S.data.toList → 48 ≤ x.toNat ∧ x.toNat ≤ 57) (hc : 0 ≤ cur ∧ cur ≤ 999) :
  decM rts3 (rgL (digL f wd) (digL t wd)) ⟨S, 0, 0, cur⟩ (dnF rts3 []) = if f ≤ n ∧ n ≤ t then (0, bs [120], bs [98]) else (2, ByteArray.empty, ByteArray.empty) := by
 have hp : panOk S = true := by
  unfold panOk
  simp only [Bool.and_eq_true, decide_eq_true_eq, List.all_eq_true]
  exact ⟨h6, h19, fun x hx => hd x hx⟩
 have hy : payOk ⟨S, 0, 0, cur⟩ = true := by
  unfold payOk
  rw [hp]
  simp [hc.1, hc.2]
 have hl := digL_len wd n hn
 have hc6 := card_head hp hS (by omega)
 rw [hl, digL_num _ n wd rfl] at hc6
 have hm : meetC (rgL (digL f wd) (digL t wd)) ⟨S, 0, 0, cur⟩ (card6 S) 0 = decide (f ≤ n ∧ n ≤ t) := by
  unfold meetC rgL RuX.rl rgX
  simp only [List.getElem?_cons_zero]
  rw [digL_len wd f hf, hc6, digL_num _ f wd rfl, digL_num _ t wd rfl]
  simp [meetG, amOk]
 show decM rts3 [(rgX (digL f wd) (digL t wd)).rl [1] 3] _ _ = _
 rw [dec_one hy]
 have hm' : meetC [(rgX (digL f wd) (digL t wd)).rl [1] 3] ⟨S, 0, 0, cur⟩ (card6 S) 0 = decide (f ≤ n ∧ n ≤ t) := hm
 rw [hm']
 by_cases hb : f ≤ n ∧ n ≤ t
 ·rw [if_pos hb, if_pos (by simpa using hb)]
  rfl
 ·rw [if_neg hb, if_neg (by simpa using hb)]
end Go.Proofs.Ytccikgogjfbpeaa
