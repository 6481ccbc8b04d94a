/- Regions: told: a payment that others understand. Regions: overlap: what is told of two rules that meet. -/
import Derived.Test.YtccikgogjfbpeaaGreatDoorYHa
import Derived.Test.YtccikgogjfbpeaaGreatDoorYMl
import Derived.Test.YtccikgogjfbpeaaGreatDoorYZb
namespace Go.Proofs.YtccikgogjfbpeaaGreatDoor
open Go.RowKit
def tolP (y : PaM) : PayM := ⟨strB (padL y.p0 6), (y.p1 : Nat), (y.p2 : Nat), (y.p3 : Nat)⟩
theorem nDig_le : ∀ (k u : Nat), u < 10 ^ (k + 1) → Lib.nDigits u ≤ k + 1
 | 0, u, h => by rw [Lib.nDigits_small (by simpa using h)]; exact Nat.le_refl _
 | k + 1, u, h => by
  by_cases h10 : u < 10
  ·rw [Lib.nDigits_small h10]; omega
  ·rw [Lib.nDigits_big h10]
   have : u / 10 < 10 ^ (k + 1) := by rw [Nat.div_lt_iff_lt_mul (by decide)]; rw [Nat.pow_succ] at h; exact h
   have := nDig_le k (u / 10) this
   omega
theorem dec6 {n : Nat} (h : n < 1000000) : (decN n).length ≤ 6 := by
 unfold decN
 rw [Lib.decDigits_length]
 exact nDig_le 5 n h
set_option maxRecDepth 30000 in
set_option maxHeartbeats 2000000 in
theorem told_any (y : PaM) (w : World) (ht : Tab w) (hn : y.p0 < 1000000) :
  Calls Tryz.prog 115 #[paV y] w fun e w' => e = .returned (payV (tolP y)) ∧ Fr (fun _ => False) w w' := by
 obtain ⟨w0, hw0⟩ : ∃ w0, (w.alloc (.cells #[.int .i64 (y.p0 : Nat), .int .i64 (y.p1 : Nat), .int .i64 (y.p2 : Nat), .int .i64 (y.p3 : Nat)] 139)).alloc (.cells #[.string ⟨#[]⟩, .int .i64 0, .int .i64 0, .int .i64 0] 35) = w0 := ⟨_, rfl⟩
 obtain ⟨P, hP⟩ : ∃ P, w.heap.size = P := ⟨_, rfl⟩
 have HF0 : Hid (Fr (fun _ => False) w w0) := by show Fr _ _ _; rw [← hw0]; exact ((Fr.refl _ _).alloc _).alloc _
 have HB0 : Hid (w0.heap[P]? = some (.cells #[.int .i64 (y.p0 : Nat), .int .i64 (y.p1 : Nat), .int .i64 (y.p2 : Nat), .int .i64 (y.p3 : Nat)] 139)) := by
  show _ = _
  rw [← hw0, ← hP]
  exact ((Fr.refl (fun _ => False) _).alloc _).whole (heap_alloc_new w _) (by simp)
 have HB1 : Hid (w0.heap[P + 1]? = some (.cells #[.string ⟨#[]⟩, .int .i64 0, .int .i64 0, .int .i64 0] 35)) := by
  show _ = _
  rw [← hw0, ← hP]
  have := heap_alloc_new (w.alloc (.cells #[.int .i64 (y.p0 : Nat), .int .i64 (y.p1 : Nat), .int .i64 (y.p2 : Nat), .int .i64 (y.p3 : Nat)] 139)) (.cells #[.string ⟨#[]⟩, .int .i64 0, .int .i64 0, .int .i64 0] 35)
  simpa using this
 have HI := hid (Itoa_any y.p0 w0 (by omega) (ht.fr HF0.out))
 have HL := hid (dec6 hn)
 have c0 := block_cell HB0.out 0 _ rfl
 have HPz : Hid (w.heap.size ≤ P + 1) := by show _ ≤ _; omega
 unfold paV
 clear ht hn
 go_enter Tryz.func115, Tryz.ntmps115
 go_wp2_with (go_at_call 106; refine HI.out.mono ?_)
 rintro e w1 ⟨rfl, hf1⟩
 have HF1 := hid hf1
 have HB2 := hid (hf1.whole HB0.out (by simp))
 have HB3 := hid (hf1.whole HB1.out (by simp))
 clear hf1 HI c0 hw0 hP HB0 HB1
 go_wp2_with fail
 go_loopg [3] 6 (fun mm sv wx => ∃ k, k + (decN y.p0).length ≤ 6 ∧ mm = 6 - k ∧ sv = .string (strB (List.replicate k 48 ++ decN y.p0)) ∧ wx = w1)
 case atStart => exact ⟨0, by have := HL.out; omega, rfl, rfl, rfl⟩
 case round =>
  obtain ⟨k, hk, rfl, rfl, hwx⟩ := hrel
  replace hwx := hwx.symm
  subst hwx
  obtain ⟨s, hs⟩ : ∃ s, strB (List.replicate k 48 ++ decN y.p0) = s := ⟨_, rfl⟩
  have hsz : s.size = k + (decN y.p0).length := by rw [← hs, strB_size]; simp
  have HS := hid hs
  rw [hs]
  clear hs
  by_cases hlt : k + (decN y.p0).length < 6
  ·have hsi : (s.size : Int) < 6 := by omega
   have HNx : Hid ((⟨#[48]⟩ : ByteArray) ++ s = strB (List.replicate (k + 1) 48 ++ decN y.p0)) := by
    show _ = _
    rw [← HS.out]
    apply ByteArray.ext
    apply Array.ext'
    simp [strB, List.replicate_succ]
   clear hsz
   go_wp2_with fail
   go_roundg (6 - (k + 1))
   case measure => omega
   case rel => exact ⟨k + 1, by omega, rfl, by rw [← HNx.out], rfl⟩
  ·have hsi : ¬ (s.size : Int) < 6 := by omega
   have HE : Hid (s = (tolP y).pan) := by
    show s = strB (padL y.p0 6)
    rw [← HS.out]
    unfold padL
    rw [show 6 - (decN y.p0).length = k from by omega]
   have a1 := block_cell HB2.out 1 _ rfl
   have a2 := block_cell HB2.out 2 _ rfl
   have a3 := block_cell HB2.out 3 _ rfl
   have r0 := block_cell HB3.out 0 _ rfl
   have r1 := block_cell HB3.out 1 _ rfl
   have r2 := block_cell HB3.out 2 _ rfl
   have r3 := block_cell HB3.out 3 _ rfl
   have z0 := block_frozen HB3.out 0
   have z1 := block_frozen HB3.out 1
   have z2 := block_frozen HB3.out 2
   have z3 := block_frozen HB3.out 3
   clear hlt hsz hk
   go_wp2_with fail
   have t1 := heap_setCell_same w1 (P + 1) 0 _ _ (.string s) HB3.out
   have t2 := heap_setCell_same _ (P + 1) 1 _ _ (.int .i64 (y.p1 : Nat)) t1
   have t3 := heap_setCell_same _ (P + 1) 2 _ _ (.int .i64 (y.p2 : Nat)) t2
   have t4 := heap_setCell_same _ (P + 1) 3 _ _ (.int .i64 (y.p3 : Nat)) t3
   have s0 := block_cell t4 0 _ rfl
   have s1 := block_cell t4 1 _ rfl
   have s2 := block_cell t4 2 _ rfl
   have s3 := block_cell t4 3 _ rfl
   have hfz := ((((HF0.out.trans HF1.out).setCell (p := ⟨P + 1, 0, none⟩) (Or.inr HPz.out) (.string s)).setCell (p := ⟨P + 1, 1, none⟩) (Or.inr HPz.out) (.int .i64 (y.p1 : Nat))).setCell (p := ⟨P + 1, 2, none⟩) (Or.inr HPz.out) (.int .i64 (y.p2 : Nat))).setCell (p := ⟨P + 1, 3, none⟩) (Or.inr HPz.out) (.int .i64 (y.p3 : Nat))
   refine bodyPost_ret (v := .agg #[.string s, .int .i64 (y.p1 : Nat), .int .i64 (y.p2 : Nat), .int .i64 (y.p3 : Nat)]) (by simp [results, Tryz.results115, go_sem, s0, s1, s2, s3]) rfl ⟨?_, hfz⟩
   unfold payV
   rw [← HE.out]
   rfl
end Go.Proofs.YtccikgogjfbpeaaGreatDoor

namespace Go.Proofs.YtccikgogjfbpeaaGreatDoor
open Go.RowKit
def ovV (n1 n2 : ByteArray) (p : PayM) : Value := .agg #[.string n1, .string n2, .string p.pan, .int .i64 p.mcc, .int .i64 p.am, .int .i64 p.cur]
set_option maxRecDepth 100000 in
set_option maxHeartbeats 8000000 in
theorem overlap_any (w : World) (r q : RuleM) (y : PaM) (ma : Option Addr) (mc : Nat) (ca : Option Addr) (cc : Nat) (pa : Option Addr) (pc : Nat) (ma2 : Option Addr) (mc2 : Nat) (ca2 : Option Addr) (cc2 : Nat) (pa2 : Option Addr) (pc2 : Nat)
  (h1 : r.name.size ≤ 3000) (h2 : q.name.size ≤ 3000) (hy : y.p0 < 1000000) (ht : Tab w) :
  Calls Tryz.prog 68 #[.agg #[.string r.name, .int .i64 r.rank, .int .i64 r.digits, .int .i64 r.lo, .int .i64 r.hi, .slice ma r.mcc.length mc, .bool r.am.isSome, .int .i64 (r.am.getD (0, 0)).1, .int .i64 (r.am.getD (0, 0)).2, .slice ca r.cur.length cc, .bool r.decline, .bool r.cheapest, .slice pa r.routes.length pc, .int .i64 r.ahead], .agg #[.string q.name, .int .i64 q.rank, .int .i64 q.digits, .int .i64 q.lo, .int .i64 q.hi, .slice ma2 q.mcc.length mc2, .bool q.am.isSome, .int .i64 (q.am.getD (0, 0)).1, .int .i64 (q.am.getD (0, 0)).2, .slice ca2 q.cur.length cc2, .bool q.decline, .bool q.cheapest, .slice pa2 q.routes.length pc2, .int .i64 q.ahead], paV y] w fun e w' => e = .returned (ovV r.name q.name (tolP y)) ∧ Fr (fun _ => False) w w' := by
 obtain ⟨w0, hw0⟩ : ∃ w0, (((w.alloc (.cells #[.string r.name, .int .i64 r.rank, .int .i64 r.digits, .int .i64 r.lo, .int .i64 r.hi, .slice ma r.mcc.length mc, .bool r.am.isSome, .int .i64 (r.am.getD (0, 0)).1, .int .i64 (r.am.getD (0, 0)).2, .slice ca r.cur.length cc, .bool r.decline, .bool r.cheapest, .slice pa r.routes.length pc, .int .i64 r.ahead] 120)).alloc (.cells #[.string q.name, .int .i64 q.rank, .int .i64 q.digits, .int .i64 q.lo, .int .i64 q.hi, .slice ma2 q.mcc.length mc2, .bool q.am.isSome, .int .i64 (q.am.getD (0, 0)).1, .int .i64 (q.am.getD (0, 0)).2, .slice ca2 q.cur.length cc2, .bool q.decline, .bool q.cheapest, .slice pa2 q.routes.length pc2, .int .i64 q.ahead] 120)).alloc (.cells #[.int .i64 (y.p0 : Nat), .int .i64 (y.p1 : Nat), .int .i64 (y.p2 : Nat), .int .i64 (y.p3 : Nat)] 139)).alloc (.cells #[.string ⟨#[]⟩, .string ⟨#[]⟩, .string ⟨#[]⟩, .int .i64 0, .int .i64 0, .int .i64 0] 44) = w0 := ⟨_, rfl⟩
 obtain ⟨P, hP⟩ : ∃ P, w.heap.size = P := ⟨_, rfl⟩
 have HF0 : Hid (Fr (fun _ => False) w w0) := by show Fr _ _ _; rw [← hw0]; exact ((((Fr.refl _ _).alloc _).alloc _).alloc _).alloc _
 have HB0 : Hid (w0.heap[P]? = some (.cells #[.string r.name, .int .i64 r.rank, .int .i64 r.digits, .int .i64 r.lo, .int .i64 r.hi, .slice ma r.mcc.length mc, .bool r.am.isSome, .int .i64 (r.am.getD (0, 0)).1, .int .i64 (r.am.getD (0, 0)).2, .slice ca r.cur.length cc, .bool r.decline, .bool r.cheapest, .slice pa r.routes.length pc, .int .i64 r.ahead] 120)) := by
  show _ = _
  rw [← hw0, ← hP]
  exact ((((Fr.refl (fun _ => False) _).alloc _).alloc _).alloc _).whole (heap_alloc_new w _) (by simp)
 have HB1 : Hid (w0.heap[P + 1]? = some (.cells #[.string q.name, .int .i64 q.rank, .int .i64 q.digits, .int .i64 q.lo, .int .i64 q.hi, .slice ma2 q.mcc.length mc2, .bool q.am.isSome, .int .i64 (q.am.getD (0, 0)).1, .int .i64 (q.am.getD (0, 0)).2, .slice ca2 q.cur.length cc2, .bool q.decline, .bool q.cheapest, .slice pa2 q.routes.length pc2, .int .i64 q.ahead] 120)) := by
  show _ = _
  rw [← hw0, ← hP]
  exact (((Fr.refl (fun _ => False) _).alloc _).alloc _).whole (by have := heap_alloc_new (w.alloc (.cells #[.string r.name, .int .i64 r.rank, .int .i64 r.digits, .int .i64 r.lo, .int .i64 r.hi, .slice ma r.mcc.length mc, .bool r.am.isSome, .int .i64 (r.am.getD (0, 0)).1, .int .i64 (r.am.getD (0, 0)).2, .slice ca r.cur.length cc, .bool r.decline, .bool r.cheapest, .slice pa r.routes.length pc, .int .i64 r.ahead] 120)) (.cells #[.string q.name, .int .i64 q.rank, .int .i64 q.digits, .int .i64 q.lo, .int .i64 q.hi, .slice ma2 q.mcc.length mc2, .bool q.am.isSome, .int .i64 (q.am.getD (0, 0)).1, .int .i64 (q.am.getD (0, 0)).2, .slice ca2 q.cur.length cc2, .bool q.decline, .bool q.cheapest, .slice pa2 q.routes.length pc2, .int .i64 q.ahead] 120); simpa using this) (by simp)
 have HB2 : Hid (w0.heap[P + 1 + 1]? = some (.cells #[.int .i64 (y.p0 : Nat), .int .i64 (y.p1 : Nat), .int .i64 (y.p2 : Nat), .int .i64 (y.p3 : Nat)] 139)) := by
  show _ = _
  rw [← hw0, ← hP]
  exact ((Fr.refl (fun _ => False) _).alloc _).whole (by have := heap_alloc_new ((w.alloc (.cells #[.string r.name, .int .i64 r.rank, .int .i64 r.digits, .int .i64 r.lo, .int .i64 r.hi, .slice ma r.mcc.length mc, .bool r.am.isSome, .int .i64 (r.am.getD (0, 0)).1, .int .i64 (r.am.getD (0, 0)).2, .slice ca r.cur.length cc, .bool r.decline, .bool r.cheapest, .slice pa r.routes.length pc, .int .i64 r.ahead] 120)).alloc (.cells #[.string q.name, .int .i64 q.rank, .int .i64 q.digits, .int .i64 q.lo, .int .i64 q.hi, .slice ma2 q.mcc.length mc2, .bool q.am.isSome, .int .i64 (q.am.getD (0, 0)).1, .int .i64 (q.am.getD (0, 0)).2, .slice ca2 q.cur.length cc2, .bool q.decline, .bool q.cheapest, .slice pa2 q.routes.length pc2, .int .i64 q.ahead] 120)) (.cells #[.int .i64 (y.p0 : Nat), .int .i64 (y.p1 : Nat), .int .i64 (y.p2 : Nat), .int .i64 (y.p3 : Nat)] 139); simpa using this) (by simp)
 have HB3 : Hid (w0.heap[P + 1 + 1 + 1]? = some (.cells #[.string ⟨#[]⟩, .string ⟨#[]⟩, .string ⟨#[]⟩, .int .i64 0, .int .i64 0, .int .i64 0] 44)) := by
  show _ = _
  rw [← hw0, ← hP]
  have := heap_alloc_new (((w.alloc (.cells #[.string r.name, .int .i64 r.rank, .int .i64 r.digits, .int .i64 r.lo, .int .i64 r.hi, .slice ma r.mcc.length mc, .bool r.am.isSome, .int .i64 (r.am.getD (0, 0)).1, .int .i64 (r.am.getD (0, 0)).2, .slice ca r.cur.length cc, .bool r.decline, .bool r.cheapest, .slice pa r.routes.length pc, .int .i64 r.ahead] 120)).alloc (.cells #[.string q.name, .int .i64 q.rank, .int .i64 q.digits, .int .i64 q.lo, .int .i64 q.hi, .slice ma2 q.mcc.length mc2, .bool q.am.isSome, .int .i64 (q.am.getD (0, 0)).1, .int .i64 (q.am.getD (0, 0)).2, .slice ca2 q.cur.length cc2, .bool q.decline, .bool q.cheapest, .slice pa2 q.routes.length pc2, .int .i64 q.ahead] 120)).alloc (.cells #[.int .i64 (y.p0 : Nat), .int .i64 (y.p1 : Nat), .int .i64 (y.p2 : Nat), .int .i64 (y.p3 : Nat)] 139)) (.cells #[.string ⟨#[]⟩, .string ⟨#[]⟩, .string ⟨#[]⟩, .int .i64 0, .int .i64 0, .int .i64 0] 44)
  simpa using this
 have HSP : Hid (∀ W, Fr (fun k => k = P + 1 + 1 + 1) w0 W → W.cell? ⟨P, 0, none⟩ = some (.string r.name) ∧ W.cell? ⟨P + 1, 0, none⟩ = some (.string q.name) ∧ W.heap[P + 1 + 1]? = some (.cells #[.int .i64 (y.p0 : Nat), .int .i64 (y.p1 : Nat), .int .i64 (y.p2 : Nat), .int .i64 (y.p3 : Nat)] 139)) := fun W hf => ⟨block_cell (hf.whole HB0.out (by show ¬ P = P + 1 + 1 + 1; omega)) 0 _ rfl, block_cell (hf.whole HB1.out (by show ¬ P + 1 = P + 1 + 1 + 1; omega)) 0 _ rfl, hf.whole HB2.out (by show ¬ P + 1 + 1 = P + 1 + 1 + 1; omega)⟩
 have HC1 : Hid (∀ W, Calls Tryz.prog 96 #[.string r.name] W fun e w' => e = .returned (.string r.name) ∧ Fr (fun _ => False) W w') := fun W => Clone_any r.name W h1
 have HC2 : Hid (∀ W, Calls Tryz.prog 96 #[.string q.name] W fun e w' => e = .returned (.string q.name) ∧ Fr (fun _ => False) W w') := fun W => Clone_any q.name W h2
 have HTl : Hid (∀ W, Fr (fun _ => False) w0 W → Calls Tryz.prog 115 #[.agg #[.int .i64 (y.p0 : Nat), .int .i64 (y.p1 : Nat), .int .i64 (y.p2 : Nat), .int .i64 (y.p3 : Nat)]] W fun e w' => e = .returned (.agg #[.string (tolP y).pan, .int .i64 (tolP y).mcc, .int .i64 (tolP y).am, .int .i64 (tolP y).cur]) ∧ Fr (fun _ => False) W w') := fun W hf => told_any y W (ht.fr (HF0.out.trans hf)) hy
 have HPw : Hid (w.heap.size ≤ P + 1 + 1 + 1) := by show _ ≤ _; omega
 generalize tolP y = tp at *
 unfold paV
 clear h1 h2 hy ht
 go_enter Tryz.func68, Tryz.ntmps68
 go_upto_region 1 with fail
 clear hw0 hP
 have HF00 : Hid (Fr (fun _ => False) w0 w0.drew) := (Fr.refl _ _).drew
 refine wp_region_held_drew (S := fun W => W.cell? ⟨P, 0, none⟩ = some (.string r.name) ∧ W.cell? ⟨P + 1, 0, none⟩ = some (.string q.name) ∧ W.heap[P + 1 + 1]? = some (.cells #[.int .i64 (y.p0 : Nat), .int .i64 (y.p1 : Nat), .int .i64 (y.p2 : Nat), .int .i64 (y.p3 : Nat)] 139)) (by kernel_rfl) (HSP.out _ (HF00.out.mono (fun _ h => h.elim))) (fun hH => ?_)
 refine held_take 0 (v := ?v0z) rfl (by kernel_rfl) (by kernel_rfl) (by kernel_rfl) (fun _ _ _ h => h) rfl ?y0z hH ?r0z
 case y0z =>
  rintro w ⟨s0, s1, s2⟩
  have c0 := block_cell s2 0 _ rfl
  have c1 := block_cell s2 1 _ rfl
  have c2 := block_cell s2 2 _ rfl
  have c3 := block_cell s2 3 _ rfl
  clear s2
  go_simp
  with_reducible rfl
 try go_frame
 refine held_take 1 (v := ?v1z) rfl (by kernel_rfl) (by kernel_rfl) (by kernel_rfl) (fun _ _ _ h => h) rfl ?y1z hH ?r1z
 case y1z =>
  rintro w ⟨s0, s1, s2⟩
  have c0 := block_cell s2 0 _ rfl
  have c1 := block_cell s2 1 _ rfl
  have c2 := block_cell s2 2 _ rfl
  have c3 := block_cell s2 3 _ rfl
  clear s2
  go_simp
  with_reducible rfl
 try go_frame
 refine held_take 3 (v := ?v3z) rfl (by kernel_rfl) (by kernel_rfl) (by kernel_rfl) (fun _ _ _ h => h) rfl ?y3z hH ?r3z
 case y3z =>
  rintro w ⟨s0, s1, s2⟩
  have c0 := block_cell s2 0 _ rfl
  have c1 := block_cell s2 1 _ rfl
  have c2 := block_cell s2 2 _ rfl
  have c3 := block_cell s2 3 _ rfl
  clear s2
  go_simp
  with_reducible rfl
 try go_frame
 refine held_take 4 (v := ?v4z) rfl (by kernel_rfl) (by kernel_rfl) (by kernel_rfl) (fun _ _ _ h => h) rfl ?y4z hH ?r4z
 case y4z =>
  rintro w ⟨s0, s1, s2⟩
  have c0 := block_cell s2 0 _ rfl
  have c1 := block_cell s2 1 _ rfl
  have c2 := block_cell s2 2 _ rfl
  have c3 := block_cell s2 3 _ rfl
  clear s2
  go_simp
  with_reducible rfl
 try go_frame
 refine held_take 6 (v := ?v6z) rfl (by kernel_rfl) (by kernel_rfl) (by kernel_rfl) (fun _ _ _ h => h) rfl ?y6z hH ?r6z
 case y6z =>
  rintro w ⟨s0, s1, s2⟩
  have c0 := block_cell s2 0 _ rfl
  have c1 := block_cell s2 1 _ rfl
  have c2 := block_cell s2 2 _ rfl
  have c3 := block_cell s2 3 _ rfl
  clear s2
  go_simp
  with_reducible rfl
 try go_frame
 refine wpAnyH_ready (rs := [2]) (by kernel_rfl) (by simp) ?_
 refine held_cons rfl (fun K2 hK => ?_) AllReadyH.nil
 try rw [if_pos (by rfl)]
 go_simp
 refine (HC1.out _).mono ?_
 rintro e wa ⟨rfl, hf⟩
 have HFa := hid (HF00.out.trans hf)
 clear hf
 refine hK.out _ _ (HSP.out _ (HFa.out.mono (fun _ h => h.elim))) (fun hH => ?_)
 clear hK K2
 try go_frame
 refine wpAnyH_ready (rs := [5]) (by kernel_rfl) (by simp) ?_
 refine held_cons rfl (fun K2 hK => ?_) AllReadyH.nil
 try rw [if_pos (by rfl)]
 go_simp
 refine (HC2.out _).mono ?_
 rintro e wb ⟨rfl, hf⟩
 have HFb := hid (HFa.out.trans hf)
 clear hf
 refine hK.out _ _ (HSP.out _ (HFb.out.mono (fun _ h => h.elim))) (fun hH => ?_)
 clear hK K2
 try go_frame
 refine wpAnyH_ready (rs := [7]) (by kernel_rfl) (by simp) ?_
 refine held_cons rfl (fun K2 hK => ?_) AllReadyH.nil
 try rw [if_pos (by rfl)]
 go_simp
 refine (HTl.out _ HFb.out).mono ?_
 rintro e wd ⟨rfl, hf⟩
 have HFd := hid (HFb.out.trans hf)
 clear hf
 refine hK.out _ _ (HSP.out _ (HFd.out.mono (fun _ h => h.elim))) (fun hH => ?_)
 clear hK K2
 try go_frame
 refine held_take 8 (v := ?v8z) rfl (by kernel_rfl) (by kernel_rfl) (by kernel_rfl) (fun _ _ _ h => h) rfl ?y8z hH ?r8z
 case y8z =>
  rintro w ⟨s0, s1, s2⟩
  have c0 := block_cell s2 0 _ rfl
  have c1 := block_cell s2 1 _ rfl
  have c2 := block_cell s2 2 _ rfl
  have c3 := block_cell s2 3 _ rfl
  clear s2
  go_simp
  with_reducible rfl
 try go_frame
 have HB4 := hid (HFd.out.whole HB3.out (by simp))
 have r0 := block_cell HB4.out 0 _ rfl
 have r1 := block_cell HB4.out 1 _ rfl
 have r2 := block_cell HB4.out 2 _ rfl
 have r3 := block_cell HB4.out 3 _ rfl
 have r4 := block_cell HB4.out 4 _ rfl
 have r5 := block_cell HB4.out 5 _ rfl
 have z0 := block_frozen HB4.out 0
 have z1 := block_frozen HB4.out 1
 have z2 := block_frozen HB4.out 2
 have z3 := block_frozen HB4.out 3
 have z4 := block_frozen HB4.out 4
 have z5 := block_frozen HB4.out 5
 refine wpAnyH_ready (rs := [9]) (by kernel_rfl) (by simp) ?_
 refine held_cons rfl (fun K2 hK => ?_) AllReadyH.nil
 try rw [if_pos (by rfl)]
 go_simp
 have t0 := heap_setCell_same wd (P + 1 + 1 + 1) 0 _ _ (.string r.name) HB4.out
 have t1 := heap_setCell_same _ (P + 1 + 1 + 1) 1 _ _ (.string q.name) t0
 have t2 := heap_setCell_same _ (P + 1 + 1 + 1) 2 _ _ (.string tp.pan) t1
 have t3 := heap_setCell_same _ (P + 1 + 1 + 1) 3 _ _ (.int .i64 tp.mcc) t2
 have t4 := heap_setCell_same _ (P + 1 + 1 + 1) 4 _ _ (.int .i64 tp.am) t3
 have t5 := heap_setCell_same _ (P + 1 + 1 + 1) 5 _ _ (.int .i64 tp.cur) t4
 have HFe := hid (((((((HFd.out.mono (S := fun _ => False) (T := fun k => k = P + 1 + 1 + 1) (fun _ h => h.elim)).setCell (p := ⟨P + 1 + 1 + 1, 0, none⟩) (.inl rfl) (.string r.name)).setCell (p := ⟨P + 1 + 1 + 1, 1, none⟩) (.inl rfl) (.string q.name)).setCell (p := ⟨P + 1 + 1 + 1, 2, none⟩) (.inl rfl) (.string tp.pan)).setCell (p := ⟨P + 1 + 1 + 1, 3, none⟩) (.inl rfl) (.int .i64 tp.mcc)).setCell (p := ⟨P + 1 + 1 + 1, 4, none⟩) (.inl rfl) (.int .i64 tp.am)).setCell (p := ⟨P + 1 + 1 + 1, 5, none⟩) (.inl rfl) (.int .i64 tp.cur))
 have HT5 := hid t5
 clear t0 t1 t2 t3 t4 t5 r0 r1 r2 r3 r4 r5 z0 z1 z2 z3 z4 z5
 refine hK.out _ _ (HSP.out _ HFe.out) (fun hH => ?_)
 clear hK K2
 try go_frame
 generalize ((((((wd.setCell ⟨P + 1 + 1 + 1, 0, none⟩ (.string r.name)).setCell ⟨P + 1 + 1 + 1, 1, none⟩ (.string q.name)).setCell ⟨P + 1 + 1 + 1, 2, none⟩ (.string tp.pan)).setCell ⟨P + 1 + 1 + 1, 3, none⟩ (.int .i64 tp.mcc)).setCell ⟨P + 1 + 1 + 1, 4, none⟩ (.int .i64 tp.am)).setCell ⟨P + 1 + 1 + 1, 5, none⟩ (.int .i64 tp.cur)) = we at *
 refine wpAnyH_done (by kernel_rfl) ?_ _
 go_wp2_with fail
 have s0 := block_cell HT5.out 0 _ rfl
 have s1 := block_cell HT5.out 1 _ rfl
 have s2 := block_cell HT5.out 2 _ rfl
 have s3 := block_cell HT5.out 3 _ rfl
 have s4 := block_cell HT5.out 4 _ rfl
 have s5 := block_cell HT5.out 5 _ rfl
 refine bodyPost_ret (v := ovV r.name q.name tp) (by simp [results, Tryz.results68, go_sem, s0, s1, s2, s3, s4, s5, ovV]) rfl ⟨rfl, ?_⟩
 exact HF0.out.monoNew HFe.out (fun k h => .inr (by have := HPw.out; omega))
end Go.Proofs.YtccikgogjfbpeaaGreatDoor
