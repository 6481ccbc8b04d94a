/- Deciding: the end by a route; fees; the first, the cheapest. Deciding: the first route that is up, the cheapest. Deciding: the leaf of a card; what is down. -/
import Derived.Test.YtccikgogjfbpeabGreatDoorWHa
import Derived.Test.YtccikgogjfbpeabGreatDoorWDb
import Derived.Test.YtccikgogjfbpeabGreatDoorWZa
namespace Go.Proofs.YtccikgogjfbpeabGreatDoor
open Go.RowKit
structure RtAt (w : World) (TT Q : Nat) (rts : List RouteM) (ra : Option Addr) (rc : Nat) : Prop where
 c0 : w.cell? ⟨TT, 0, none⟩ = some (.slice ra rts.length rc)
 nt : TT ≠ Q
 rt : ∀ i t, rts[i]? = some t -> ∃ g, ra = some ⟨g, 0, none⟩ /\ g ≠ Q /\ w.cell? ⟨g, i * 3, none⟩ = some (.string t.name) /\ w.cell? ⟨g, i * 3 + 1, none⟩ = some (.int .i64 (t.base : Nat)) /\ w.cell? ⟨g, i * 3 + 2, none⟩ = some (.int .i64 (t.rate : Nat))
 sz : ∀ t, t ∈ rts -> RtOk t
theorem RtAt.fr {w w' : World} {TT Q : Nat} {rts : List RouteM} {ra : Option Addr} {rc : Nat} (h : RtAt w TT Q rts ra rc) (hf : Fr (fun j => j = Q) w w') : RtAt w' TT Q rts ra rc := by
 refine ⟨(hf.cell (p := ⟨TT, 0, none⟩) (World.block_lt_of_cell? w _ h.c0) h.nt).trans h.c0, h.nt, fun i t hi => ?_, h.sz⟩
 obtain ⟨g, e1, e2, e3, e4, e5⟩ := h.rt i t hi
 have hl := World.block_lt_of_cell? w _ e3
 exact ⟨g, e1, e2, (hf.cell (p := ⟨g, i * 3, none⟩) hl e2).trans e3, (hf.cell (p := ⟨g, i * 3 + 1, none⟩) hl e2).trans e4, (hf.cell (p := ⟨g, i * 3 + 2, none⟩) hl e2).trans e5⟩
set_option maxRecDepth 30000 in
set_option maxHeartbeats 1000000 in
theorem endBy_any (w : World) (Q TT k : Nat) (p : PayM) (dn : Nat -> Bool) (o : Nat × ByteArray × ByteArray) (so : Nat) (a : Option Addr) (n c ru sk : Nat) (nm : ByteArray) (g m nc : Nat) (rts : List RouteM) (ra : Option Addr) (rc x : Nat) (t : RouteM) (h : w.heap[Q]? = some (rnO TT p dn k false o)) (hn : NmAt w TT Q ru nm g m nc) (hr : RtAt w TT Q rts ra rc) (hx : rts[x]? = some t) :
  Calls Tryz.prog 161 #[.pointer (some ⟨Q, 0, none⟩), stV so a n c ru sk, .int .i64 (x : Nat)] w fun e w' => e = .returned (.tuple #[]) /\ w'.heap[Q]? = some (rnO TT p dn k true (0, nm, t.name)) /\ Fr (fun j => j = Q) w w' := by
 have HF : Hid (F0 w (w.alloc (.cells #[.int .u8 (so : Nat), .slice a n c, .int .i64 (ru : Nat), .int .i64 (sk : Nat)] 172))) := (Fr.refl _ _).alloc _
 have HX : Hid ((w.alloc (.cells #[.int .u8 (so : Nat), .slice a n c, .int .i64 (ru : Nat), .int .i64 (sk : Nat)] 172)).heap[w.heap.size]? = some (.cells #[.int .u8 (so : Nat), .slice a n c, .int .i64 (ru : Nat), .int .i64 (sk : Nat)] 172)) := heap_alloc_new w _
 have hQ := (Array.getElem?_eq_some_iff.1 h).1
 have H1 := HF.o.whole h (by simp)
 have hne : Q ≠ w.heap.size := by omega
 have HN := hid (hn.fr (HF.o.mono (by simp)))
 have HR := hid (hr.fr (HF.o.mono (by simp)))
 have hlt : (ru : Int) < (m : Int) := by have := hn.lt; omega
 have hxl : (x : Int) < (rts.length : Int) := by have := (List.getElem?_eq_some_iff.1 hx).1; omega
 have HXt := hid hx
 have HST := hid ((hr.sz t (List.mem_of_getElem? hx)).1)
 obtain ⟨rg, era, _⟩ := hr.rt x t hx
 subst era
 unfold stV
 clear h hn hr hx
 go_enter Tryz.func161, Tryz.ntmps161
 go_upto_region 1 with fail
 generalize w.alloc (.cells #[.int .u8 (so : Nat), .slice a n c, .int .i64 (ru : Nat), .int .i64 (sk : Nat)] 172) = W at *
 obtain ⟨X, hX⟩ : ∃ X, w.heap.size = X := ⟨_, rfl⟩
 rw [hX] at HX hne
 rw [hX]
 have HCE : Hid (∀ W', Fr (fun j => j = Q) W W' -> (∃ d o', W'.heap[Q]? = some (rnO TT p dn k d o')) -> W'.cell? ⟨X, 2, none⟩ = some (.int .i64 (ru : Nat)) /\ W'.cell? ⟨Q, 0, none⟩ = some (.pointer (some ⟨TT, 0, none⟩)) /\ W'.cell? ⟨TT, 1, none⟩ = some (.slice (some ⟨g, 0, none⟩) m nc) /\ W'.cell? ⟨g, ru, none⟩ = some (.string nm) /\ W'.cell? ⟨TT, 0, none⟩ = some (.slice (some ⟨rg, 0, none⟩) rts.length rc) /\ W'.cell? ⟨rg, x * 3, none⟩ = some (.string t.name)) := by
  intro W' hf ⟨d, o', hq⟩
  have hx := hf.whole HX.o (fun e => hne e.symm)
  obtain ⟨rg', e1, _, e3, _, _⟩ := (HR.o.fr hf).rt x t HXt.o
  injection e1 with e1
  injection e1 with e1 _ _
  subst e1
  exact ⟨block_cell hx 2 _ rfl, block_cell hq 0 _ rfl, (HN.o.fr hf).c1, (HN.o.fr hf).ce, (HR.o.fr hf).c0, e3⟩
 have HG : Hid (∀ W', Hid (F0 W W') -> Calls Tryz.prog 160 #[.pointer (some ⟨Q, 0, none⟩), .int .i64 0, .string nm, .string t.name] W' fun e w' => e = .returned (.tuple #[]) /\ Hid (w'.heap[Q]? = some (rnO TT p dn k true (0, nm, t.name)) /\ Fr (fun j => j = Q) W w') /\ w'.cell? ⟨X, 2, none⟩ = some (.int .i64 (ru : Nat)) /\ w'.cell? ⟨Q, 0, none⟩ = some (.pointer (some ⟨TT, 0, none⟩)) /\ w'.cell? ⟨TT, 1, none⟩ = some (.slice (some ⟨g, 0, none⟩) m nc) /\ w'.cell? ⟨g, ru, none⟩ = some (.string nm) /\ w'.cell? ⟨TT, 0, none⟩ = some (.slice (some ⟨rg, 0, none⟩) rts.length rc) /\ w'.cell? ⟨rg, x * 3, none⟩ = some (.string t.name)) := by
  intro W' hf
  refine (rend_any W' Q TT k p dn o 0 nm t.name (hf.o.whole H1 (by simp)) HN.o.sz HST.o).mono ?_
  rintro e w' ⟨he, h2, h3⟩
  have h4 := (hf.o.mono (T := fun j => j = Q) (by simp)).trans h3
  exact ⟨he, ⟨h2, h4⟩, HCE.o _ h4 ⟨_, _, h2⟩⟩
 have hS := HCE.o W (Fr.refl _ _) ⟨_, _, H1⟩
 have HZd : Hid (F0 W W.drew) := (Fr.refl _ _).drew
 obtain ⟨rn, hrn⟩ : ∃ rn, rts.length = rn := ⟨_, rfl⟩
 rw [hrn] at hS HG hxl
 clear H1 hX HX HCE
 go_region_held3 (fun W' => W'.cell? ⟨X, 2, none⟩ = some (.int .i64 (ru : Nat)) /\ W'.cell? ⟨Q, 0, none⟩ = some (.pointer (some ⟨TT, 0, none⟩)) /\ W'.cell? ⟨TT, 1, none⟩ = some (.slice (some ⟨g, 0, none⟩) m nc) /\ W'.cell? ⟨g, ru, none⟩ = some (.string nm) /\ W'.cell? ⟨TT, 0, none⟩ = some (.slice (some ⟨rg, 0, none⟩) rn rc) /\ W'.cell? ⟨rg, x * 3, none⟩ = some (.string t.name)) (first | assumption | go_keep) (first
  | (go_at_call 160; refine (HG.o _ (by assumption)).mono ?_; rintro e w7 ⟨rfl, HZE, hS7⟩))
 go_wp2_with fail
 go_end0
 exact ⟨rfl, HZE.o.1, (HF.o.mono (by simp)).trans HZE.o.2⟩
set_option maxRecDepth 30000 in
set_option maxHeartbeats 1000000 in
theorem fee_any (w : World) (Q TT k : Nat) (p : PayM) (dn : Nat -> Bool) (o : Nat × ByteArray × ByteArray) (rts : List RouteM) (ra : Option Addr) (rc x : Nat) (t : RouteM) (h : w.heap[Q]? = some (rnO TT p dn k false o)) (hr : RtAt w TT Q rts ra rc) (hx : rts[x]? = some t) (h0 : 0 <= p.am) (h1 : p.am <= 1000000000) :
  Calls Tryz.prog 163 #[.pointer (some ⟨Q, 0, none⟩), .int .i64 (x : Nat)] w fun e w' => e = .returned (.int .i64 (feeM rts p.am x)) /\ F0 w w' := by
 have HFE : Hid (feeM rts p.am x = (t.base : Int) + (t.rate : Int) * p.am) := by show _ = _; unfold feeM; rw [hx]
 have hto := hr.sz t (List.mem_of_getElem? hx)
 have hb1 : (t.base : Int) < 1000000000 := by have := hto.2.1; omega
 have hb2 : (t.rate : Int) < 1000000000 := by have := hto.2.2; omega
 have hb3 : (0 : Int) <= (t.rate : Int) * p.am := Int.mul_nonneg (by omega) h0
 have hb4 : (t.rate : Int) * p.am <= 1000000000000000000 := by
  have := Int.mul_le_mul (a := (t.rate : Int)) (b := p.am) (c := 1000000000) (d := 1000000000) (by omega) h1 h0 (by omega)
  omega
 have hxl : (x : Int) < (rts.length : Int) := by have := (List.getElem?_eq_some_iff.1 hx).1; omega
 have c0 := hr.c0
 have q0 : w.cell? ⟨Q, 0, none⟩ = some (.pointer (some ⟨TT, 0, none⟩)) := block_cell h 0 _ rfl
 have q3 : w.cell? ⟨Q, 3, none⟩ = some (.int .i64 p.am) := block_cell h 3 _ rfl
 have hQ := (Array.getElem?_eq_some_iff.1 h).1
 obtain ⟨g, rfl, _, e3, e4, e5⟩ := hr.rt x t hx
 obtain ⟨rn, hrn⟩ : ∃ rn, rts.length = rn := ⟨_, rfl⟩
 rw [hrn] at c0 hxl
 have HF : Hid (F0 w (w.alloc (.cells #[.string t.name, .int .i64 (t.base : Nat), .int .i64 (t.rate : Nat)] 144))) := (Fr.refl _ _).alloc _
 have hX := heap_alloc_new w (.cells #[.string t.name, .int .i64 (t.base : Nat), .int .i64 (t.rate : Nat)] 144)
 have x1 := block_cell hX 1 _ rfl
 have x2 := block_cell hX 2 _ rfl
 have q3' := (HF.o.cell (p := ⟨Q, 3, none⟩) hQ (by simp)).trans q3
 rw [HFE.o]
 clear h hr hx hto hX HFE h0 h1
 go_enter Tryz.func163, Tryz.ntmps163
 go_upto_region 2 with fail
 generalize w.alloc (.cells #[.string t.name, .int .i64 (t.base : Nat), .int .i64 (t.rate : Nat)] 144) = W at *
 generalize w.heap.size = X at *
 clear e3 e4 e5 c0 q0 q3
 go_region
 go_wp2_with fail
 go_ret
 exact ⟨rfl, HF.o.drew⟩
end Go.Proofs.YtccikgogjfbpeabGreatDoor

namespace Go.Proofs.YtccikgogjfbpeabGreatDoor
open Go.RowKit
def outB (rts : List RouteM) (nm : ByteArray) : Option Nat -> Nat × ByteArray × ByteArray
 | none => (4, nm, ByteArray.empty)
 | some x => (0, nm, rtName rts x)
theorem rn_down {w : World} {Q TT k : Nat} {p : PayM} {dn : Nat -> Bool} {d : Bool} {o : Nat × ByteArray × ByteArray} (h : w.heap[Q]? = some (rnO TT p dn k d o)) (x : Nat) (hx : x < 6) : w.cell? ⟨Q, 5 + x, none⟩ = some (.bool (dn x)) := by
 have : x = 0 \/ x = 1 \/ x = 2 \/ x = 3 \/ x = 4 \/ x = 5 := by omega
 rcases this with rfl | rfl | rfl | rfl | rfl | rfl
 ·exact block_cell h 5 _ rfl
 ·exact block_cell h 6 _ rfl
 ·exact block_cell h 7 _ rfl
 ·exact block_cell h 8 _ rfl
 ·exact block_cell h 9 _ rfl
 ·exact block_cell h 10 _ rfl
set_option maxRecDepth 30000 in
set_option maxHeartbeats 2000000 in
theorem takeFirst_any (w : World) (Q TT k : Nat) (p : PayM) (dn : Nat -> Bool) (o : Nat × ByteArray × ByteArray) (so : Nat) (a : Option Addr) (l : List Nat) (c ru sk : Nat) (nm : ByteArray) (g m nc : Nat) (rts : List RouteM) (ra : Option Addr) (rc : Nat) (h : w.heap[Q]? = some (rnO TT p dn k false o)) (hn : NmAt w TT Q ru nm g m nc) (hr : RtAt w TT Q rts ra rc) (hi : IntsAt w a l) (hl : l.length <= 4000) (hx : ∀ x, x ∈ l -> x < rts.length) (h6 : rts.length <= 6) (ham : 0 <= p.am /\ p.am <= 1000000000) :
  Calls Tryz.prog 124 #[.pointer (some ⟨Q, 0, none⟩), stV so a l.length c ru sk] w fun e w' => e = .returned (.tuple #[]) /\ w'.heap[Q]? = some (rnO TT p dn k true (outB rts nm (bestM false (feeM rts p.am) dn l none))) /\ Fr (fun j => j = Q) w w' := by
 have HF : Hid (F0 w (w.alloc (.cells #[.int .u8 (so : Nat), .slice a l.length c, .int .i64 (ru : Nat), .int .i64 (sk : Nat)] 172))) := (Fr.refl _ _).alloc _
 have HX : Hid ((w.alloc (.cells #[.int .u8 (so : Nat), .slice a l.length c, .int .i64 (ru : Nat), .int .i64 (sk : Nat)] 172)).heap[w.heap.size]? = some (.cells #[.int .u8 (so : Nat), .slice a l.length c, .int .i64 (ru : Nat), .int .i64 (sk : Nat)] 172)) := heap_alloc_new w _
 have HH : Hid ((w.alloc (.cells #[.int .u8 (so : Nat), .slice a l.length c, .int .i64 (ru : Nat), .int .i64 (sk : Nat)] 172)).heap[Q]? = some (rnO TT p dn k false o)) := HF.o.whole h (by simp)
 have HI : Hid (IntsAt _ a l) := hi.fr HF.o (by simp)
 have HN : Hid (NmAt _ TT Q ru nm g m nc) := hn.fr (HF.o.mono (by simp))
 have HR : Hid (RtAt _ TT Q rts ra rc) := hr.fr (HF.o.mono (by simp))
 have HXL : Hid (∀ x, x ∈ l -> x < rts.length /\ x < 6) := fun x h => ⟨hx x h, by have := hx x h; omega⟩
 have HAM : Hid (0 <= p.am /\ p.am <= 1000000000) := ham
 obtain ⟨n, hnn⟩ : ∃ n, l.length = n := ⟨_, rfl⟩
 have HNN : Hid (l.length = n) := hnn
 rw [hnn] at HF HX HH HI HN HR hl ⊢
 obtain ⟨res, hres⟩ : ∃ res, bestM false (feeM rts p.am) dn l none = res := ⟨_, rfl⟩
 have HRES : Hid (bestM false (feeM rts p.am) dn l none = res) := hres
 rw [hres]
 unfold stV
 clear h hn hr hi hnn hx h6 hres ham
 go_enter Tryz.func124, Tryz.ntmps124
 go_upto_region 1 with fail
 generalize w.alloc (.cells #[.int .u8 (so : Nat), .slice a n c, .int .i64 (ru : Nat), .int .i64 (sk : Nat)] 172) = W at *
 obtain ⟨X, hX⟩ : ∃ X, w.heap.size = X := ⟨_, rfl⟩
 rw [hX] at HX
 rw [hX]
 have x0 := block_cell HX.o 0 _ rfl
 have x1 := block_cell HX.o 1 _ rfl
 have x2 := block_cell HX.o 2 _ rfl
 have x3 := block_cell HX.o 3 _ rfl
 clear hX
 go_wp2_with fail
 go_loop [5, 9] (fun _ i => ∃ j : Nat, j <= n /\ i = .int .i64 j /\ Hid (bestM false (feeM rts p.am) dn (l.drop j) none = res)) (fun _ i => n - (intOf i).toNat)
 case atStart => exact ⟨0, Nat.zero_le _, rfl, HRES⟩
 case round =>
  obtain ⟨j, hj, rfl, HB⟩ := hrel
  by_cases hlt : j < n
  ·have hki : (j : Int) < (n : Int) := by omega
   obtain ⟨x, hx⟩ : ∃ x, l[j]? = some x := ⟨_, List.getElem?_eq_getElem (by have := HNN.o; omega)⟩
   obtain ⟨ga, rfl, hc⟩ := HI.o j x hx
   have hd : l.drop j = x :: l.drop (j + 1) := by
    obtain ⟨h1, h2⟩ := List.getElem?_eq_some_iff.1 hx
    rw [List.drop_eq_getElem_cons h1, h2]
   rw [hd] at HB
   obtain ⟨hxr, hx6⟩ := HXL.o x (List.mem_of_getElem? hx)
   have hx6' : (x : Int) < 6 := by omega
   have hdn := rn_down HH.o x hx6
   have HBd : Hid (bestM false (feeM rts p.am) dn (l.drop (j + 1)) (if dn x then none else some x) = res) := HB.o
   clear hx hd HB hx6
   cases hq : dn x with
   | true =>
    rw [hq] at hdn HBd
    go_wp2_with fail
    exact ⟨⟨j + 1, by omega, by go_num, HBd⟩, by simp [intOf]; omega⟩
   | false =>
    rw [hq] at hdn HBd
    obtain ⟨t, ht⟩ : ∃ t, rts[x]? = some t := ⟨_, List.getElem?_eq_getElem hxr⟩
    have HE : Hid (Calls Tryz.prog 161 #[.pointer (some ⟨Q, 0, none⟩), .agg #[.int .u8 (so : Nat), .slice (some ⟨ga, 0, none⟩) n c, .int .i64 (ru : Nat), .int .i64 (sk : Nat)], .int .i64 (x : Nat)] W fun e w' => e = .returned (.tuple #[]) /\ w'.heap[Q]? = some (rnO TT p dn k true (0, nm, t.name)) /\ Fr (fun j => j = Q) W w') := endBy_any W Q TT k p dn o so _ n c ru sk nm g m nc rts ra rc x t HH.o HN.o HR.o ht
    have HO : Hid (outB rts nm res = (0, nm, t.name)) := by
     show _ = _
     have e := HBd.o
     rw [if_neg (by simp), best_first] at e
     rw [<- e]
     simp only [outB, rtName, ht]
    clear ht hxr
    go_wp2_with fail
    refine HE.o.mono ?_
    rintro e w7 ⟨rfl, h1, h2⟩
    have H1 := hid h1
    have H2 := hid ((HF.o.mono (by simp)).trans h2)
    clear h1 h2
    go_wp2_with fail
    (try simp only [Exit.inBlock, Exit.then])
    refine bodyPost_ret (results_none rfl _ _ _) rfl ?_
    exact ⟨rfl, by rw [HO.o]; exact H1.o, H2.o⟩
  ·have hki : ¬ (j : Int) < (n : Int) := by omega
   have HE := hid (endDown_any W Q TT k p dn o so a n c ru sk nm g m nc HH.o HN.o)
   have HO : Hid (outB rts nm res = (4, nm, ByteArray.empty)) := by
    show _ = _
    have e := HB.o
    rw [List.drop_of_length_le (by have := HNN.o; omega)] at e
    rw [<- e]
    rfl
   go_wp2_with fail
   refine HE.o.mono ?_
   rintro e w7 ⟨rfl, h1, h2⟩
   have H1 := hid h1
   have H2 := hid ((HF.o.mono (by simp)).trans h2)
   clear h1 h2
   go_wp2_with fail
   go_end0
   exact ⟨rfl, by rw [HO.o]; exact H1.o, H2.o⟩
def bestI : Option Nat -> Int
 | none => -1
 | some x => (x : Nat)
set_option maxRecDepth 30000 in
set_option maxHeartbeats 2000000 in
theorem takeCheapest_any (w : World) (Q TT k : Nat) (p : PayM) (dn : Nat -> Bool) (o : Nat × ByteArray × ByteArray) (so : Nat) (a : Option Addr) (l : List Nat) (c ru sk : Nat) (nm : ByteArray) (g m nc : Nat) (rts : List RouteM) (ra : Option Addr) (rc : Nat) (h : w.heap[Q]? = some (rnO TT p dn k false o)) (hn : NmAt w TT Q ru nm g m nc) (hr : RtAt w TT Q rts ra rc) (hi : IntsAt w a l) (hl : l.length <= 4000) (hx : ∀ x, x ∈ l -> x < rts.length) (h6 : rts.length <= 6) (ham : 0 <= p.am /\ p.am <= 1000000000) :
  Calls Tryz.prog 125 #[.pointer (some ⟨Q, 0, none⟩), stV so a l.length c ru sk] w fun e w' => e = .returned (.tuple #[]) /\ w'.heap[Q]? = some (rnO TT p dn k true (outB rts nm (bestM true (feeM rts p.am) dn l none))) /\ Fr (fun j => j = Q) w w' := by
 have HF : Hid (F0 w (w.alloc (.cells #[.int .u8 (so : Nat), .slice a l.length c, .int .i64 (ru : Nat), .int .i64 (sk : Nat)] 172))) := (Fr.refl _ _).alloc _
 have HX : Hid ((w.alloc (.cells #[.int .u8 (so : Nat), .slice a l.length c, .int .i64 (ru : Nat), .int .i64 (sk : Nat)] 172)).heap[w.heap.size]? = some (.cells #[.int .u8 (so : Nat), .slice a l.length c, .int .i64 (ru : Nat), .int .i64 (sk : Nat)] 172)) := heap_alloc_new w _
 have HH : Hid ((w.alloc (.cells #[.int .u8 (so : Nat), .slice a l.length c, .int .i64 (ru : Nat), .int .i64 (sk : Nat)] 172)).heap[Q]? = some (rnO TT p dn k false o)) := HF.o.whole h (by simp)
 have HI : Hid (IntsAt _ a l) := hi.fr HF.o (by simp)
 have HN : Hid (NmAt _ TT Q ru nm g m nc) := hn.fr (HF.o.mono (by simp))
 have HR : Hid (RtAt _ TT Q rts ra rc) := hr.fr (HF.o.mono (by simp))
 have HXL : Hid (∀ x, x ∈ l -> x < rts.length /\ x < 6) := fun x h => ⟨hx x h, by have := hx x h; omega⟩
 have HAM : Hid (0 <= p.am /\ p.am <= 1000000000) := ham
 obtain ⟨n, hnn⟩ : ∃ n, l.length = n := ⟨_, rfl⟩
 have HNN : Hid (l.length = n) := hnn
 rw [hnn] at HF HX HH HI HN HR hl ⊢
 obtain ⟨res, hres⟩ : ∃ res, bestM true (feeM rts p.am) dn l none = res := ⟨_, rfl⟩
 have HRES : Hid (bestM true (feeM rts p.am) dn l none = res) := hres
 rw [hres]
 unfold stV
 clear h hn hr hi hnn hx h6 hres ham
 go_enter Tryz.func125, Tryz.ntmps125
 go_upto_region 1 with fail
 generalize w.alloc (.cells #[.int .u8 (so : Nat), .slice a n c, .int .i64 (ru : Nat), .int .i64 (sk : Nat)] 172) = W at *
 obtain ⟨X, hX⟩ : ∃ X, w.heap.size = X := ⟨_, rfl⟩
 rw [hX] at HX
 rw [hX]
 have x1 := block_cell HX.o 1 _ rfl
 clear hX
 go_wp2_with fail
 clear x1
 go_loopg [4, 6, 10] n (fun mm bb _ i wr => ∃ j b, j <= n /\ mm = n - j /\ bb = .int .i64 (bestI b) /\ i = .int .i64 (j : Nat) /\ Hid (bestM true (feeM rts p.am) dn (l.drop j) b = res) /\ Hid (F0 W wr) /\ Hid (∀ y, b = some y -> y < rts.length /\ y < 6))
 case atStart => exact ⟨0, none, Nat.zero_le _, rfl, rfl, rfl, HRES, Fr.refl _ _, fun y h => by cases h⟩
 case round =>
  obtain ⟨j, b, hj, rfl, rfl, rfl, HB, HFr, HBY⟩ := hrel
  have HHr := hid (HFr.o.whole HH.o (by simp))
  have HNr := hid (HN.o.fr (HFr.o.mono (by simp)))
  have HRr := hid (HR.o.fr (HFr.o.mono (by simp)))
  have HXr := hid (HFr.o.whole HX.o (by simp))
  by_cases hlt : j < n
  ·have hki : (j : Int) < (n : Int) := by omega
   obtain ⟨x, hx⟩ : ∃ x, l[j]? = some x := ⟨_, List.getElem?_eq_getElem (by have := HNN.o; omega)⟩
   obtain ⟨ga, rfl, hc⟩ := (HI.o.fr HFr.o (by simp)) j x hx
   have hd : l.drop j = x :: l.drop (j + 1) := by
    obtain ⟨h1, h2⟩ := List.getElem?_eq_some_iff.1 hx
    rw [List.drop_eq_getElem_cons h1, h2]
   rw [hd] at HB
   obtain ⟨hxr, hx6⟩ := HXL.o x (List.mem_of_getElem? hx)
   have hx6' : (x : Int) < 6 := by omega
   have hdn := rn_down HHr.o x hx6
   have HXX : Hid (x < rts.length /\ x < 6) := ⟨hxr, hx6⟩
   clear hx hd hx6
   cases hq : dn x with
   | true =>
    have HB2 : Hid (bestM true (feeM rts p.am) dn (l.drop (j + 1)) b = res) := by have e := HB.o; unfold bestM at e; rw [hq, if_pos rfl] at e; exact e
    rw [hq] at hdn
    clear hxr
    obtain ⟨bi, hbi⟩ : ∃ bi, bestI b = bi := ⟨_, rfl⟩
    have HBI := hid hbi
    rw [hbi]
    clear hbi
    go_wp2_with fail
    go_roundg (n - (j + 1))
    case measure => omega
    case rel => exact ⟨j + 1, b, by omega, rfl, by rw [HBI.o], by go_num, HB2, HFr, HBY⟩
   | false =>
    rw [hq] at hdn
    cases b with
    | none =>
     have HB2 : Hid (bestM true (feeM rts p.am) dn (l.drop (j + 1)) (some x) = res) := by have e := HB.o; unfold bestM at e; rw [hq, if_neg (by simp)] at e; exact e
     unfold bestI
     clear hxr
     go_wp2_with fail
     go_roundg (n - (j + 1))
     case measure => omega
     case rel => exact ⟨j + 1, some x, by omega, rfl, rfl, by go_num, HB2, HFr, fun y h => by injection h with h; subst h; exact HXX.o⟩
    | some y =>
     have HB2 : Hid (bestM true (feeM rts p.am) dn (l.drop (j + 1)) (if decide (feeM rts p.am x < feeM rts p.am y) then some x else some y) = res) := by have e := HB.o; unfold bestM at e; rw [hq, if_neg (by simp)] at e; exact e
     obtain ⟨hyr, _⟩ := HBY.o y rfl
     obtain ⟨t, ht⟩ : ∃ t, rts[x]? = some t := ⟨_, List.getElem?_eq_getElem hxr⟩
     obtain ⟨t2, ht2⟩ : ∃ t, rts[y]? = some t := ⟨_, List.getElem?_eq_getElem hyr⟩
     have HE1 : Hid (∀ W', F0 wr W' -> Calls Tryz.prog 163 #[.pointer (some ⟨Q, 0, none⟩), .int .i64 (x : Nat)] W' fun e w' => e = .returned (.int .i64 (feeM rts p.am x)) /\ F0 W' w') := fun W' hf => fee_any W' Q TT k p dn o rts ra rc x t (hf.whole HHr.o (by simp)) (HRr.o.fr (hf.mono (by simp))) ht HAM.o.1 HAM.o.2
     have HE2 : Hid (∀ W', F0 wr W' -> Calls Tryz.prog 163 #[.pointer (some ⟨Q, 0, none⟩), .int .i64 (y : Nat)] W' fun e w' => e = .returned (.int .i64 (feeM rts p.am y)) /\ F0 W' w') := fun W' hf => fee_any W' Q TT k p dn o rts ra rc y t2 (hf.whole HHr.o (by simp)) (HRr.o.fr (hf.mono (by simp))) ht2 HAM.o.1 HAM.o.2
     unfold bestI
     have hyn : ¬ (y : Int) < 0 := by omega
     clear hxr hyr ht ht2 HB
     generalize feeM rts p.am x = fx at *
     generalize feeM rts p.am y = fy at *
     go_wp2_with fail
     refine (HE1.o _ (Fr.refl _ _)).mono ?_
     rintro e w5 ⟨rfl, hf5⟩
     have HF5 := hid hf5
     clear hf5
     go_wp2_with fail
     refine (HE2.o _ HF5.o).mono ?_
     rintro e w6 ⟨rfl, hf6⟩
     have HF6 := hid ((HFr.o.trans HF5.o).trans hf6)
     clear hf6
     by_cases hlf : fx < fy
     ·have HB3 : Hid (bestM true (feeM rts p.am) dn (l.drop (j + 1)) (some x) = res) := by have e := HB2.o; rw [if_pos (by simpa using hlf)] at e; exact e
      clear HB2
      go_wp2_with fail
      go_roundg (n - (j + 1))
      case measure => omega
      case rel => exact ⟨j + 1, some x, by omega, rfl, rfl, by go_num, HB3, HF6, fun y h => by injection h with h; subst h; exact HXX.o⟩
     ·have HB3 : Hid (bestM true (feeM rts p.am) dn (l.drop (j + 1)) (some y) = res) := by have e := HB2.o; rw [if_neg (by simpa using hlf)] at e; exact e
      clear HB2
      go_wp2_with fail
      go_roundg (n - (j + 1))
      case measure => omega
      case rel => exact ⟨j + 1, some y, by omega, rfl, rfl, by go_num, HB3, HF6, HBY⟩
  ·have hki : ¬ (j : Int) < (n : Int) := by omega
   have hb : b = res := by
    have e := HB.o
    rw [List.drop_of_length_le (by have := HNN.o; omega)] at e
    exact e
   subst hb
   have x0 := block_cell HXr.o 0 _ rfl
   have x1 := block_cell HXr.o 1 _ rfl
   have x2 := block_cell HXr.o 2 _ rfl
   have x3 := block_cell HXr.o 3 _ rfl
   cases b with
   | none =>
    have HE := hid (endDown_any wr Q TT k p dn o so a n c ru sk nm g m nc HHr.o HNr.o)
    unfold bestI
    go_wp2_with fail
    refine HE.o.mono ?_
    rintro e w7 ⟨rfl, h1, h2⟩
    have H1 := hid h1
    have H2 := hid (((HF.o.trans HFr.o).mono (by simp)).trans h2)
    clear h1 h2
    go_wp2_with fail
    go_end0
    exact ⟨rfl, H1.o, H2.o⟩
   | some y =>
    obtain ⟨hyr, _⟩ := HBY.o y rfl
    obtain ⟨t, ht⟩ : ∃ t, rts[y]? = some t := ⟨_, List.getElem?_eq_getElem hyr⟩
    have HE := hid (endBy_any wr Q TT k p dn o so a n c ru sk nm g m nc rts ra rc y t HHr.o HNr.o HRr.o ht)
    have HO : Hid (outB rts nm (some y) = (0, nm, t.name)) := by
     show _ = _
     simp only [outB, rtName, ht]
    unfold bestI
    have hyn : ¬ (y : Int) < 0 := by omega
    clear ht hyr
    go_wp2_with fail
    refine HE.o.mono ?_
    rintro e w7 ⟨rfl, h1, h2⟩
    have H1 := hid h1
    have H2 := hid (((HF.o.trans HFr.o).mono (by simp)).trans h2)
    clear h1 h2
    go_wp2_with fail
    go_end0
    exact ⟨rfl, by rw [HO.o]; exact H1.o, H2.o⟩
end Go.Proofs.YtccikgogjfbpeabGreatDoor

namespace Go.Proofs.YtccikgogjfbpeabGreatDoor
open Go.RowKit
theorem pan_digit {s : ByteArray} (h : panOk s = true) : 6 <= s.size /\ s.size <= 19 /\ ∀ c, c ∈ s.data.toList -> 48 <= c.toNat /\ c.toNat <= 57 := by
 unfold panOk at h
 simp only [Bool.and_eq_true, decide_eq_true_eq, List.all_eq_true] at h
 exact ⟨h.1, h.2.1, h.2.2⟩
theorem pan_at {s : ByteArray} (h : panOk s = true) (n : Nat) (hn : n < 6) : ∃ d : Nat, d < 10 /\ bAt s n = 48 + (d : Int) /\ dgt (card6 s) n = d := by
 obtain ⟨h6, _, hd⟩ := pan_digit h
 have hl : 6 <= s.data.toList.length := by simpa using h6
 obtain ⟨c, hc⟩ : ∃ c, s.data.toList[n]? = some c := ⟨_, List.getElem?_eq_getElem (by omega)⟩
 have hcd := hd c (List.mem_of_getElem? hc)
 refine ⟨c.toNat - 48, by omega, ?_, card_digit hd hl n hn c hc⟩
 unfold bAt
 rw [List.getD_eq_getElem?_getD, hc]
 simp only [Option.getD_some]
 omega
theorem wrap_digit (d : Nat) (h : d < 10) : IntKind.u8.wrap (48 + (d : Int) - 48) = (d : Int) := by
 have : d = 0 \/ d = 1 \/ d = 2 \/ d = 3 \/ d = 4 \/ d = 5 \/ d = 6 \/ d = 7 \/ d = 8 \/ d = 9 := by omega
 rcases this with rfl | rfl | rfl | rfl | rfl | rfl | rfl | rfl | rfl | rfl <;> decide
def LfAt (w : World) (zb B o n : Nat) (t : Tr) (a b : Value) (dg : Nat -> Nat) (res : Nat) : Prop :=
 w.cell? ⟨B, o, none⟩ = some a /\ w.cell? ⟨B, o + 1, none⟩ = some b /\ TrAt w zb t (.agg #[a, b]) /\ t.deep n /\ t.find dg n = res
set_option maxRecDepth 30000 in
set_option maxHeartbeats 2000000 in
theorem leaf_any (w : World) (zb TT : Nat) (t : Tr) (a b : Value) (s : ByteArray) (res : Nat) (h : LfAt w zb TT 3 0 t a b (dgt (card6 s)) res) (hp : panOk s = true) :
  Calls Tryz.prog 51 #[.pointer (some ⟨TT, 0, none⟩), .string s] w fun e w' => e = .returned (.int .i64 (res : Nat)) /\ F0 w w' := by
 have HL := hid h
 have HP := hid hp
 have hs6 := (pan_digit hp).1
 clear h hp
 go_enter Tryz.func51, Tryz.ntmps51
 go_wp2_with fail
 go_loopg [5, 6] 7 (fun m at' i wr => ∃ B o n t a b, n <= 6 /\ m = 7 - n /\ at' = .pointer (some ⟨B, o, none⟩) /\ i = .int .i64 (n : Nat) /\ Hid (LfAt w zb B o n t a b (dgt (card6 s)) res) /\ Hid (F0 w wr))
 case atStart => exact ⟨TT, 3, 0, t, a, b, by omega, rfl, rfl, rfl, HL, Fr.refl _ _⟩
 case round =>
  obtain ⟨B, o, n, t, a, b, hn, rfl, rfl, rfl, HT, HF⟩ := hrel
  obtain ⟨c0, c1, ht, hd, hfd⟩ := HT.o
  have hBl : B < w.heap.size := World.block_lt_of_cell? w _ c0
  have d0 := (HF.o.cell (p := ⟨B, o, none⟩) hBl (by simp)).trans c0
  have d1 := (HF.o.cell (p := ⟨B, o + 1, none⟩) hBl (by simp)).trans c1
  cases t with
  | leaf q =>
   have e : Value.agg #[a, b] = .agg #[.pointer none, .int .i64 (q : Nat)] := ht
   injection e with e
   obtain ⟨rfl, rfl⟩ : a = .pointer none /\ b = .int .i64 (q : Nat) := by simpa using e
   have hq : q = res := hfd
   subst hq
   clear c0 c1 ht hd hfd e HT
   go_wp2_with fail
   go_ret
   exact ⟨rfl, HF.o⟩
  | node kk =>
   obtain ⟨K, cs, e, hlo, hK, hsz, hkids⟩ := ht
   injection e with e
   obtain ⟨rfl, rfl⟩ : a = .pointer (some ⟨K, 0, none⟩) /\ b = .int .i64 0 := by simpa using e
   obtain ⟨hn6, hdeep⟩ := hd
   obtain ⟨d, hd10, hb, hdg⟩ := pan_at HP.o n hn6
   obtain ⟨a', b', e1, e2, e3⟩ := hkids d hd10
   have HT2 : Hid (LfAt w zb K (d * 2) (n + 1) (kk d) a' b' (dgt (card6 s)) res) := by
    refine ⟨block_cell hK _ _ e1, block_cell hK _ _ e2, e3, hdeep d hd10, ?_⟩
    rw [<- hfd, Tr.find, hdg]
   have hix := fun w => index_at (P := Tryz.prog) Tryz.underlying9 s n (n : Int) rfl (by omega) w
   rw [hb] at hix
   have hni : (n : Int) < (s.size : Int) := by omega
   have hdi : (d : Int) < 10 := by omega
   have hwd := wrap_digit d hd10
   clear c0 c1 hfd e HT hlo hK hsz hkids hdeep hb hdg e1 e2 e3
   go_wp2_with fail
   go_quiet (fail)
   go_wp2_with fail
   go_roundg (7 - (n + 1))
   case measure => omega
   case rel => exact ⟨K, d * 2, n + 1, kk d, a', b', by omega, rfl, rfl, by go_num, HT2, HF.o.trans ⟨rfl, rfl, rfl, Nat.le_refl _, fun _ _ _ => rfl⟩⟩
set_option maxRecDepth 30000 in
set_option maxHeartbeats 400000 in
theorem DecideD_any (w : World) (D : Nat) (a : Option Addr) (c : Nat) (l : List ByteArray) (s : ByteArray) (h0 : w.cell? ⟨D, 0, none⟩ = some (.slice a l.length c)) (h : StrsAt w a l) (hl : l.length <= maxLen) :
  Calls Tryz.prog 27 #[.string s, .pointer (some ⟨D, 0, none⟩)] w fun e w' => e = .returned (.bool (inS l s)) /\ w' = w := by
 have HC := hid (ContainsS_any w a c l s h hl)
 clear h hl
 generalize l.length = n at *
 generalize inS l s = b at *
 go_enter Tryz.func27, Tryz.ntmps27
 go_wp2_with fail
 refine HC.o.mono ?_
 rintro e w1 ⟨rfl, hw⟩
 replace hw := hw.symm
 subst hw
 go_wp2_with fail
 go_ret
 exact ⟨rfl, rfl⟩
def dnF (rts : List RouteM) (l : List ByteArray) (i : Nat) : Bool := match rts[i]? with
 | none => false
 | some t => inS l t.name
def dnRow (f : Nat -> Bool) (i : Nat) : Array Value := ((List.range 6).map fun j => Value.bool (if j < i then f j else false)).toArray
theorem dnRow_set (f : Nat -> Bool) (i : Nat) (h : i < 6) : (dnRow f i).setIfInBounds i (.bool (f i)) = dnRow f (i + 1) := by
 have : i = 0 \/ i = 1 \/ i = 2 \/ i = 3 \/ i = 4 \/ i = 5 := by omega
 rcases this with rfl | rfl | rfl | rfl | rfl | rfl <;> rfl
theorem dnRow_end (rts : List RouteM) (l : List ByteArray) (j : Nat) (hj : j < 6) : (dnRow (dnF rts l) rts.length)[j]? = some (.bool (dnF rts l j)) := by
 unfold dnRow
 rw [List.getElem?_toArray, List.getElem?_map, List.getElem?_range hj]
 simp only [Option.map_some]
 by_cases e : j < rts.length
 ·rw [if_pos e]
 ·rw [if_neg e, dnF, List.getElem?_eq_none (by omega)]
theorem dnRow_some (f : Nat -> Bool) (i j : Nat) (hj : j < 6) : ∃ v, (dnRow f i)[j]? = some v := by
 unfold dnRow
 rw [List.getElem?_toArray, List.getElem?_map, List.getElem?_range hj]
 exact ⟨_, rfl⟩
structure DnS (w : World) (A1 A2 : Nat) (f : Nat -> Bool) (i : Nat) (wx : World) : Prop where
 fr : F0 w wx
 b1 : wx.heap[A1]? = some (.cells #[.bool false, .bool false, .bool false, .bool false, .bool false, .bool false] 96)
 b2 : wx.heap[A2]? = some (.cells (dnRow f i) 96)
theorem DnS.fr' {w wx wy : World} {A1 A2 : Nat} {f : Nat -> Bool} {i : Nat} (h : DnS w A1 A2 f i wx) (hf : F0 wx wy) : DnS w A1 A2 f i wy :=
 ⟨h.fr.trans hf, hf.whole h.b1 (by simp), hf.whole h.b2 (by simp)⟩
theorem DnS.step {w wx : World} {A1 A2 : Nat} {f : Nat -> Bool} {i : Nat} (h : DnS w A1 A2 f i wx) (hw : w.heap.size <= A2) (hne : A1 ≠ A2) (hi : i < 6) : DnS w A1 A2 f (i + 1) (wx.setCell ⟨A2, i, none⟩ (.bool (f i))) /\ (∃ u, wx.cell? ⟨A2, i, none⟩ = some u) /\ wx.frozen? ⟨A2, i, none⟩ = false := by
 have f2 : Fr (fun k => k = A2) wx (wx.setCell ⟨A2, i, none⟩ (.bool (f i))) := (Fr.refl (fun k => k = A2) wx).setCell (p := ⟨A2, i, none⟩) (Or.inl rfl) _
 refine ⟨⟨h.fr.setCell (p := ⟨A2, i, none⟩) (Or.inr hw) _, f2.whole h.b1 hne, ?_⟩, ?_, block_frozen h.b2 i⟩
 ·have e := heap_setCell_same wx A2 i _ _ (.bool (f i)) h.b2
  rw [dnRow_set f i hi] at e
  exact e
 ·obtain ⟨v, hv⟩ := dnRow_some f i i hi
  exact ⟨v, block_cell h.b2 _ _ hv⟩
set_option maxRecDepth 30000 in
set_option maxHeartbeats 2000000 in
theorem downs_any (w : World) (TT Q D : Nat) (rts : List RouteM) (ra : Option Addr) (rc : Nat) (a : Option Addr) (c : Nat) (l : List ByteArray) (hr : RtAt w TT Q rts ra rc) (h6 : rts.length <= 6) (h0 : w.cell? ⟨D, 0, none⟩ = some (.slice a l.length c)) (h : StrsAt w a l) (hl : l.length <= maxLen) :
  Calls Tryz.prog 49 #[.pointer (some ⟨TT, 0, none⟩), .func (.func 27) #[] #[.pointer (some ⟨D, 0, none⟩)]] w fun e w' => e = .returned (.agg #[.bool (dnF rts l 0), .bool (dnF rts l 1), .bool (dnF rts l 2), .bool (dnF rts l 3), .bool (dnF rts l 4), .bool (dnF rts l 5)]) /\ F0 w w' := by
 have HR := hid hr
 have c0 := hr.c0
 have hDl := World.block_lt_of_cell? w _ h0
 have HD : Hid (∀ W s, F0 w W -> Calls Tryz.prog 27 #[.string s, .pointer (some ⟨D, 0, none⟩)] W fun e w' => e = .returned (.bool (inS l s)) /\ w' = W) := fun W s hf => DecideD_any W D a c l s ((hf.cell (p := ⟨D, 0, none⟩) hDl (by simp)).trans h0) (h.fr hf (by simp)) hl
 obtain ⟨n, hn⟩ : ∃ n, rts.length = n := ⟨_, rfl⟩
 have HN := hid hn
 rw [hn] at c0 h6
 have HTl := hid (World.block_lt_of_cell? w _ hr.c0)
 have HW0 : Hid (DnS w w.heap.size (w.heap.size + 1) (dnF rts l) 0 ((w.alloc (.cells #[.bool false, .bool false, .bool false, .bool false, .bool false, .bool false] 96)).alloc (.cells #[.bool false, .bool false, .bool false, .bool false, .bool false, .bool false] 96))) :=
  ⟨((Fr.refl _ _).alloc _).alloc _, ((Fr.refl (fun _ => False) _).alloc _).whole (heap_alloc_new w _) (by simp), by have e := heap_alloc_new (w.alloc (.cells #[.bool false, .bool false, .bool false, .bool false, .bool false, .bool false] 96)) (.cells #[.bool false, .bool false, .bool false, .bool false, .bool false, .bool false] 96); rw [show (w.alloc (.cells #[.bool false, .bool false, .bool false, .bool false, .bool false, .bool false] 96)).heap.size = w.heap.size + 1 from by simp] at e; exact e⟩
 have c0' := (HW0.o.fr.cell (p := ⟨TT, 0, none⟩) HTl.o (by simp)).trans c0
 clear hr h0 h hl hDl hn c0
 go_enter Tryz.func49, Tryz.ntmps49
 go_upto_region 2 with fail
 generalize (w.alloc (.cells #[.bool false, .bool false, .bool false, .bool false, .bool false, .bool false] 96)).alloc (.cells #[.bool false, .bool false, .bool false, .bool false, .bool false, .bool false] 96) = W at *
 obtain ⟨A, hA⟩ : ∃ A, w.heap.size = A := ⟨_, rfl⟩
 have HA := hid hA
 rw [hA] at HW0
 rw [hA]
 clear hA
 go_wp2_with fail
 go_loopg [6, 7, 13] n (fun m _ _ kv wx => ∃ i, i <= n /\ m = n - i /\ kv = .int .i64 (i : Nat) /\ Hid (DnS w A (A + 1) (dnF rts l) i wx))
 case atStart => exact ⟨0, Nat.zero_le _, rfl, rfl, HW0⟩
 case round =>
  obtain ⟨i, hi, rfl, rfl, HS⟩ := hrel
  by_cases hlt : i < n
  ·have hki : (i : Int) < (n : Int) := by omega
   have hi6 : (i : Int) < 6 := by omega
   obtain ⟨t, ht⟩ : ∃ t, rts[i]? = some t := ⟨_, List.getElem?_eq_getElem (by have := HN.o; omega)⟩
   obtain ⟨g, rfl, _, e0, e1, e2⟩ := (HR.o.fr (HS.o.fr.mono (by simp))).rt i t ht
   have HDN : Hid (dnF rts l i = inS l t.name) := by show _ = _; unfold dnF; rw [ht]
   have HF1 : Hid (F0 wr (wr.alloc (.cells #[.string t.name, .int .i64 (t.base : Nat), .int .i64 (t.rate : Nat)] 144))) := (Fr.refl _ _).alloc _
   have hX := heap_alloc_new wr (.cells #[.string t.name, .int .i64 (t.base : Nat), .int .i64 (t.rate : Nat)] 144)
   have x0 := block_cell hX 0 _ rfl
   clear ht hX
   go_upto_region 5 with fail
   generalize wr.alloc (.cells #[.string t.name, .int .i64 (t.base : Nat), .int .i64 (t.rate : Nat)] 144) = W1 at *
   generalize wr.heap.size = X at *
   have HS1 := hid (HS.o.fr' HF1.o)
   obtain ⟨hst, ⟨u, hu⟩, huf⟩ := HS1.o.step (by have := HA.o; omega) (by omega) (by omega)
   have HST := hid hst
   rw [HDN.o] at HST
   clear hst e0 e1 e2
   go_wp2_with fail
   refine (HD.o _ _ HS1.o.fr).mono ?_
   rintro e w2 ⟨rfl, hw⟩
   replace hw := hw.symm
   subst hw
   go_wp2_with fail
   go_roundg (n - (i + 1))
   case measure => omega
   case rel => exact ⟨i + 1, by omega, rfl, by go_num, HST⟩
  ·have hki : ¬ (i : Int) < (n : Int) := by omega
   have hin : i = n := by omega
   subst hin
   have d := fun j hj => block_cell HS.o.b2 j _ (by have e := dnRow_end rts l j hj; rw [HN.o] at e; exact e)
   have d0 := d 0 (by omega)
   have d1 := d 1 (by omega)
   have d2 := d 2 (by omega)
   have d3 := d 3 (by omega)
   have d4 := d 4 (by omega)
   have d5 := d 5 (by omega)
   have b0 : wr.cell? ⟨A, 0, none⟩ = some (.bool false) := block_cell HS.o.b1 0 _ rfl
   have f0 := block_frozen HS.o.b1 0
   have b1 : wr.cell? ⟨A, 1, none⟩ = some (.bool false) := block_cell HS.o.b1 1 _ rfl
   have f1 := block_frozen HS.o.b1 1
   have b2 : wr.cell? ⟨A, 2, none⟩ = some (.bool false) := block_cell HS.o.b1 2 _ rfl
   have f2 := block_frozen HS.o.b1 2
   have b3 : wr.cell? ⟨A, 3, none⟩ = some (.bool false) := block_cell HS.o.b1 3 _ rfl
   have f3 := block_frozen HS.o.b1 3
   have b4 : wr.cell? ⟨A, 4, none⟩ = some (.bool false) := block_cell HS.o.b1 4 _ rfl
   have f4 := block_frozen HS.o.b1 4
   have b5 : wr.cell? ⟨A, 5, none⟩ = some (.bool false) := block_cell HS.o.b1 5 _ rfl
   have f5 := block_frozen HS.o.b1 5
   clear d
   have e6 := heap_setCell_same _ A 5 _ _ (.bool (dnF rts l 5)) (heap_setCell_same _ A 4 _ _ (.bool (dnF rts l 4)) (heap_setCell_same _ A 3 _ _ (.bool (dnF rts l 3)) (heap_setCell_same _ A 2 _ _ (.bool (dnF rts l 2)) (heap_setCell_same _ A 1 _ _ (.bool (dnF rts l 1)) (heap_setCell_same wr A 0 _ _ (.bool (dnF rts l 0)) HS.o.b1)))))
   have HE6 : Hid _ := e6
   clear e6
   go_wp2_with fail
   have s0 := block_cell HE6.o 0 (.bool (dnF rts l 0)) rfl
   have s1 := block_cell HE6.o 1 (.bool (dnF rts l 1)) rfl
   have s2 := block_cell HE6.o 2 (.bool (dnF rts l 2)) rfl
   have s3 := block_cell HE6.o 3 (.bool (dnF rts l 3)) rfl
   have s4 := block_cell HE6.o 4 (.bool (dnF rts l 4)) rfl
   have s5 := block_cell HE6.o 5 (.bool (dnF rts l 5)) rfl
   have hA : w.heap.size <= A := Nat.le_of_eq HA.o
   refine bodyPost_ret (v := .agg #[.bool (dnF rts l 0), .bool (dnF rts l 1), .bool (dnF rts l 2), .bool (dnF rts l 3), .bool (dnF rts l 4), .bool (dnF rts l 5)]) (by simp [results, Tryz.results49, go_sem, s0, s1, s2, s3, s4, s5]) rfl ⟨rfl, ?_⟩
   exact (((((HS.o.fr.setCell (p := ⟨A, 0, none⟩) (Or.inr hA) _).setCell (p := ⟨A, 1, none⟩) (Or.inr hA) _).setCell (p := ⟨A, 2, none⟩) (Or.inr hA) _).setCell (p := ⟨A, 3, none⟩) (Or.inr hA) _).setCell (p := ⟨A, 4, none⟩) (Or.inr hA) _).setCell (p := ⟨A, 5, none⟩) (Or.inr hA) _
end Go.Proofs.YtccikgogjfbpeabGreatDoor
