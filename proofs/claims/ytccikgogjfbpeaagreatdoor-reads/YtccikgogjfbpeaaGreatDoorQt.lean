/- The reference: the walk over entries: at, fault, up. The reference: ints. -/
import Derived.Test.YtccikgogjfbpeaaGreatDoorQr
import Derived.Test.YtccikgogjfbpeaaGreatDoorQo
import Derived.Deep.RegionWith
namespace Go.Proofs.YtccikgogjfbpeaaGreatDoor
open Go.RowKit

def faK (f : Fa) : Nat := match f with | none => 0 | some x => x.1
def faL (f : Fa) : Nat := match f with | none => 0 | some x => x.2
/-- A fault's kind is none that is Fine. -/
def FaOk (f : Fa) : Prop := ∀ x, f = some x → x.1 ≠ 0
theorem faOk_note {f : Fa} {b : Bool} {k l : Nat} (h : FaOk f) (hk : k ≠ 0) : FaOk (noteM f b k l) := by
 intro x e
 cases f with
 | some y => exact h x e
 | none =>
  cases b with
  | false => cases e
  | true =>
   simp only [noteM, if_true] at e
   injection e with e
   subst e
   exact hk
/-- The walk in memory: block p. -/
structure WkP (w : World) (p q i : Nat) (f : Fa) : Prop where
 c0 : w.cell? ⟨p, 0, none⟩ = some (.pointer (some ⟨q, 0, none⟩))
 c1 : w.cell? ⟨p, 1, none⟩ = some (.int .i64 i)
 c2 : w.cell? ⟨p, 2, none⟩ = some (.int .i64 (faK f))
 c3 : w.cell? ⟨p, 3, none⟩ = some (.int .i64 (faL f))
 fz : ∀ o, w.frozen? ⟨p, o, none⟩ = false
 ok : FaOk f
/-- The tokens in memory: block q's first cell, and their row. -/
structure WkT (w : World) (q g : Nat) (body : List Tk) (cv : Nat) : Prop where
 c0 : w.cell? ⟨q, 0, none⟩ = some (.slice (some ⟨g, 0, none⟩) body.length cv)
 lt : g < w.heap.size
 row : RTk w g body
theorem WkP.fr {w w' : World} {p q i : Nat} {f : Fa} {S : Nat → Prop} (h : WkP w p q i f) (hf : Fr S w w') (hS : ¬ S p) : WkP w' p q i f := by
 have hl : p < w.heap.size := World.block_lt_of_cell? w _ h.c0
 exact ⟨(hf.cell (p := ⟨p, 0, none⟩) hl hS).trans h.c0, (hf.cell (p := ⟨p, 1, none⟩) hl hS).trans h.c1, (hf.cell (p := ⟨p, 2, none⟩) hl hS).trans h.c2, (hf.cell (p := ⟨p, 3, none⟩) hl hS).trans h.c3, fun o => (hf.frozen (p := ⟨p, o, none⟩) hl hS).trans (h.fz o), h.ok⟩
theorem WkT.fr {w w' : World} {q g : Nat} {body : List Tk} {cv : Nat} {S : Nat → Prop} (h : WkT w q g body cv) (hf : Fr S w w') (hq : ¬ S q) (hg : ¬ S g) : WkT w' q g body cv := by
 have hl : q < w.heap.size := World.block_lt_of_cell? w _ h.c0
 exact ⟨(hf.cell (p := ⟨q, 0, none⟩) hl hq).trans h.c0, Nat.lt_of_lt_of_le h.lt hf.size, h.row.fr hf h.lt hg⟩
/-- The place is moved on. -/
theorem WkP.move {w : World} {p q i : Nat} {f : Fa} (h : WkP w p q i f) (k : Nat) : WkP (w.setCell ⟨p, 1, none⟩ (.int .i64 k)) p q k f ∧ Fr (fun j => j = p) w (w.setCell ⟨p, 1, none⟩ (.int .i64 k)) := by
 refine ⟨⟨?_, ?_, ?_, ?_, fun o => by simp [h.fz o], h.ok⟩, (Fr.refl (fun j => j = p) w).setCell (Or.inl rfl) _⟩
 ·rw [World.cell?_setCell_other _ _ _ _ (by simp)]; exact h.c0
 ·exact World.cell?_setCell_same _ _ _ h.c1
 ·rw [World.cell?_setCell_other _ _ _ _ (by simp)]; exact h.c2
 ·rw [World.cell?_setCell_other _ _ _ _ (by simp)]; exact h.c3
theorem WkP.note {w : World} {p q i : Nat} (h : WkP w p q i none) (k l : Nat) (hk : k ≠ 0) :
  WkP ((w.setCell ⟨p, 2, none⟩ (.int .i64 k)).setCell ⟨p, 3, none⟩ (.int .i64 l)) p q i (some (k, l)) ∧ Fr (fun j => j = p) w ((w.setCell ⟨p, 2, none⟩ (.int .i64 k)).setCell ⟨p, 3, none⟩ (.int .i64 l)) := by
 refine ⟨⟨?_, ?_, ?_, ?_, fun o => by simp [h.fz o], fun x e => by injection e with e; subst e; exact hk⟩, ((Fr.refl (fun j => j = p) w).setCell (p := ⟨p, 2, none⟩) (Or.inl rfl) _).setCell (p := ⟨p, 3, none⟩) (Or.inl rfl) _⟩
 ·rw [World.cell?_setCell_other _ _ _ _ (by simp), World.cell?_setCell_other _ _ _ _ (by simp)]; exact h.c0
 ·rw [World.cell?_setCell_other _ _ _ _ (by simp), World.cell?_setCell_other _ _ _ _ (by simp)]; exact h.c1
 ·rw [World.cell?_setCell_other _ _ _ _ (by simp)]; exact World.cell?_setCell_same _ _ _ h.c2
 ·exact World.cell?_setCell_same _ _ _ (by rw [World.cell?_setCell_other _ _ _ _ (by simp)]; exact h.c3)

set_option maxRecDepth 30000 in
set_option maxHeartbeats 1000000 in
theorem at_any (w : World) (p q g i : Nat) (f : Fa) (body : List Tk) (cv : Nat) (t : Tk) (hp : WkP w p q i f) (hT : WkT w q g body cv) (ht : body[i]? = some t) :
  Calls Tryz.prog 80 #[.pointer (some ⟨p, 0, none⟩)] w fun e w' => e = .returned (.string t.text) ∧ Fr (fun _ => False) w w' := by
 obtain ⟨c0, c1, c2, c3, fz, ok⟩ := hp
 obtain ⟨d0, dl, dr⟩ := hT
 obtain ⟨r0, r1, r2⟩ := dr i t ht
 have hlt : i < body.length := (List.getElem?_eq_some_iff.1 ht).1
 have hki : (i : Int) < (body.length : Int) := by omega
 clear dr ht ok c2 c3 fz r1 r2
 go_enter Tryz.func80, Tryz.ntmps80
 go_wp2_with fail
 go_big_quiet ((fail))
 go_wp2_with fail
 go_big_quiet ((fail))
 go_wp2
 go_ret
 exact ⟨rfl, ⟨rfl, rfl, rfl, Nat.le_refl _, fun _ _ _ => rfl⟩⟩

def FPost (w : World) (p q i : Nat) (f : Fa) (e : Ending) (w' : World) : Prop := e = .returned (.tuple #[]) ∧ WkP w' p q i f ∧ Fr (fun j => j = p) w w'
set_option maxRecDepth 30000 in
set_option maxHeartbeats 1000000 in
theorem fault_any (w : World) (p q g i : Nat) (f : Fa) (body : List Tk) (cv : Nat) (t : Tk) (wrong : Bool) (k : Nat) (ki : Int) (hp : WkP w p q i f) (hT : WkT w q g body cv) (hq : q ≠ p) (hg : g ≠ p) (ht : body[i]? = some t) (hk : k ≠ 0) (hki : ki = k) :
  Calls Tryz.prog 131 #[.pointer (some ⟨p, 0, none⟩), .bool wrong, .int .i64 ki] w (FPost w p q i (noteM f wrong k t.line)) := by
 subst hki
 cases wrong with
 | false =>
  have HE : Hid (FPost w p q i (noteM f false k t.line) (.returned (.tuple #[])) w) := by
   refine ⟨rfl, ?_, Fr.refl _ _⟩
   cases f <;> exact hp
  clear hp hT ht hq hg
  go_enter Tryz.func131, Tryz.ntmps131
  go_wp2
  go_end0
  exact HE.out
 | true =>
  cases f with
  | some x =>
   have HE : Hid (FPost w p q i (some x) (.returned (.tuple #[])) w) := ⟨rfl, hp, Fr.refl _ _⟩
   obtain ⟨c0, c1, c2, c3, fz, ok⟩ := hp
   have hx : ((faK (some x) : Int) == 0) = false := by
    have := ok x rfl
    simp [faK]
    omega
   generalize faK (some x) = n at *
   clear c3 c1 hT ht hq hg ok fz
   go_enter Tryz.func131, Tryz.ntmps131
   go_wp2
   go_end0
   exact HE.out
  | none =>
   have HP : Hid (WkP w p q i none) := hp
   obtain ⟨c0, c1, c2, c3, fz, ok⟩ := hp
   obtain ⟨d0, dl, dr⟩ := hT
   obtain ⟨r0, r1, r2⟩ := dr i t ht
   have hlt : i < body.length := (List.getElem?_eq_some_iff.1 ht).1
   have hkl : (i : Int) < (body.length : Int) := by omega
   have e0 : (w.setCell ⟨p, 2, none⟩ (.int .i64 k)).cell? ⟨p, 0, none⟩ = some (.pointer (some ⟨q, 0, none⟩)) := by rw [World.cell?_setCell_other _ _ _ _ (by simp)]; exact c0
   have e1 : (w.setCell ⟨p, 2, none⟩ (.int .i64 k)).cell? ⟨p, 1, none⟩ = some (.int .i64 i) := by rw [World.cell?_setCell_other _ _ _ _ (by simp)]; exact c1
   have e3 : (w.setCell ⟨p, 2, none⟩ (.int .i64 k)).cell? ⟨p, 3, none⟩ = some (.int .i64 (faL none)) := by rw [World.cell?_setCell_other _ _ _ _ (by simp)]; exact c3
   have eq : (w.setCell ⟨p, 2, none⟩ (.int .i64 k)).cell? ⟨q, 0, none⟩ = some (.slice (some ⟨g, 0, none⟩) body.length cv) := by rw [World.cell?_setCell_other _ _ _ _ (fun h => hq (by injection h with h1; first | exact h1 | exact h1.symm))]; exact d0
   have er : (w.setCell ⟨p, 2, none⟩ (.int .i64 k)).cell? ⟨g, i * 3 + 2, none⟩ = some (.int .i64 t.line) := by rw [World.cell?_setCell_other _ _ _ _ (fun h => hg (by injection h with h1; first | exact h1 | exact h1.symm))]; exact r2
   have ef : ∀ o, (w.setCell ⟨p, 2, none⟩ (.int .i64 k)).frozen? ⟨p, o, none⟩ = false := fun o => by simp [fz o]
   have c2' : w.cell? ⟨p, 2, none⟩ = some (.int .i64 0) := c2
   clear c1 c2 c3 ok d0 dl dr r0 r1 r2 ht hq hg
   go_enter Tryz.func131, Tryz.ntmps131
   go_wp2_with fail
   generalize hw1 : w.setCell ⟨p, 2, none⟩ (.int .i64 k) = w1 at *
   go_region
   go_end0
   have hn := HP.out.note k t.line hk
   rw [hw1] at hn
   exact ⟨rfl, hn.1.fr ((Fr.refl (fun _ => False) _).drew) (by simp), hn.2.drew⟩
def UpPost (w : World) (p q i v : Nat) (f : Fa) (e : Ending) (w' : World) : Prop := e = .returned (.int .i64 v) ∧ WkP w' p q i f ∧ Fr (fun j => j = p) w w'
set_option maxRecDepth 30000 in
set_option maxHeartbeats 1000000 in
theorem up_any (w : World) (p q g i : Nat) (f : Fa) (body : List Tk) (cv : Nat) (t : Tk) (high : Nat) (i1 i2 : Int) (hp : WkP w p q i f) (hT : WkT w q g body cv) (hq : q ≠ p) (hg : g ≠ p) (ht : body[i]? = some t) (hd : Dg t.text) (hi : i ≤ 4000) (e1 : i1 = 0) (e2 : i2 = high) :
  Calls Tryz.prog 132 #[.pointer (some ⟨p, 0, none⟩), .int .i64 i1, .int .i64 i2] w (UpPost w p q (i + 1) (valOf t) (noteM f (decide (high < valOf t)) 5 t.line)) := by
 subst e1 e2
 have HP : Hid (WkP w p q i f) := hp
 have HT : Hid (WkT w q g body cv) := hT
 have HI : Hid (body[i]? = some t) := ht
 have HD : Hid (Dg t.text) := hd
 have HQ : Hid (q ≠ p ∧ g ≠ p) := ⟨hq, hg⟩
 clear hp hT ht hd hq hg
 cases hv : decide (high < valOf t)
 all_goals
  have hv0 : ¬ ((valOf t : Nat) : Int) < 0 := by omega
  go_enter Tryz.func132, Tryz.ntmps132
  go_wp2_with fail
  refine (at_any w p q g i f body cv t HP.out HT.out HI.out).mono ?_
  rintro e w1 ⟨rfl, hf⟩
  have HF1 : Hid (Fr (fun _ => False) w w1) := hf
  clear hf
  go_wp2_with fail
  refine (number_any t.text w1 HD.out).mono ?_
  rintro e w2 ⟨rfl, he⟩
  replace he := he.symm
  subst he
  have hnum : numOf t.text.data.toList = valOf t := rfl
  rw [hnum]
  clear hnum
  simp only [decide_eq_true_eq, decide_eq_false_iff_not] at hv
  have hvi : (high : Int) < (valOf t : Int) ↔ high < valOf t := by omega
  generalize valOf t = n at *
  first
  | (have hw1 : (high : Int) < (n : Int) := by omega)
  | (have hw1 : ¬ (high : Int) < (n : Int) := by omega)
  clear hvi
  go_wp2_with fail
  refine (fault_any w1 p q g i f body cv t _ 5 _ (HP.out.fr HF1.out (by simp)) (HT.out.fr HF1.out (by simp) (by simp)) HQ.out.1 HQ.out.2 HI.out (by decide) (by rfl)).mono ?_
  rintro e w3 ⟨rfl, hP3, hF3⟩
  have HP3 : Hid (WkP w3 p q i _) := hP3
  have HF3 : Hid (Fr (fun j => j = p) w w3) := (HF1.out.mono (by simp)).trans hF3
  have c1 := hP3.c1
  have fz := hP3.fz
  clear hP3 hF3
  go_wp2
  go_ret
  have hm := HP3.out.move (i + 1)
  rw [Int.natCast_add] at hm
  exact ⟨rfl, hm.1, HF3.out.trans hm.2⟩
end Go.Proofs.YtccikgogjfbpeaaGreatDoor

namespace Go.Proofs.YtccikgogjfbpeaaGreatDoor
open Go.RowKit

/-- A list in the text: at place i its keyword, then its numbers with commas between. -/
structure LAt (body : List Tk) (i : Nat) (l : List Tk) : Prop where
 it : ∀ j t, l[j]? = some t → body[i + 1 + 2 * j]? = some t
 cm : ∀ j, 0 < j → j < l.length → ∃ t, body[i + 2 * j]? = some t ∧ (t.text.toList == [44]) = true
 en : ∃ t, body[i + 2 * l.length]? = some t ∧ (t.text.toList == [44]) = false
 ps : 0 < l.length

def IPost (w : World) (p q i : Nat) (ns : List Nat) (f : Fa) (e : Ending) (w' : World) : Prop :=
 (∃ v, e = .returned v ∧ w'.ownsRow w.heap.size 3 1 v ns.length (intRow ns)) ∧ WkP w' p q i f ∧ Fr (fun j => j = p) w w'

theorem d4_of {j : Nat} {kk : Int} {b : Bool} (h : kk = ((j + 1 : Nat) : Int)) (hb : decide (4 < j + 1) = b) : decide ((4 : Int) < kk) = b := by
 rw [h, ← hb]
 by_cases h4 : 4 < j + 1
 ·simp [h4]; omega
 ·simp [h4]; omega
set_option maxRecDepth 30000 in
set_option maxHeartbeats 2000000 in
theorem ints_any (w : World) (p q g i : Nat) (f : Fa) (body : List Tk) (cv : Nat) (l : List Tk) (high : Nat) (i2 : Int) (hp : WkP w p q i f) (hT : WkT w q g body cv) (hq : q ≠ p) (hg : g ≠ p) (hb : body.length ≤ 3000) (hl : LAt body i l) (hd : ∀ t, t ∈ l → Dg t.text) (e2 : i2 = high) :
  Calls Tryz.prog 134 #[.pointer (some ⟨p, 0, none⟩), .int .i64 i2] w (IPost w p q (i + 2 * l.length) (l.map valOf) (refIntsF high 1 f l)) := by
 subst e2
 obtain ⟨ii, hi, hz0, hz1, hz2⟩ := info_parts Tryz.infoInt
 have HP : Hid (WkP w p q i f) := hp
 have HT : Hid (WkT w q g body cv) := hT
 have HL : Hid (LAt body i l) := hl
 have HD : Hid (∀ t, t ∈ l → Dg t.text) := hd
 have HQ : Hid (q ≠ p ∧ g ≠ p) := ⟨hq, hg⟩
 have hi3 : i + 2 * l.length < body.length := by
  obtain ⟨t, ht, _⟩ := hl.en
  exact (List.getElem?_eq_some_iff.1 ht).1
 have hps := hl.ps
 clear hp hT hq hg hl hd
 go_enter Tryz.func134, Tryz.ntmps134
 go_wp2_with fail
 go_loopg [5, 6] l.length (fun m o kk wr => ∃ j fj acc, j ≤ l.length ∧ m = l.length - j ∧ kk = .int .i64 ((j + 1 : Nat) : Int) ∧ Hid (acc = (l.take j).map valOf) ∧ Hid (wr.ownsRow w.heap.size 3 1 o j (intRow acc)) ∧ Hid (WkP wr p q (i + 2 * j) fj) ∧ Hid (Fr (fun j => j = p) w wr) ∧ Hid (refIntsF high 1 f l = refIntsF high (j + 1) fj (l.drop j)))
 case atStart => exact ⟨0, f, [], Nat.zero_le _, rfl, rfl, rfl, World.ownsRow_nil _ _ _ _, HP, Fr.refl _ _, rfl⟩
 case round =>
  obtain ⟨j, fj, acc, hj, rfl, rfl, HAC, HO, HW, HF, HR⟩ := hrel
  have HTr : Hid (WkT wr q g body cv) := HT.out.fr HF.out HQ.out.1 HQ.out.2
  have c1 := HW.out.c1
  have fz := HW.out.fz
  by_cases hlt : j < l.length
  ·obtain ⟨t, ht⟩ : ∃ t, l[j]? = some t := ⟨_, List.getElem?_eq_getElem hlt⟩
   have HIT : Hid (body[i + 2 * j + 1]? = some t) := by
    have := HL.out.it j t ht
    rw [show i + 1 + 2 * j = i + 2 * j + 1 from by omega] at this
    exact this
   have HDT : Hid (Dg t.text) := HD.out t (List.mem_of_getElem? ht)
   have HDR : Hid (l.drop j = t :: l.drop (j + 1)) := drop_of ht
   have HTK : Hid ((l.take (j + 1)).map valOf = (l.take j).map valOf ++ [valOf t]) := by
    show _ = _
    rw [List.take_add_one, ht, List.map_append]
    rfl
   clear ht
   obtain ⟨x, hx⟩ : ∃ x, x = i + 2 * j := ⟨_, rfl⟩
   obtain ⟨kk, hkk⟩ : ∃ kk : Int, kk = ((j + 1 : Nat) : Int) := ⟨_, rfl⟩
   rw [← hkk]
   rw [← hx] at c1 HW HIT
   have hxb : x + 2 ≤ 3000 := by omega
   have HXE : Hid (x = i + 2 * j) := hx
   have HKK : Hid (kk = ((j + 1 : Nat) : Int)) := hkk
   have hwk : IntKind.i64.wrap (kk + 1) = kk + 1 := IntWalk.i64_in _ (by omega)
   have HPL : Hid (∀ k, k = p → k < w.heap.size) := fun k e => by rw [e]; exact World.block_lt_of_cell? w _ HP.out.c0
   by_cases hj0 : j = 0
   ·have hk1 : (kk == 1) = true := by simp; omega
    have HB4 : Hid (decide (4 < j + 1) = false) := by show _ = _; simp; omega
    have HW1 : Hid (WkP wr p q x fj) := HW
    have HT1 : Hid (WkT wr q g body cv) := HTr
    have HF1 : Hid (Fr (fun j => j = p) w wr) := HF
    have HO1 := HO
    clear hj0 hx hkk
    have hd4 : decide ((4 : Int) < kk) = false := d4_of HKK.out HB4.out
    go_wp2_with fail
    have hm := HW1.out.move (x + 1)
    rw [Int.natCast_add] at hm
    refine (fault_any _ p q g (x + 1) fj body cv t false 6 _ hm.1 (HT1.out.fr hm.2 HQ.out.1 HQ.out.2) HQ.out.1 HQ.out.2 HIT.out (by decide) (by rfl)).mono ?_
    rintro e w3 ⟨rfl, hP3, hF3⟩
    have HP3 : Hid (WkP w3 p q (x + 1) (noteM fj false 6 t.line)) := hP3
    have HF3 : Hid (Fr (fun j => j = p) w w3) := (HF1.out.trans hm.2).trans hF3
    have HO3 : Hid (w3.ownsRow w.heap.size 3 1 u5 j (intRow acc)) := ownsRow_fr HO1.out (hm.2.trans hF3) HPL.out
    clear hP3 hF3 hm
    go_wp2_with fail
    refine (up_any w3 p q g (x + 1) _ body cv t high _ _ HP3.out (HT.out.fr HF3.out HQ.out.1 HQ.out.2) HQ.out.1 HQ.out.2 HIT.out HDT.out (by omega) (by rfl) (by rfl)).mono ?_
    rintro e w4 ⟨rfl, hP4, hF4⟩
    have HP4 : Hid (WkP w4 p q (x + 1 + 1) (noteM (noteM fj false 6 t.line) (decide (high < valOf t)) 5 t.line)) := hP4
    have HF4 : Hid (Fr (fun j => j = p) w w4) := HF3.out.trans hF4
    have hs4 := HF4.out.size
    have HO4 : Hid (w4.ownsRow w.heap.size 3 1 u5 j (intRow acc)) := ownsRow_fr HO3.out hF4 HPL.out
    clear hP4 hF4
    obtain ⟨n, hnv⟩ : ∃ n, n = valOf t := ⟨_, rfl⟩
    rw [← hnv] at HP4 HTK ⊢
    have HNV : Hid (valOf t = n) := hnv.symm
    clear hnv
    go_wp2_with (at_builtin; refine wpList_append_lies _ rfl (.tmp 31) (.tmp 33) 25 rfl w.heap.size 3 ii _ 1 8 Tryz.underlying25 hi hz0 hz1 hz2 rfl (by decide) u5 j (intRow acc) rfl ?h1 ⟨w4.heap.size, 0, none⟩ 1 1 [.int .i64 n] rfl rfl ?h2 ?h3 (by decide) ?h4 ?h5 ?h6 _ rfl ?h7)
    case h1 => exact HO4.out.alloc _
    case h2 => exact World.news_of_block (heap_alloc_new w4 _)
    case h3 => simp [Value.oneCell']
    case h4 => unfold maxLen; omega
    case h5 => omega
    case h6 => first | omega | (simp; omega)
    case h7 =>
     intro g2 cap2 w5 hown hgrow _ _
     have hrow : ∀ k, u5.ownBlock = some k → w.heap.size ≤ k := fun k hk => (HO4.out.lt k hk).1
     have HO5 : Hid (w5.ownsRow w.heap.size 3 1 (.slice (some ⟨g2, 0, none⟩) (j + 1) cap2) (j + 1) (intRow acc ++ [.int .i64 n])) := hown
     have HF5 : Hid (Fr (fun j => j = p) w w5) := (HF4.out.alloc _).grown hgrow (fun k hk => Or.inr (hrow k hk))
     have HP5 : Hid (WkP w5 p q (x + 1 + 1) (noteM (noteM fj false 6 t.line) (decide (high < n)) 5 t.line)) := HP4.out.fr (((Fr.refl (fun k => u5.ownBlock = some k) w4).alloc _).grown hgrow (fun k hk => Or.inl hk)) (fun hk => by have := hrow p hk; have := HPL.out p rfl; omega)
     clear hgrow hown hrow
     go_wp2
     go_roundg (l.length - (j + 1))
     case measure => omega
     case rel =>
      refine ⟨j + 1, noteM (noteM fj false 6 t.line) (decide (high < n)) 5 t.line, acc ++ [n], by omega, rfl, by rw [HKK.out]; go_num, ?_, ?_, ?_, HF5, ?_⟩
      ·show _ = _
       rw [HAC.out, HTK.out]
      ·show World.ownsRow _ _ _ _ _ _ _
       rw [intRow_snoc]
       exact HO5.out
      ·show WkP _ _ _ _ _
       have e : i + 2 * (j + 1) = x + 1 + 1 := by have := HXE.out; omega
       rw [e]
       exact HP5.out
      ·show _ = _
       rw [HR.out, HDR.out]
       simp only [refIntsF]
       rw [HB4.out, HNV.out]
   ·have hk1 : (kk == 1) = false := by simp; omega
    obtain ⟨tc, htc, hcm⟩ := HL.out.cm j (by omega) hlt
    rw [← hx] at htc
    have HC : Hid (body[x]? = some tc) := htc
    clear htc hj0
    by_cases h4 : 4 < j + 1
    ·have HB4 : Hid (decide (4 < j + 1) = true) := by show _ = _; simp; omega
     clear h4 hx hkk
     clear c1 fz
     go_wp2_with fail
     refine (at_any wr p q g x fj body cv tc HW.out HTr.out HC.out).mono ?_
     rintro e w1 ⟨rfl, hf⟩
     have HF1 : Hid (Fr (fun j => j = p) w w1) := HF.out.trans (hf.mono (by simp))
     have HW1 : Hid (WkP w1 p q x fj) := HW.out.fr hf (by simp)
     have HT1 : Hid (WkT w1 q g body cv) := HTr.out.fr hf (by simp) (by simp)
     have HO1 : Hid (w1.ownsRow w.heap.size 3 1 u5 j (intRow acc)) := ownsRow_fr HO.out hf (by simp)
     clear hf
     have c1 := HW1.out.c1
     have fz := HW1.out.fz
     have hd4 : decide ((4 : Int) < kk) = true := d4_of HKK.out HB4.out
     go_wp2_with fail
     have hm := HW1.out.move (x + 1)
     rw [Int.natCast_add] at hm
     refine (fault_any _ p q g (x + 1) fj body cv t true 6 _ hm.1 (HT1.out.fr hm.2 HQ.out.1 HQ.out.2) HQ.out.1 HQ.out.2 HIT.out (by decide) (by rfl)).mono ?_
     rintro e w3 ⟨rfl, hP3, hF3⟩
     have HP3 : Hid (WkP w3 p q (x + 1) (noteM fj true 6 t.line)) := hP3
     have HF3 : Hid (Fr (fun j => j = p) w w3) := (HF1.out.trans hm.2).trans hF3
     have HO3 : Hid (w3.ownsRow w.heap.size 3 1 u5 j (intRow acc)) := ownsRow_fr HO1.out (hm.2.trans hF3) HPL.out
     clear hP3 hF3 hm
     go_wp2_with fail
     refine (up_any w3 p q g (x + 1) _ body cv t high _ _ HP3.out (HT.out.fr HF3.out HQ.out.1 HQ.out.2) HQ.out.1 HQ.out.2 HIT.out HDT.out (by omega) (by rfl) (by rfl)).mono ?_
     rintro e w4 ⟨rfl, hP4, hF4⟩
     have HP4 : Hid (WkP w4 p q (x + 1 + 1) (noteM (noteM fj true 6 t.line) (decide (high < valOf t)) 5 t.line)) := hP4
     have HF4 : Hid (Fr (fun j => j = p) w w4) := HF3.out.trans hF4
     have hs4 := HF4.out.size
     have HO4 : Hid (w4.ownsRow w.heap.size 3 1 u5 j (intRow acc)) := ownsRow_fr HO3.out hF4 HPL.out
     clear hP4 hF4
     obtain ⟨n, hnv⟩ : ∃ n, n = valOf t := ⟨_, rfl⟩
     rw [← hnv] at HP4 HTK ⊢
     have HNV : Hid (valOf t = n) := hnv.symm
     clear hnv
     go_wp2_with (at_builtin; refine wpList_append_lies _ rfl (.tmp 31) (.tmp 33) 25 rfl w.heap.size 3 ii _ 1 8 Tryz.underlying25 hi hz0 hz1 hz2 rfl (by decide) u5 j (intRow acc) rfl ?h1 ⟨w4.heap.size, 0, none⟩ 1 1 [.int .i64 n] rfl rfl ?h2 ?h3 (by decide) ?h4 ?h5 ?h6 _ rfl ?h7)
     case h1 => exact HO4.out.alloc _
     case h2 => exact World.news_of_block (heap_alloc_new w4 _)
     case h3 => simp [Value.oneCell']
     case h4 => unfold maxLen; omega
     case h5 => omega
     case h6 => first | omega | (simp; omega)
     case h7 =>
      intro g2 cap2 w5 hown hgrow _ _
      have hrow : ∀ k, u5.ownBlock = some k → w.heap.size ≤ k := fun k hk => (HO4.out.lt k hk).1
      have HO5 : Hid (w5.ownsRow w.heap.size 3 1 (.slice (some ⟨g2, 0, none⟩) (j + 1) cap2) (j + 1) (intRow acc ++ [.int .i64 n])) := hown
      have HF5 : Hid (Fr (fun j => j = p) w w5) := (HF4.out.alloc _).grown hgrow (fun k hk => Or.inr (hrow k hk))
      have HP5 : Hid (WkP w5 p q (x + 1 + 1) (noteM (noteM fj true 6 t.line) (decide (high < n)) 5 t.line)) := HP4.out.fr (((Fr.refl (fun k => u5.ownBlock = some k) w4).alloc _).grown hgrow (fun k hk => Or.inl hk)) (fun hk => by have := hrow p hk; have := HPL.out p rfl; omega)
      clear hgrow hown hrow
      go_wp2
      go_roundg (l.length - (j + 1))
      case measure => omega
      case rel =>
       refine ⟨j + 1, noteM (noteM fj true 6 t.line) (decide (high < n)) 5 t.line, acc ++ [n], by omega, rfl, by rw [HKK.out]; go_num, ?_, ?_, ?_, HF5, ?_⟩
       ·show _ = _
        rw [HAC.out, HTK.out]
       ·show World.ownsRow _ _ _ _ _ _ _
        rw [intRow_snoc]
        exact HO5.out
       ·show WkP _ _ _ _ _
        have e : i + 2 * (j + 1) = x + 1 + 1 := by have := HXE.out; omega
        rw [e]
        exact HP5.out
       ·show _ = _
        rw [HR.out, HDR.out]
        simp only [refIntsF]
        rw [HB4.out, HNV.out]
    ·have HB4 : Hid (decide (4 < j + 1) = false) := by show _ = _; simp; omega
     clear h4 hx hkk
     clear c1 fz
     go_wp2_with fail
     refine (at_any wr p q g x fj body cv tc HW.out HTr.out HC.out).mono ?_
     rintro e w1 ⟨rfl, hf⟩
     have HF1 : Hid (Fr (fun j => j = p) w w1) := HF.out.trans (hf.mono (by simp))
     have HW1 : Hid (WkP w1 p q x fj) := HW.out.fr hf (by simp)
     have HT1 : Hid (WkT w1 q g body cv) := HTr.out.fr hf (by simp) (by simp)
     have HO1 : Hid (w1.ownsRow w.heap.size 3 1 u5 j (intRow acc)) := ownsRow_fr HO.out hf (by simp)
     clear hf
     have c1 := HW1.out.c1
     have fz := HW1.out.fz
     have hd4 : decide ((4 : Int) < kk) = false := d4_of HKK.out HB4.out
     go_wp2_with fail
     have hm := HW1.out.move (x + 1)
     rw [Int.natCast_add] at hm
     refine (fault_any _ p q g (x + 1) fj body cv t false 6 _ hm.1 (HT1.out.fr hm.2 HQ.out.1 HQ.out.2) HQ.out.1 HQ.out.2 HIT.out (by decide) (by rfl)).mono ?_
     rintro e w3 ⟨rfl, hP3, hF3⟩
     have HP3 : Hid (WkP w3 p q (x + 1) (noteM fj false 6 t.line)) := hP3
     have HF3 : Hid (Fr (fun j => j = p) w w3) := (HF1.out.trans hm.2).trans hF3
     have HO3 : Hid (w3.ownsRow w.heap.size 3 1 u5 j (intRow acc)) := ownsRow_fr HO1.out (hm.2.trans hF3) HPL.out
     clear hP3 hF3 hm
     go_wp2_with fail
     refine (up_any w3 p q g (x + 1) _ body cv t high _ _ HP3.out (HT.out.fr HF3.out HQ.out.1 HQ.out.2) HQ.out.1 HQ.out.2 HIT.out HDT.out (by omega) (by rfl) (by rfl)).mono ?_
     rintro e w4 ⟨rfl, hP4, hF4⟩
     have HP4 : Hid (WkP w4 p q (x + 1 + 1) (noteM (noteM fj false 6 t.line) (decide (high < valOf t)) 5 t.line)) := hP4
     have HF4 : Hid (Fr (fun j => j = p) w w4) := HF3.out.trans hF4
     have hs4 := HF4.out.size
     have HO4 : Hid (w4.ownsRow w.heap.size 3 1 u5 j (intRow acc)) := ownsRow_fr HO3.out hF4 HPL.out
     clear hP4 hF4
     obtain ⟨n, hnv⟩ : ∃ n, n = valOf t := ⟨_, rfl⟩
     rw [← hnv] at HP4 HTK ⊢
     have HNV : Hid (valOf t = n) := hnv.symm
     clear hnv
     go_wp2_with (at_builtin; refine wpList_append_lies _ rfl (.tmp 31) (.tmp 33) 25 rfl w.heap.size 3 ii _ 1 8 Tryz.underlying25 hi hz0 hz1 hz2 rfl (by decide) u5 j (intRow acc) rfl ?h1 ⟨w4.heap.size, 0, none⟩ 1 1 [.int .i64 n] rfl rfl ?h2 ?h3 (by decide) ?h4 ?h5 ?h6 _ rfl ?h7)
     case h1 => exact HO4.out.alloc _
     case h2 => exact World.news_of_block (heap_alloc_new w4 _)
     case h3 => simp [Value.oneCell']
     case h4 => unfold maxLen; omega
     case h5 => omega
     case h6 => first | omega | (simp; omega)
     case h7 =>
      intro g2 cap2 w5 hown hgrow _ _
      have hrow : ∀ k, u5.ownBlock = some k → w.heap.size ≤ k := fun k hk => (HO4.out.lt k hk).1
      have HO5 : Hid (w5.ownsRow w.heap.size 3 1 (.slice (some ⟨g2, 0, none⟩) (j + 1) cap2) (j + 1) (intRow acc ++ [.int .i64 n])) := hown
      have HF5 : Hid (Fr (fun j => j = p) w w5) := (HF4.out.alloc _).grown hgrow (fun k hk => Or.inr (hrow k hk))
      have HP5 : Hid (WkP w5 p q (x + 1 + 1) (noteM (noteM fj false 6 t.line) (decide (high < n)) 5 t.line)) := HP4.out.fr (((Fr.refl (fun k => u5.ownBlock = some k) w4).alloc _).grown hgrow (fun k hk => Or.inl hk)) (fun hk => by have := hrow p hk; have := HPL.out p rfl; omega)
      clear hgrow hown hrow
      go_wp2
      go_roundg (l.length - (j + 1))
      case measure => omega
      case rel =>
       refine ⟨j + 1, noteM (noteM fj false 6 t.line) (decide (high < n)) 5 t.line, acc ++ [n], by omega, rfl, by rw [HKK.out]; go_num, ?_, ?_, ?_, HF5, ?_⟩
       ·show _ = _
        rw [HAC.out, HTK.out]
       ·show World.ownsRow _ _ _ _ _ _ _
        rw [intRow_snoc]
        exact HO5.out
       ·show WkP _ _ _ _ _
        have e : i + 2 * (j + 1) = x + 1 + 1 := by have := HXE.out; omega
        rw [e]
        exact HP5.out
       ·show _ = _
        rw [HR.out, HDR.out]
        simp only [refIntsF]
        rw [HB4.out, HNV.out]
  ·obtain ⟨te, hte, hcm⟩ := HL.out.en
   have ej : j = l.length := by omega
   rw [← ej] at hte
   have hk1 : ((((j + 1 : Nat) : Int)) == 1) = false := by simp; omega
   have HC : Hid (body[i + 2 * j]? = some te) := hte
   clear hte
   obtain ⟨x, hx⟩ : ∃ x, x = i + 2 * j := ⟨_, rfl⟩
   obtain ⟨kk, hkk⟩ : ∃ kk : Int, kk = ((j + 1 : Nat) : Int) := ⟨_, rfl⟩
   rw [← hkk] at hk1 ⊢
   rw [← hx] at HC HW
   have HXE : Hid (x = i + 2 * j) := hx
   clear c1 fz hx hkk
   go_wp2_with fail
   refine (at_any wr p q g x fj body cv te HW.out HTr.out HC.out).mono ?_
   rintro e w1 ⟨rfl, hf⟩
   have HF1 : Hid (Fr (fun j => j = p) w w1) := HF.out.trans (hf.mono (by simp))
   have HW1 : Hid (WkP w1 p q x fj) := HW.out.fr hf (by simp)
   have HO1 : Hid (w1.ownsRow w.heap.size 3 1 u5 j (intRow acc)) := ownsRow_fr HO.out hf (by simp)
   clear hf
   go_wp2
   go_ret
   refine ⟨⟨_, rfl, ?_⟩, ?_, HF1.out⟩
   ·have e := HO1.out
    rw [HAC.out, List.take_of_length_le (by omega)] at e
    rw [List.length_map, ← ej]
    exact e
   ·have e := HW1.out
    have e2 : fj = refIntsF high 1 f l := by rw [HR.out, List.drop_of_length_le (by omega)]; rfl
    rw [← e2, ← ej, ← HXE.out]
    exact e
end Go.Proofs.YtccikgogjfbpeaaGreatDoor
