import Derived.Test.YtccikgogjfbpeaaGreatDoorQr
import Derived.Test.YtccikgogjfbpeaaGreatDoorQo
namespace Go.Proofs.YtccikgogjfbpeaaGreatDoor
set_option maxRecDepth 30000
set_option maxHeartbeats 8000000
open Go.RowKit
def faK (f : Fa) : Nat := match f with | none => 0 | some x => x.1
def faL (f : Fa) : Nat := match f with | none => 0 | some x => x.2
def FaOk (f : Fa) : Prop := ∀ x, f = some x -> x.1 ≠ 0
structure WkP (w : World) (p q i : Nat) (f : Fa) : Prop where
 c0 : w.cell? ⟨p, 0, none⟩ = some (.pointer (some ⟨q, 0, none⟩))
 c1 : w.cell? ⟨p, 1, none⟩ = some (.int .i64 i)
 c2 : w.cell? ⟨p, 2, none⟩ = some (.int .i64 (faK f))
 c3 : w.cell? ⟨p, 3, none⟩ = some (.int .i64 (faL f))
 fz : ∀ o, w.frozen? ⟨p, o, none⟩ = false
 ok : FaOk f
structure WkT (w : World) (q g : Nat) (body : List Tk) (cv : Nat) : Prop where
 c0 : w.cell? ⟨q, 0, none⟩ = some (.slice (some ⟨g, 0, none⟩) body.length cv)
 lt : g < w.heap.size
 row : RTk w g body
theorem WkP.fr {w w' : World} {p q i : Nat} {f : Fa} {S : Nat -> Prop} (h : WkP w p q i f) (hf : Fr S w w') (hS : ¬ S p) : WkP w' p q i f := by
 have hl : p < w.heap.size := bL w _ h.c0;exact ⟨(hf.cell (p := ⟨p, 0, none⟩) hl hS).trans h.c0, (hf.cell (p := ⟨p, 1, none⟩) hl hS).trans h.c1, (hf.cell (p := ⟨p, 2, none⟩) hl hS).trans h.c2, (hf.cell (p := ⟨p, 3, none⟩) hl hS).trans h.c3, fun o => (hf.frozen (p := ⟨p, o, none⟩) hl hS).trans (h.fz o), h.ok⟩
theorem WkT.fr {w w' : World} {q g : Nat} {body : List Tk} {cv : Nat} {S : Nat -> Prop} (h : WkT w q g body cv) (hf : Fr S w w') (hq : ¬ S q) (hg : ¬ S g) : WkT w' q g body cv := by
 have hl : q < w.heap.size := bL w _ h.c0;exact ⟨(hf.cell (p := ⟨q, 0, none⟩) hl hq).trans h.c0, nL h.lt hf.size, h.row.fr hf h.lt hg⟩
theorem WkP.move {w : World} {p q i : Nat} {f : Fa} (h : WkP w p q i f) (k : Nat) : WkP (w.setCell ⟨p, 1, none⟩ (.int .i64 k)) p q k f /\ Fr (fun j => j = p) w (w.setCell ⟨p, 1, none⟩ (.int .i64 k)) := by
 refine ⟨⟨?_, ?_, ?_, ?_, fun o => by simp [h.fz o], h.ok⟩, (Fr.refl (fun j => j = p) w).setCell (Or.inl rfl) _⟩
 ·rw [cO _ _ _ _ (by simp)]; exact h.c0
 ·exact cS _ _ _ h.c1
 ·rw [cO _ _ _ _ (by simp)]; exact h.c2
 ·rw [cO _ _ _ _ (by simp)]; exact h.c3
theorem WkP.note {w : World} {p q i : Nat} (h : WkP w p q i none) (k l : Nat) (hk : k ≠ 0) :
  WkP ((w.setCell ⟨p, 2, none⟩ (.int .i64 k)).setCell ⟨p, 3, none⟩ (.int .i64 l)) p q i (some (k, l)) /\ Fr (fun j => j = p) w ((w.setCell ⟨p, 2, none⟩ (.int .i64 k)).setCell ⟨p, 3, none⟩ (.int .i64 l)) := by
 refine ⟨⟨?_, ?_, ?_, ?_, fun o => by simp [h.fz o], fun x e => by injection e with e; subst e; exact hk⟩, ((Fr.refl (fun j => j = p) w).setCell (p := ⟨p, 2, none⟩) (Or.inl rfl) _).setCell (p := ⟨p, 3, none⟩) (Or.inl rfl) _⟩
 ·rw [cO _ _ _ _ (by simp), cO _ _ _ _ (by simp)]; exact h.c0
 ·rw [cO _ _ _ _ (by simp), cO _ _ _ _ (by simp)]; exact h.c1
 ·rw [cO _ _ _ _ (by simp)]; exact cS _ _ _ h.c2
 ·exact cS _ _ _ (by rw [cO _ _ _ _ (by simp)]; exact h.c3)
theorem at_any (w : World) (p q g i : Nat) (f : Fa) (body : List Tk) (cv : Nat) (t : Tk) (hp : WkP w p q i f) (hT : WkT w q g body cv) (ht : body[i]? = some t) :
  Calls Tryz.prog 80 #[.pointer (some ⟨p, 0, none⟩)] w fun e w' => e = .returned (.string t.text) /\ F0 w w' := by
 obtain ⟨c0, c1, c2, c3, fz, ok⟩ := hp;obtain ⟨d0, dl, dr⟩ := hT;obtain ⟨r0, r1, r2⟩ := dr i t ht;have hlt : i < body.length := (iG.1 ht).1
 have hki : (i : Int) < (body.length : Int) := by omega
 clear dr ht ok c2 c3 fz r1 r2;go_enter Tryz.func80, Tryz.ntmps80;go_wp2_with fail
 go_big_quiet ((fail))
 go_wp2_with fail
 go_big_quiet ((fail))
 go_wp2;go_ret;exact ⟨rfl, ⟨rfl, rfl, rfl, Nat.le_refl _, fun _ _ _ => rfl⟩⟩
def FPost (w : World) (p q i : Nat) (f : Fa) (e : Ending) (w' : World) : Prop := e = .returned (.tuple #[]) /\ WkP w' p q i f /\ Fr (fun j => j = p) w w'
theorem fault_any (w : World) (p q g i : Nat) (f : Fa) (body : List Tk) (cv : Nat) (t : Tk) (wrong : Bool) (k : Nat) (ki : Int) (hp : WkP w p q i f) (hT : WkT w q g body cv) (hq : q ≠ p) (hg : g ≠ p) (ht : body[i]? = some t) (hk : k ≠ 0) (hki : ki = k) :
  Calls Tryz.prog 131 #[.pointer (some ⟨p, 0, none⟩), .bool wrong, .int .i64 ki] w (FPost w p q i (noteM f wrong k t.line)) := by
 subst hki
 cases wrong with
 | false =>
  have HE : Hid (FPost w p q i (noteM f false k t.line) (.returned (.tuple #[])) w) := by
   refine ⟨rfl, ?_, Fr.refl _ _⟩
   cases f <;> exact hp
  clear hp hT ht hq hg;go_enter Tryz.func131, Tryz.ntmps131;go_wp2
  go_end0
  exact HE.o
 | true =>
  cases f with
  | some x =>
   have HE : Hid (FPost w p q i (some x) (.returned (.tuple #[])) w) := ⟨rfl, hp, Fr.refl _ _⟩;obtain ⟨c0, c1, c2, c3, fz, ok⟩ := hp
   have hx : ((faK (some x) : Int) == 0) = false := by
    have := ok x rfl;simp [faK];omega
   generalize faK (some x) = n at *;clear c3 c1 hT ht hq hg ok fz;go_enter Tryz.func131, Tryz.ntmps131;go_wp2
   go_end0
   exact HE.o
  | none =>
   have HP := hid hp;obtain ⟨c0, c1, c2, c3, fz, ok⟩ := hp;obtain ⟨d0, dl, dr⟩ := hT;obtain ⟨r0, r1, r2⟩ := dr i t ht;have hlt : i < body.length := (iG.1 ht).1
   have hkl : (i : Int) < (body.length : Int) := by omega
   have e0 : (w.setCell ⟨p, 2, none⟩ (.int .i64 k)).cell? ⟨p, 0, none⟩ = some (.pointer (some ⟨q, 0, none⟩)) := by rw [cO _ _ _ _ (by simp)]; exact c0
   have e1 : (w.setCell ⟨p, 2, none⟩ (.int .i64 k)).cell? ⟨p, 1, none⟩ = some (.int .i64 i) := by rw [cO _ _ _ _ (by simp)]; exact c1
   have e3 : (w.setCell ⟨p, 2, none⟩ (.int .i64 k)).cell? ⟨p, 3, none⟩ = some (.int .i64 (faL none)) := by rw [cO _ _ _ _ (by simp)]; exact c3
   have eq : (w.setCell ⟨p, 2, none⟩ (.int .i64 k)).cell? ⟨q, 0, none⟩ = some (.slice (some ⟨g, 0, none⟩) body.length cv) := by rw [cO _ _ _ _ (fun h => hq (by injection h with h1; first | exact h1 | exact h1.symm))]; exact d0
   have er : (w.setCell ⟨p, 2, none⟩ (.int .i64 k)).cell? ⟨g, i * 3 + 2, none⟩ = some (.int .i64 t.line) := by rw [cO _ _ _ _ (fun h => hg (by injection h with h1; first | exact h1 | exact h1.symm))]; exact r2
   have ef : ∀ o, (w.setCell ⟨p, 2, none⟩ (.int .i64 k)).frozen? ⟨p, o, none⟩ = false := fun o => by simp [fz o]
   have c2' : w.cell? ⟨p, 2, none⟩ = some (.int .i64 0) := c2;clear c1 c2 c3 ok d0 dl dr r0 r1 r2 ht hq hg;go_enter Tryz.func131, Tryz.ntmps131;go_wp2_with fail;generalize hw1 : w.setCell ⟨p, 2, none⟩ (.int .i64 k) = w1 at *
   go_region
   go_end0
   have hn := HP.o.note k t.line hk;rw [hw1] at hn;exact ⟨rfl, hn.1.fr ((Fr.refl (fun _ => False) _).drew) (by simp), hn.2.drew⟩
def UpPost (w : World) (p q i v : Nat) (f : Fa) (e : Ending) (w' : World) : Prop := e = .returned (.int .i64 v) /\ WkP w' p q i f /\ Fr (fun j => j = p) w w'
theorem up_any (w : World) (p q g i : Nat) (f : Fa) (body : List Tk) (cv : Nat) (t : Tk) (high : Nat) (i1 i2 : Int) (hp : WkP w p q i f) (hT : WkT w q g body cv) (hq : q ≠ p) (hg : g ≠ p) (ht : body[i]? = some t) (hd : Dg t.text) (hi : i <= 4000) (e1 : i1 = 0) (e2 : i2 = high) :
  Calls Tryz.prog 132 #[.pointer (some ⟨p, 0, none⟩), .int .i64 i1, .int .i64 i2] w (UpPost w p q (i + 1) (valOf t) (noteM f (decide (high < valOf t)) 5 t.line)) := by
 subst e1 e2;have HP := hid hp;have HT := hid hT;have HI := hid ht;have HD := hid hd;have HQ : Hid (q ≠ p /\ g ≠ p) := ⟨hq, hg⟩;clear hp hT ht hd hq hg
 cases hv : decide (high < valOf t)
 all_goals
  have hv0 : ¬ ((valOf t : Nat) : Int) < 0 := by omega
  go_enter Tryz.func132, Tryz.ntmps132;go_wp2_with fail;refine (at_any w p q g i f body cv t HP.o HT.o HI.o).mono ?_;rintro e w1 ⟨rfl, hf⟩;have HF1 := hid hf;clear hf;go_wp2_with fail;refine (number_any t.text w1 HD.o).mono ?_;rintro e w2 ⟨rfl, he⟩;replace he := he.symm;subst he;have hnum : numOf t.text.data.toList = valOf t := rfl;rw [hnum];clear hnum;simp only [decide_eq_true_eq, decide_eq_false_iff_not] at hv
  have hvi : (high : Int) < (valOf t : Int) ↔ high < valOf t := by omega
  generalize valOf t = n at *
  first
  | (have hw1 : (high : Int) < (n : Int) := by omega)
  | (have hw1 : ¬ (high : Int) < (n : Int) := by omega)
  clear hvi;go_wp2_with fail;refine (fault_any w1 p q g i f body cv t _ 5 _ (HP.o.fr HF1.o (by simp)) (HT.o.fr HF1.o (by simp) (by simp)) HQ.o.1 HQ.o.2 HI.o (by decide) (by rfl)).mono ?_;rintro e w3 ⟨rfl, hP3, hF3⟩;have HP3 := hid hP3;have HF3 := hid ((HF1.o.mono (by simp)).trans hF3);have c1 := hP3.c1;have fz := hP3.fz;clear hP3 hF3;go_wp2;go_ret;have hm := HP3.o.move (i + 1);rw [Int.natCast_add] at hm;exact ⟨rfl, hm.1, HF3.o.trans hm.2⟩
def IPost (w : World) (p q i : Nat) (ns : List Nat) (f : Fa) (e : Ending) (w' : World) : Prop :=
 (∃ v, e = .returned v /\ w'.ownsRow w.heap.size 3 1 v ns.length (intRow ns)) /\ WkP w' p q i f /\ Fr (fun j => j = p) w w'
theorem d4_of {j : Nat} {kk : Int} {b : Bool} (h : kk = ((j + 1 : Nat) : Int)) (hb : decide (4 < j + 1) = b) : decide ((4 : Int) < kk) = b := by
 rw [h, <- hb];by_cases h4 : 4 < j + 1
 ·simp [h4]; omega
 ·simp [h4]; omega
theorem ints_any (w : World) (p q g i : Nat) (f : Fa) (body : List Tk) (cv : Nat) (l : List Tk) (high : Nat) (i2 : Int) (hp : WkP w p q i f) (hT : WkT w q g body cv) (hq : q ≠ p) (hg : g ≠ p) (hb : body.length <= 3000) (hl : LAt body i l) (hd : ∀ t, t ∈ l -> Dg t.text) (e2 : i2 = high) :
  Calls Tryz.prog 134 #[.pointer (some ⟨p, 0, none⟩), .int .i64 i2] w (IPost w p q (i + 2 * l.length) (l.map valOf) (refIntsF high 1 f l)) := by
 subst e2;obtain ⟨ii, hi, hz0, hz1, hz2⟩ := info_parts Tryz.infoInt;have HP := hid hp;have HT := hid hT;have HL := hid hl;have HD := hid hd;have HQ : Hid (q ≠ p /\ g ≠ p) := ⟨hq, hg⟩
 have hi3 : i + 2 * l.length < body.length := by
  obtain ⟨t, ht, _⟩ := hl.en;exact (iG.1 ht).1
 have hps := hl.ps;clear hp hT hq hg hl hd;go_enter Tryz.func134, Tryz.ntmps134;go_wp2_with fail
 go_loopg [5, 6] l.length (fun m o kk wr => ∃ j fj acc, j <= l.length /\ m = l.length - j /\ kk = .int .i64 ((j + 1 : Nat) : Int) /\ Hid (acc = (l.take j).map valOf) /\ Hid (wr.ownsRow w.heap.size 3 1 o j (intRow acc)) /\ Hid (WkP wr p q (i + 2 * j) fj) /\ Hid (Fr (fun j => j = p) w wr) /\ Hid (refIntsF high 1 f l = refIntsF high (j + 1) fj (l.drop j)))
 case atStart => exact ⟨0, f, [], Nat.zero_le _, rfl, rfl, rfl, oZ _ _ _ _, HP, Fr.refl _ _, rfl⟩
 case round =>
  obtain ⟨j, fj, acc, hj, rfl, rfl, HAC, HO, HW, HF, HR⟩ := hrel;have HTr := hid (HT.o.fr HF.o HQ.o.1 HQ.o.2);have c1 := HW.o.c1;have fz := HW.o.fz;by_cases hlt : j < l.length
  ·obtain ⟨t, ht⟩ : ∃ t, l[j]? = some t := ⟨_, gE hlt⟩
   have HIT : Hid (body[i + 2 * j + 1]? = some t) := by
    have := HL.o.it j t ht;rw [show i + 1 + 2 * j = i + 2 * j + 1 from by omega] at this;exact this
   have HDT := hid (HD.o t (mG ht));have HDR := hid (drop_of ht)
   have HTK : Hid ((l.take (j + 1)).map valOf = (l.take j).map valOf ++ [valOf t]) := by
    show _ = _
    rw [List.take_add_one, ht, List.map_append];rfl
   clear ht;obtain ⟨x, hx⟩ : ∃ x, x = i + 2 * j := ⟨_, rfl⟩;obtain ⟨kk, hkk⟩ : ∃ kk : Int, kk = ((j + 1 : Nat) : Int) := ⟨_, rfl⟩;rw [<- hkk];rw [<- hx] at c1 HW HIT
   have hxb : x + 2 <= 3000 := by omega
   have HXE := hid hx;have HKK := hid hkk;have hwk : IntKind.i64.wrap (kk + 1) = kk + 1 := IntWalk.i64_in _ (by omega)
   have HPL : Hid (∀ k, k = p -> k < w.heap.size) := fun k e => by rw [e]; exact bL w _ HP.o.c0
   by_cases hj0 : j = 0
   ·have hk1 : (kk == 1) = true := by simp; omega
    have HB4 : Hid (decide (4 < j + 1) = false) := by show _ = _; simp; omega
    have HW1 := hid HW;have HT1 := hid HTr;have HF1 := hid HF;have HO1 := HO;clear hj0 hx hkk;have hd4 : decide ((4 : Int) < kk) = false := d4_of HKK.o HB4.o;go_wp2_with fail;have hm := HW1.o.move (x + 1);rw [Int.natCast_add] at hm;refine (fault_any _ p q g (x + 1) fj body cv t false 6 _ hm.1 (HT1.o.fr hm.2 HQ.o.1 HQ.o.2) HQ.o.1 HQ.o.2 HIT.o (by decide) (by rfl)).mono ?_;rintro e w3 ⟨rfl, hP3, hF3⟩;have HP3 := hid hP3;have HF3 := hid ((HF1.o.trans hm.2).trans hF3);have HO3 := hid (oF HO1.o (hm.2.trans hF3) HPL.o);clear hP3 hF3 hm;go_wp2_with fail;refine (up_any w3 p q g (x + 1) _ body cv t high _ _ HP3.o (HT.o.fr HF3.o HQ.o.1 HQ.o.2) HQ.o.1 HQ.o.2 HIT.o HDT.o (by omega) (by rfl) (by rfl)).mono ?_;rintro e w4 ⟨rfl, hP4, hF4⟩;have HP4 := hid hP4;have HF4 := hid (HF3.o.trans hF4);have hs4 := HF4.o.size;have HO4 := hid (oF HO3.o hF4 HPL.o);clear hP4 hF4;obtain ⟨n, hnv⟩ : ∃ n, n = valOf t := ⟨_, rfl⟩;rw [<- hnv] at HP4 HTK ⊢;have HNV := hid hnv.symm;clear hnv
    go_wp2_with (at_builtin; refine wpList_append_lies _ rfl (.tmp 31) (.tmp 33) 25 rfl w.heap.size 3 ii _ 1 8 Tryz.underlying25 hi hz0 hz1 hz2 rfl (by decide) u5 j (intRow acc) rfl ?h1 ⟨w4.heap.size, 0, none⟩ 1 1 [.int .i64 n] rfl rfl ?h2 ?h3 (by decide) ?h4 ?h5 ?h6 _ rfl ?h7)
    case h1 => exact HO4.o.alloc _
    case h2 => exact World.news_of_block (aN w4 _)
    case h3 => simp [Value.oneCell']
    case h4 => unfold maxLen; omega
    case h5 => omega
    case h6 => first | omega | (simp; omega)
    case h7 =>
     intro g2 cap2 w5 hown hgrow _ _
     have hrow : ∀ k, u5.ownBlock = some k -> w.heap.size <= k := fun k hk => (HO4.o.lt k hk).1
     have HO5 := hid hown;have HF5 := hid ((HF4.o.alloc _).grown hgrow (fun k hk => Or.inr (hrow k hk)));have HP5 := hid (HP4.o.fr (((Fr.refl (fun k => u5.ownBlock = some k) w4).alloc _).grown hgrow (fun k hk => Or.inl hk)) (fun hk => by have := hrow p hk; have := HPL.o p rfl; omega));clear hgrow hown hrow;go_wp2;go_roundg (l.length - (j + 1))
     case measure => omega
     case rel =>
      refine ⟨j + 1, noteM (noteM fj false 6 t.line) (decide (high < n)) 5 t.line, acc ++ [n], by omega, rfl, by rw [HKK.o]; go_num, ?_, ?_, ?_, HF5, ?_⟩
      ·show _ = _
       rw [HAC.o, HTK.o]
      ·show World.ownsRow _ _ _ _ _ _ _
       rw [intRow_snoc];exact HO5.o
      ·show WkP _ _ _ _ _
       have e : i + 2 * (j + 1) = x + 1 + 1 := by have := HXE.o; omega
       rw [e];exact HP5.o
      ·show _ = _
       rw [HR.o, HDR.o];simp only [refIntsF];rw [HB4.o, HNV.o]
   ·have hk1 : (kk == 1) = false := by simp; omega
    obtain ⟨tc, htc, hcm⟩ := HL.o.cm j (by omega) hlt;rw [<- hx] at htc;have HC := hid htc;clear htc hj0;by_cases h4 : 4 < j + 1
    ·have HB4 : Hid (decide (4 < j + 1) = true) := by show _ = _; simp; omega
     clear h4 hx hkk;clear c1 fz;go_wp2_with fail;refine (at_any wr p q g x fj body cv tc HW.o HTr.o HC.o).mono ?_;rintro e w1 ⟨rfl, hf⟩;have HF1 := hid (HF.o.trans (hf.mono (by simp)));have HW1 := hid (HW.o.fr hf (by simp));have HT1 := hid (HTr.o.fr hf (by simp) (by simp));have HO1 := hid (oF HO.o hf (by simp));clear hf;have c1 := HW1.o.c1;have fz := HW1.o.fz;have hd4 : decide ((4 : Int) < kk) = true := d4_of HKK.o HB4.o;go_wp2_with fail;have hm := HW1.o.move (x + 1);rw [Int.natCast_add] at hm;refine (fault_any _ p q g (x + 1) fj body cv t true 6 _ hm.1 (HT1.o.fr hm.2 HQ.o.1 HQ.o.2) HQ.o.1 HQ.o.2 HIT.o (by decide) (by rfl)).mono ?_;rintro e w3 ⟨rfl, hP3, hF3⟩;have HP3 := hid hP3;have HF3 := hid ((HF1.o.trans hm.2).trans hF3);have HO3 := hid (oF HO1.o (hm.2.trans hF3) HPL.o);clear hP3 hF3 hm;go_wp2_with fail;refine (up_any w3 p q g (x + 1) _ body cv t high _ _ HP3.o (HT.o.fr HF3.o HQ.o.1 HQ.o.2) HQ.o.1 HQ.o.2 HIT.o HDT.o (by omega) (by rfl) (by rfl)).mono ?_;rintro e w4 ⟨rfl, hP4, hF4⟩;have HP4 := hid hP4;have HF4 := hid (HF3.o.trans hF4);have hs4 := HF4.o.size;have HO4 := hid (oF HO3.o hF4 HPL.o);clear hP4 hF4;obtain ⟨n, hnv⟩ : ∃ n, n = valOf t := ⟨_, rfl⟩;rw [<- hnv] at HP4 HTK ⊢;have HNV := hid hnv.symm;clear hnv
     go_wp2_with (at_builtin; refine wpList_append_lies _ rfl (.tmp 31) (.tmp 33) 25 rfl w.heap.size 3 ii _ 1 8 Tryz.underlying25 hi hz0 hz1 hz2 rfl (by decide) u5 j (intRow acc) rfl ?h1 ⟨w4.heap.size, 0, none⟩ 1 1 [.int .i64 n] rfl rfl ?h2 ?h3 (by decide) ?h4 ?h5 ?h6 _ rfl ?h7)
     case h1 => exact HO4.o.alloc _
     case h2 => exact World.news_of_block (aN w4 _)
     case h3 => simp [Value.oneCell']
     case h4 => unfold maxLen; omega
     case h5 => omega
     case h6 => first | omega | (simp; omega)
     case h7 =>
      intro g2 cap2 w5 hown hgrow _ _
      have hrow : ∀ k, u5.ownBlock = some k -> w.heap.size <= k := fun k hk => (HO4.o.lt k hk).1
      have HO5 := hid hown;have HF5 := hid ((HF4.o.alloc _).grown hgrow (fun k hk => Or.inr (hrow k hk)));have HP5 := hid (HP4.o.fr (((Fr.refl (fun k => u5.ownBlock = some k) w4).alloc _).grown hgrow (fun k hk => Or.inl hk)) (fun hk => by have := hrow p hk; have := HPL.o p rfl; omega));clear hgrow hown hrow;go_wp2;go_roundg (l.length - (j + 1))
      case measure => omega
      case rel =>
       refine ⟨j + 1, noteM (noteM fj true 6 t.line) (decide (high < n)) 5 t.line, acc ++ [n], by omega, rfl, by rw [HKK.o]; go_num, ?_, ?_, ?_, HF5, ?_⟩
       ·show _ = _
        rw [HAC.o, HTK.o]
       ·show World.ownsRow _ _ _ _ _ _ _
        rw [intRow_snoc];exact HO5.o
       ·show WkP _ _ _ _ _
        have e : i + 2 * (j + 1) = x + 1 + 1 := by have := HXE.o; omega
        rw [e];exact HP5.o
       ·show _ = _
        rw [HR.o, HDR.o];simp only [refIntsF];rw [HB4.o, HNV.o]
    ·have HB4 : Hid (decide (4 < j + 1) = false) := by show _ = _; simp; omega
     clear h4 hx hkk;clear c1 fz;go_wp2_with fail;refine (at_any wr p q g x fj body cv tc HW.o HTr.o HC.o).mono ?_;rintro e w1 ⟨rfl, hf⟩;have HF1 := hid (HF.o.trans (hf.mono (by simp)));have HW1 := hid (HW.o.fr hf (by simp));have HT1 := hid (HTr.o.fr hf (by simp) (by simp));have HO1 := hid (oF HO.o hf (by simp));clear hf;have c1 := HW1.o.c1;have fz := HW1.o.fz;have hd4 : decide ((4 : Int) < kk) = false := d4_of HKK.o HB4.o;go_wp2_with fail;have hm := HW1.o.move (x + 1);rw [Int.natCast_add] at hm;refine (fault_any _ p q g (x + 1) fj body cv t false 6 _ hm.1 (HT1.o.fr hm.2 HQ.o.1 HQ.o.2) HQ.o.1 HQ.o.2 HIT.o (by decide) (by rfl)).mono ?_;rintro e w3 ⟨rfl, hP3, hF3⟩;have HP3 := hid hP3;have HF3 := hid ((HF1.o.trans hm.2).trans hF3);have HO3 := hid (oF HO1.o (hm.2.trans hF3) HPL.o);clear hP3 hF3 hm;go_wp2_with fail;refine (up_any w3 p q g (x + 1) _ body cv t high _ _ HP3.o (HT.o.fr HF3.o HQ.o.1 HQ.o.2) HQ.o.1 HQ.o.2 HIT.o HDT.o (by omega) (by rfl) (by rfl)).mono ?_;rintro e w4 ⟨rfl, hP4, hF4⟩;have HP4 := hid hP4;have HF4 := hid (HF3.o.trans hF4);have hs4 := HF4.o.size;have HO4 := hid (oF HO3.o hF4 HPL.o);clear hP4 hF4;obtain ⟨n, hnv⟩ : ∃ n, n = valOf t := ⟨_, rfl⟩;rw [<- hnv] at HP4 HTK ⊢;have HNV := hid hnv.symm;clear hnv
     go_wp2_with (at_builtin; refine wpList_append_lies _ rfl (.tmp 31) (.tmp 33) 25 rfl w.heap.size 3 ii _ 1 8 Tryz.underlying25 hi hz0 hz1 hz2 rfl (by decide) u5 j (intRow acc) rfl ?h1 ⟨w4.heap.size, 0, none⟩ 1 1 [.int .i64 n] rfl rfl ?h2 ?h3 (by decide) ?h4 ?h5 ?h6 _ rfl ?h7)
     case h1 => exact HO4.o.alloc _
     case h2 => exact World.news_of_block (aN w4 _)
     case h3 => simp [Value.oneCell']
     case h4 => unfold maxLen; omega
     case h5 => omega
     case h6 => first | omega | (simp; omega)
     case h7 =>
      intro g2 cap2 w5 hown hgrow _ _
      have hrow : ∀ k, u5.ownBlock = some k -> w.heap.size <= k := fun k hk => (HO4.o.lt k hk).1
      have HO5 := hid hown;have HF5 := hid ((HF4.o.alloc _).grown hgrow (fun k hk => Or.inr (hrow k hk)));have HP5 := hid (HP4.o.fr (((Fr.refl (fun k => u5.ownBlock = some k) w4).alloc _).grown hgrow (fun k hk => Or.inl hk)) (fun hk => by have := hrow p hk; have := HPL.o p rfl; omega));clear hgrow hown hrow;go_wp2;go_roundg (l.length - (j + 1))
      case measure => omega
      case rel =>
       refine ⟨j + 1, noteM (noteM fj false 6 t.line) (decide (high < n)) 5 t.line, acc ++ [n], by omega, rfl, by rw [HKK.o]; go_num, ?_, ?_, ?_, HF5, ?_⟩
       ·show _ = _
        rw [HAC.o, HTK.o]
       ·show World.ownsRow _ _ _ _ _ _ _
        rw [intRow_snoc];exact HO5.o
       ·show WkP _ _ _ _ _
        have e : i + 2 * (j + 1) = x + 1 + 1 := by have := HXE.o; omega
        rw [e];exact HP5.o
       ·show _ = _
        rw [HR.o, HDR.o];simp only [refIntsF];rw [HB4.o, HNV.o]
  ·obtain ⟨te, hte, hcm⟩ := HL.o.en
   have ej : j = l.length := by omega
   rw [<- ej] at hte
   have hk1 : ((((j + 1 : Nat) : Int)) == 1) = false := by simp; omega
   have HC := hid hte;clear hte;obtain ⟨x, hx⟩ : ∃ x, x = i + 2 * j := ⟨_, rfl⟩;obtain ⟨kk, hkk⟩ : ∃ kk : Int, kk = ((j + 1 : Nat) : Int) := ⟨_, rfl⟩;rw [<- hkk] at hk1 ⊢;rw [<- hx] at HC HW;have HXE := hid hx;clear c1 fz hx hkk;go_wp2_with fail;refine (at_any wr p q g x fj body cv te HW.o HTr.o HC.o).mono ?_;rintro e w1 ⟨rfl, hf⟩;have HF1 := hid (HF.o.trans (hf.mono (by simp)));have HW1 := hid (HW.o.fr hf (by simp));have HO1 := hid (oF HO.o hf (by simp));clear hf;go_wp2;go_ret;refine ⟨⟨_, rfl, ?_⟩, ?_, HF1.o⟩
   ·have e := HO1.o
    rw [HAC.o, List.take_of_length_le (by omega)] at e;rw [List.length_map, <- ej];exact e
   ·have e := HW1.o
    have e2 : fj = refIntsF high 1 f l := by rw [HR.o, dL (by omega)]; rfl
    rw [<- e2, <- ej, <- HXE.o];exact e
