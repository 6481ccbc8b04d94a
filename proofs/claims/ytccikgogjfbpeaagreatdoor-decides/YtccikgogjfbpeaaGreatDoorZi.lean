import Derived.Test.YtccikgogjfbpeaaGreatDoorZe
import Derived.Test.YtccikgogjfbpeaaGreatDoorZh
import Derived.Test.YtccikgogjfbpeaaGreatDoorGi
namespace Go.Proofs.YtccikgogjfbpeaaGreatDoor
set_option maxRecDepth 30000
set_option maxHeartbeats 8000000
open Go.RowKit
def pickM (c : Int) (n : Nat) : Nat := ((if c < 0 then -(c + 1) else c) % (n : Int)).toNat
theorem pickM_lt (c : Int) (n : Nat) (h : 0 < n) : pickM c n < n := by
 unfold pickM;have h1 := Int.emod_nonneg (if c < 0 then -(c + 1) else c) (b := (n : Int)) (by omega);have h2 := Int.emod_lt_of_pos (if c < 0 then -(c + 1) else c) (b := (n : Int)) (by omega);omega
theorem pick_any (c : Int) (n : Nat) (w : World) (h1 : -9223372036854775808 <= c) (h2 : c <= 9223372036854775807) (h0 : 0 < n) (hn : n <= 1000000) :
  Calls Tryz.prog 44 #[.int .i64 c, .int .i64 n] w fun e w' => e = .returned (.int .i64 (pickM c n)) /\ w' = w := by
 have hi0 : (0 : Int) < (n : Int) := by omega
 have hin : (n : Int) <= 1000000 := by omega
 have hne : ((n : Int) == 0) = false := by simp; omega
 by_cases hc : c < 0
 ·have HM : Hid ((pickM c n : Int) = (-(c + 1)) % (n : Int)) := by
   show _ = _
   unfold pickM;rw [if_pos hc, Int.toNat_of_nonneg (Int.emod_nonneg _ (by omega))]
  clear h0 hn;go_enter Tryz.func44, Tryz.ntmps44;go_wp2;go_ret;exact ⟨ret_int (by rw [HM.o, <- Int.neg_tmod, Int.tmod_eq_emod_of_nonneg (by omega)]), rfl⟩
 ·have HM : Hid ((pickM c n : Int) = c % (n : Int)) := by
   show _ = _
   unfold pickM;rw [if_neg hc, Int.toNat_of_nonneg (Int.emod_nonneg _ (by omega))]
  have hc' : 0 <= c := by omega
  clear h0 hn;go_enter Tryz.func44, Tryz.ntmps44;go_wp2;go_ret;exact ⟨ret_int (by rw [HM.o]), rfl⟩
theorem TText_any (w : World) (T Bb : Nat) (vr vl : Value) (rts : List RouteM) (rls : List RuleM) (xs : List Value) (hT : w.cell? ⟨T, 0, none⟩ = some (.pointer (some ⟨Bb, 0, none⟩))) (hk : Bk w Bb vr vl rts rls xs) (ho : BookOk rts rls) (ht : Tab w) :
  Calls Tryz.prog 17 #[.pointer (some ⟨T, 0, none⟩)] w fun e w' => e = .returned (.string (strB (bookJ rts rls))) /\ F0 w w' := by
 have HC := hid (Plain_any w Bb vr vl rts rls xs hk ho ht);clear hk ho ht;go_enter Tryz.func17, Tryz.ntmps17;go_wp2_with fail;refine HC.o.mono ?_;rintro e w1 ⟨rfl, hf⟩;have HF := hid hf;clear hf hT;go_wp2;go_ret;exact ⟨rfl, HF.o⟩
theorem RulesAt.frS {w w' : World} {B q : Nat} {body : List Tk} {rts : List RouteM} {rls : List RuleM} {S : Nat -> Prop} (h : RulesAt w B q body rts rls) (hf : Fr S w w') (hS : ∀ k, S k -> k < B) : RulesAt w' B q body rts rls := by
 obtain ⟨⟨a, c, h1, h2⟩, hq, hb, ht, B2, vr, vl, xs, r0, r1, r2, r3, r4, r5⟩ := h
 have hn : ∀ k, B <= k -> ¬ S k := fun k hk hs => by have := hS k hs; omega
 have h2S : ∀ k, S k -> k < B2 := fun k hk => nL (hS k hk) r0
 refine ⟨⟨a, c, (hf.cell (p := ⟨q, 0, none⟩) hq.2 (hn q hq.1)).trans h1, fun h0 => ?_⟩, ⟨hq.1, nL hq.2 hf.size⟩, hb, ht, B2, vr, vl, xs, r0, (hf.cell (p := ⟨q, 1, none⟩) hq.2 (hn q hq.1)).trans r1, (hf.cell (p := ⟨q, 2, none⟩) hq.2 (hn q hq.1)).trans r2, oF r3 hf h2S, oF r4 hf h2S, RrVs.keep (fun v n ys hv => oF hv hf h2S) r5⟩;obtain ⟨g, e, h3, h4, h5⟩ := h2 h0;exact ⟨g, e, h3, nL h4 hf.size, h5.fr hf h4 (hn g h3)⟩
theorem RulesAt.less {w : World} {B B' q : Nat} {body : List Tk} {rts : List RouteM} {rls : List RuleM} (h : RulesAt w B q body rts rls) (hB : B' <= B) : RulesAt w B' q body rts rls := by
 obtain ⟨⟨a, c, h1, h2⟩, hq, hb, ht, B2, vr, vl, xs, r0, r1, r2, r3, r4, r5⟩ := h;refine ⟨⟨a, c, h1, fun h0 => ?_⟩, ⟨Nat.le_trans hB hq.1, hq.2⟩, hb, ht, B2, vr, vl, xs, Nat.le_trans hB r0, r1, r2, r3, r4, r5⟩;obtain ⟨g, e, h3, h4, h5⟩ := h2 h0;exact ⟨g, e, Nat.le_trans hB h3, h4, h5⟩
def TabAt (w : World) (a X : Nat) : Prop :=
 ∃ T q Bb TT vr vl rts rls xs body, a <= X /\ w.heap[X]? = some (.cells #[.pointer (some ⟨T, 0, none⟩), .pointer (some ⟨q, 0, none⟩), .bool false, .bool false, .slice none 0 0, .slice none 0 0] 97) /\
  a <= T /\ w.cell? ⟨T, 0, none⟩ = some (.pointer (some ⟨Bb, 0, none⟩)) /\ w.cell? ⟨T, 1, none⟩ = some (.pointer (some ⟨TT, 0, none⟩)) /\ a <= Bb /\ Bk w Bb vr vl rts rls xs /\ TreeAt a w TT vr rls (stageF (rankF rls) rls.length) /\ BookOk rts rls /\ RulesAt w a q body rts rls
theorem TabAt.fr {w w' : World} {a X : Nat} {S : Nat -> Prop} (h : TabAt w a X) (hf : Fr S w w') (hS : ∀ k, S k -> k < a) : TabAt w' a X := by
 obtain ⟨T, q, Bb, TT, vr, vl, rts, rls, xs, body, h1, h2, h3, h4, k4, h5, h6, k6, h7, h8⟩ := h
 have hn : ∀ k, a <= k -> ¬ S k := fun k hk hs => by have := hS k hs; omega
 exact ⟨T, q, Bb, TT, vr, vl, rts, rls, xs, body, h1, hf.whole h2 (hn X h1), h3, (hf.cell (p := ⟨T, 0, none⟩) (bL w _ h4) (hn T h3)).trans h4, (hf.cell (p := ⟨T, 1, none⟩) (bL w _ k4) (hn T h3)).trans k4, h5, h6.fr hf (fun k hk => nL (hS k hk) h5), k6.fr hf hS, h7, h8.frS hf hS⟩
theorem Tryz.infoPltable : (Tryz.prog.info? 93).map (fun i => (i.zero, i.size, i.bytes)) = some (some (.pointer none), 1, 8) := by kernel_rfl
def opV (k on : Int) (s pan : ByteArray) (mcc am cur : Int) (da : Option Addr) (dn dc : Nat) (up : Bool) : Value :=
 .agg #[.int .i64 k, .int .i64 on, .string s, .string pan, .int .i64 mcc, .int .i64 am, .int .i64 cur, .slice da dn dc, .bool up]
def opCells (k on : Int) (s pan : ByteArray) (mcc am cur : Int) (da : Option Addr) (dn dc : Nat) (up : Bool) : Obj :=
 .cells #[.int .i64 k, .int .i64 on, .string s, .string pan, .int .i64 mcc, .int .i64 am, .int .i64 cur, .slice da dn dc, .bool up] 62
