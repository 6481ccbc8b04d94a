/- Regions: Dead. A table, its book, and which of its rules are dead. Dead rules, plainly: without them all is decided the same, and none is dead. -/
import Derived.Test.YtccikgogjfbpeaaGreatDoorYHa
import Derived.Test.YtccikgogjfbpeaaGreatDoorYMj
import Derived.Test.YtccikgogjfbpeaaGreatDoorYKb
import Derived.Test.YtccikgogjfbpeaaGreatDoorYKh
namespace Go.Proofs.YtccikgogjfbpeaaGreatDoor
open Go.RowKit
end Go.Proofs.YtccikgogjfbpeaaGreatDoor

namespace Go.Proofs.YtccikgogjfbpeaaGreatDoor
open Go.RowKit
def TqAt (w : World) (T : Nat) (rts : List RouteM) (R : List RuleM) : Prop := TbAt w T rts R ∧ (∃ Bb vr vl xs, w.cell? ⟨T, 0, none⟩ = some (.pointer (some ⟨Bb, 0, none⟩)) ∧ Bk w Bb vr vl rts R xs) ∧ BookOk rts R ∧ ∀ r, r ∈ R → ArOk r
theorem TqAt.fr {w w' : World} {T : Nat} {rts : List RouteM} {R : List RuleM} (h : TqAt w T rts R) (hf : Fr (fun _ => False) w w') : TqAt w' T rts R := by
 obtain ⟨h0, ⟨Bb, vr, vl, xs, h1, h2⟩, h3⟩ := h
 exact ⟨h0.fr hf, ⟨Bb, vr, vl, xs, (hf.cell (p := ⟨T, 0, none⟩) (World.block_lt_of_cell? w _ h1) (by simp)).trans h1, h2.fr hf (by simp)⟩, h3⟩
set_option maxRecDepth 30000 in
set_option maxHeartbeats 1000000 in
theorem ktq_any (s : ByteArray) (w : World) (p : List RouteM × List RuleM) (hR : readM s = .ok p) :
  Calls Tryz.prog 16 #[.string s] w fun e w' => (∃ T, e = .returned (.pointer (some ⟨T, 0, none⟩)) ∧ TqAt w' T p.1 p.2) ∧ Fr (fun _ => False) w w' := by
 have HC := hid (Compile_any s w)
 have HR := hid hR
 clear hR
 go_enter Tryz.func16, Tryz.ntmps16
 go_wp2_with fail
 refine HC.out.mono ?_
 rintro e w1 hP
 obtain ⟨⟨T, B, TT, vr, vl, xs, rfl, hT, hT0, hT1, hB, hk, htr⟩, hbl⟩ := (CPost.ok HR.out).1 hP
 have HF : Hid (Fr (fun _ => False) w w1) := Fr.of_below hbl
 have HT : Hid (TqAt w1 T p.1 p.2) := by
  refine ⟨?_, ⟨B, vr, vl, xs, hT0, hk⟩, readM_book HR.out, readM_ar HR.out⟩
  obtain ⟨ra, rc, e⟩ := ownsRow_len hk.ro
  subst e
  exact ⟨_, TT, ra, rc, hT1, htr, ownsRow_base hk.ro (Nat.zero_le _), readM_book HR.out⟩
 clear hP hT hT0 hT1 hB hk htr hbl HC
 go_wp2_with fail
 go_ret
 exact ⟨⟨T, rfl, HT.out⟩, HF.out⟩
end Go.Proofs.YtccikgogjfbpeaaGreatDoor

namespace Go.Proofs.YtccikgogjfbpeaaGreatDoor
theorem card_in (d lo hi n : Nat) : inSp (cardsM d lo hi) n = (decide (lo ≤ n / 10 ^ (6 - d)) && decide (n / 10 ^ (6 - d) ≤ hi)) := by
 have hq : 0 < 10 ^ (6 - d) := Nat.pow_pos (by decide)
 unfold inSp cardsM
 dsimp only
 have h1 : (lo * 10 ^ (6 - d) ≤ n) ↔ (lo ≤ n / 10 ^ (6 - d)) := (Nat.le_div_iff_mul_le hq).symm
 have h2 : (n ≤ (hi + 1) * 10 ^ (6 - d) - 1) ↔ (n / 10 ^ (6 - d) ≤ hi) := by
  have e : n / 10 ^ (6 - d) < hi + 1 ↔ n < (hi + 1) * 10 ^ (6 - d) := Nat.div_lt_iff_lt_mul hq
  have : 0 < (hi + 1) * 10 ^ (6 - d) := Nat.mul_pos (by omega) hq
  omega
 congr 1
 ·exact decide_eq_decide.2 h1
 ·exact decide_eq_decide.2 h2
theorem list_in {l : List Nat} {m : Nat} {v : Int} (h0 : 0 ≤ v) (hm : v ≤ m) : ((listM2 l m).any fun s => inSp s v.toNat) = (decide (l = []) || inL l v) := by
 unfold listM2 inL
 split
 ·rename_i e
  subst e
  simp [inSp]
  omega
 ·rename_i e
  have : decide (l = []) = false := by simp [e]
  rw [this, Bool.false_or, List.any_map]
  congr 1
  funext x
  unfold inSp
  dsimp only [Function.comp]
  rw [Bool.eq_iff_iff]
  simp
  omega
theorem meet_all (r : RuleM) (p : PayM) (c : Nat) (hp : payOk p = true) : allB (arR r) 4 ⟨c, p.mcc.toNat, p.am.toNat, p.cur.toNat⟩ = meet1 r p c := by
 unfold payOk at hp
 simp only [Bool.and_eq_true, decide_eq_true_eq] at hp
 obtain ⟨⟨_, h1, h2⟩, ⟨h3, h4⟩, h5, h6⟩ := hp
 have a0 : hasM (arR r) 0 c = (decide (r.lo ≤ c / 10 ^ (6 - r.digits)) && decide (c / 10 ^ (6 - r.digits) ≤ r.hi)) := by
  show ([cardsM r.digits r.lo r.hi].any fun s => inSp s c) = _
  rw [List.any_cons, card_in]
  simp
 have a1 : hasM (arR r) 1 p.mcc.toNat = (decide (r.mcc = []) || inL r.mcc p.mcc) := list_in h1 h2
 have a3 : hasM (arR r) 3 p.cur.toNat = (decide (r.cur = []) || inL r.cur p.cur) := list_in h5 h6
 have a2 : hasM (arR r) 2 p.am.toNat = amOk r p := by
  show ([if r.am.isSome = true then ((r.am.getD (0, 0)).1, (r.am.getD (0, 0)).2) else (0, 1000000000)].any fun s => inSp s p.am.toNat) = _
  unfold amOk inSp
  cases r.am with
  | none => simp; omega
  | some ab =>
   simp only [Option.isSome_some, if_true, Option.getD_some, List.any_cons, List.any_nil, Bool.or_false]
   congr 1 <;> exact decide_eq_decide.2 (by omega)
 show (hasM (arR r) 0 c && (hasM (arR r) 1 p.mcc.toNat && (hasM (arR r) 2 p.am.toNat && (hasM (arR r) 3 p.cur.toNat && true)))) = _
 rw [a0, a1, a2, a3]
 unfold meet1 meetG
 simp only [Bool.and_true, Bool.and_assoc]
end Go.Proofs.YtccikgogjfbpeaaGreatDoor
