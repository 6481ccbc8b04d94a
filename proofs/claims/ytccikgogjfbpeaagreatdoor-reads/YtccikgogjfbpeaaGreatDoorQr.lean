/- The reference: Form. -/
import Derived.Test.YtccikgogjfbpeaaGreatDoorQp
import Derived.Test.YtccikgogjfbpeaaGreatDoorQi
import Derived.Maps.AppendAt
import Derived.Deep.RegionWith
namespace Go.Proofs.YtccikgogjfbpeaaGreatDoor
open Go.RowKit

theorem addr_add (g o k : Nat) : (⟨g, o, none⟩ : Addr).add k = ⟨g, o + k, none⟩ := by unfold Addr.add; split <;> simp_all
/-- How high a symbol may grow a stack. -/
def pot : Sym → Nat
 | .rules => 15
 | .amounts => 4
 | .mccs | .curs | .ints | .names | .action => 3
 | _ => 1
def Low : List Sym → Prop
 | [] => True
 | y :: r => pot y + r.length ≤ 15 ∧ (∀ m, y = .lit m → m ∈ lits) ∧ Low r
theorem low_cons {y : Sym} {r : List Sym} (hp : pot y + r.length ≤ 15) (hy : ∀ m, y = .lit m → m ∈ lits) (hr : Low r) : Low (y :: r) := ⟨hp, hy, hr⟩
theorem low_exp {y : Sym} {r l : List Sym} {t : Tk} (h : Low (y :: r)) (hb : becomesM y t = some l) : Low (l ++ r) := by
 obtain ⟨h1, h2, h3⟩ := h
 cases y <;> simp only [becomesM] at hb
 all_goals first | (injection hb with hb) | (cases hb; done)
 all_goals subst hb
 all_goals repeat' split
 all_goals simp only [routeSyms, ruleSyms, List.cons_append, List.nil_append]
 all_goals simp only [pot] at h1
 all_goals repeat' (apply low_cons)
 all_goals first | exact h3 | (simp only [pot, List.length_cons]; omega) | (intro m e; cases e; done) | (intro m e; cases e; simp [lits])
theorem low_len {st : List Sym} (h : Low st) : st.length ≤ 15 := by
 cases st with
 | nil => simp
 | cons y r =>
  have h1 := h.1
  have : 1 ≤ pot y := by cases y <;> simp [pot]
  simp
  omega
theorem rtkRow_get : ∀ (ts : List Tk) (j : Nat) (t : Tk), ts[j]? = some t → (rtkRow ts)[j * 3]? = some (.string t.text) ∧ (rtkRow ts)[j * 3 + 1]? = some (.int .u8 (rkind t)) ∧ (rtkRow ts)[j * 3 + 2]? = some (.int .i64 t.line)
 | [], j, t, h => by simp at h
 | x :: r, 0, t, h => by simp at h; subst h; exact ⟨rfl, rfl, rfl⟩
 | x :: r, j + 1, t, h => by
  have := rtkRow_get r j t (by simpa using h)
  have e : rtkRow (x :: r) = rtkCells x ++ rtkRow r := by simp [rtkRow]
  have l : (rtkCells x).length = 3 := rfl
  rw [e]
  refine ⟨?_, ?_, ?_⟩
  ·rw [List.getElem?_append_right (by omega), l, show (j + 1) * 3 - 3 = j * 3 from by omega]; exact this.1
  ·rw [List.getElem?_append_right (by omega), l, show (j + 1) * 3 + 1 - 3 = j * 3 + 1 from by omega]; exact this.2.1
  ·rw [List.getElem?_append_right (by omega), l, show (j + 1) * 3 + 2 - 3 = j * 3 + 2 from by omega]; exact this.2.2
/-- A row of the reference's tokens, read token by token. -/
def RTk (w : World) (g : Nat) (ts : List Tk) : Prop := ∀ j t, ts[j]? = some t → w.cell? ⟨g, j * 3, none⟩ = some (.string t.text) ∧ w.cell? ⟨g, j * 3 + 1, none⟩ = some (.int .u8 (rkind t)) ∧ w.cell? ⟨g, j * 3 + 2, none⟩ = some (.int .i64 t.line)
theorem RTk.fr {w w' : World} {g : Nat} {ts : List Tk} {S : Nat → Prop} (h : RTk w g ts) (hf : Fr S w w') (hg : g < w.heap.size) (hS : ¬ S g) : RTk w' g ts := fun j t hj =>
 ⟨(hf.cell (p := ⟨g, j * 3, none⟩) hg hS).trans (h j t hj).1, (hf.cell (p := ⟨g, j * 3 + 1, none⟩) hg hS).trans (h j t hj).2.1, (hf.cell (p := ⟨g, j * 3 + 2, none⟩) hg hS).trans (h j t hj).2.2⟩
theorem ownsRow_rtok {w : World} {base : Nat} {v : Value} {ts : List Tk} (h : w.ownsRow base 166 3 v ts.length (rtkRow ts)) :
  ∃ a c, v = .slice a ts.length c ∧ (0 < ts.length → ∃ g, a = some ⟨g, 0, none⟩ ∧ base ≤ g ∧ g < w.heap.size ∧ RTk w g ts) := by
 obtain ⟨a, c, e⟩ := ownsRow_len h
 refine ⟨a, c, e, fun hn => ?_⟩
 obtain ⟨g, cap, e2, hb, hl⟩ := h.form hn
 rw [e] at e2
 injection e2 with e1 _ e3
 subst e1 e3
 subst e
 refine ⟨g, rfl, hb, hl, fun j t hj => ?_⟩
 obtain ⟨a, b, c⟩ := rtkRow_get ts j t hj
 have hadd : ∀ k, (⟨g, 0, none⟩ : Addr).add k = ⟨g, k, none⟩ := fun k => by unfold Addr.add; split <;> simp_all
 have hc := h.cells (g := g) rfl
 exact ⟨by have := hc _ _ a; rwa [hadd] at this, by have := hc _ _ b; rwa [hadd] at this, by have := hc _ _ c; rwa [hadd] at this⟩
/-- The stack in memory. -/
def Wt (w : World) (base : Nat) (v : Value) (st : List Sym) : Prop :=
 ∃ a c, v = .slice a st.length c ∧ st.length ≤ c ∧ (0 < st.length → ∃ g o, a = some ⟨g, o, none⟩ ∧ base ≤ g ∧ g < w.heap.size ∧ ∀ j u, (symRow st)[j]? = some u → w.cell? ⟨g, o + j, none⟩ = some u)
theorem Wt.fr {w w' : World} {base : Nat} {v : Value} {st : List Sym} (h : Wt w base v st) (hf : Fr (fun _ => False) w w') : Wt w' base v st := by
 obtain ⟨a, c, e, hc, h⟩ := h
 refine ⟨a, c, e, hc, fun hp => ?_⟩
 obtain ⟨g, o, ea, hb, hg, hcs⟩ := h hp
 exact ⟨g, o, ea, hb, Nat.lt_of_lt_of_le hg hf.size, fun j u hj => (hf.cell (p := ⟨g, o + j, none⟩) hg (by simp)).trans (hcs j u hj)⟩
theorem Wt.of_row {w : World} {base : Nat} {v : Value} {st : List Sym} (h : w.ownsRow base 9 1 v st.length (symRow st)) : Wt w base v st := by
 rcases h.2 with ⟨rfl, h0⟩ | ⟨g, cap, cur, rfl, _⟩
 ·exact ⟨none, 0, by rw [h0], by omega, fun hp => by omega⟩
 ·refine ⟨_, _, rfl, ?_, fun hp => ?_⟩
  ·rename_i hx
   exact hx.2.2.1
  ·obtain ⟨g', cap', e, hb, hl⟩ := h.form hp
   injection e with e1 e2 e3
   have e4 : g = g' := by injection e1 with e1; injection e1
   subst e4
   have hadd : ∀ k, (⟨g, 0, none⟩ : Addr).add k = ⟨g, k, none⟩ := fun k => by unfold Addr.add; split <;> simp_all
   refine ⟨g, 0, rfl, hb, hl, fun j u hj => ?_⟩
   have := h.cells (g := g) rfl j u hj
   rw [hadd] at this
   rw [Nat.zero_add]
   exact this
theorem Tryz.infoString : (Tryz.prog.info? 9).map (fun i => (i.zero, i.size, i.bytes)) = some (some (.string ByteArray.empty), 1, 16) := by kernel_rfl
def formAns (ts : List Tk) (r : Option Nat) : Int :=
 match r with
 | none => 0
 | some j => if (tkAt ts j).sort = 3 then -1 else ((tkAt ts j).line : Int)
theorem becomes_anyT (y : Sym) (t : Tk) (T : ByteArray) (kd ln : Int) (w : World) (hy : ∀ m, y = .lit m → m ∈ lits) (hL : LitTk t) (hT : T = t.text) :
  Calls Tryz.prog 130 #[.string (symS y), .agg #[.string T, .int .u8 kd, .int .i64 ln]] w (BPost (becomesM y t) w) := by
 subst hT
 exact becomes_any y t kd ln w hy hL
theorem rk110 (t : Tk) : (rkind t == 110) = decide (t.sort = 0) := by
 unfold rkind
 by_cases h0 : t.sort = 0
 ·simp [h0]
 ·by_cases h1 : t.sort = 1
  ·simp [h1]
  ·by_cases h2 : isKwB t.text = true <;> simp [h0, h1, h2]
theorem rk105 (t : Tk) : (rkind t == 105) = decide (t.sort = 1) := by
 unfold rkind
 by_cases h0 : t.sort = 0
 ·simp [h0]
 ·by_cases h1 : t.sort = 1
  ·simp [h1]
  ·by_cases h2 : isKwB t.text = true <;> simp [h0, h1, h2]
theorem rk101 (t : Tk) : (rkind t == 101) = false := by
 unfold rkind
 by_cases h0 : t.sort = 0
 ·simp [h0]
 ·by_cases h1 : t.sort = 1
  ·simp [h1]
  ·by_cases h2 : isKwB t.text = true <;> simp [h0, h1, h2]
theorem head_ne {t : ByteArray} {a : UInt8} {l : List UInt8} (h : bAt t 0 ≠ (a.toNat : Int)) : ((a :: l) == t.toList) = false := by
 rw [Bool.eq_false_iff]
 intro e
 have e2 : a :: l = t.toList := by simpa using e
 rw [ByteArray.toList_eq] at e2
 apply h
 unfold bAt
 rw [← e2]
 rfl
theorem lits_words : ∀ m, m ∈ lits → (m.data.toList == [78, 65, 77, 69]) = false ∧ (m.data.toList == [73, 78, 84]) = false := by decide
theorem lit_flip {t : Tk} (h : LitTk t) {m T : ByteArray} (hm : m ∈ lits) (hT : T = t.text) : (m.toList == T.toList) = isFix t m := by
 rw [h m hm, hT, Bool.eq_iff_iff]
 simp only [beq_iff_eq]
 exact eq_comm
/-- The stack without its first symbol. -/
theorem Wt.pop1 {w : World} {base g o n : Nat} {y : Sym} {rest : List Sym} (hn : (y :: rest).length = n) (hn1 : n ≤ 1) : Wt w base (.slice (some ⟨g, o, none⟩) (n - 1) 0) rest := by
 have e : rest = [] := by
  cases rest with
  | nil => rfl
  | cons a b => simp at hn; omega
 subst e
 exact ⟨_, 0, by simp at hn; subst hn; rfl, by simp, fun h => by simp at h⟩
theorem Wt.pop {w : World} {base g o n c : Nat} {y : Sym} {rest : List Sym} (hn : (y :: rest).length = n) (hc : n ≤ c) (hb : base ≤ g) (hg : g < w.heap.size) (hcs : ∀ j u, (symRow (y :: rest))[j]? = some u → w.cell? ⟨g, o + j, none⟩ = some u) : Wt w base (.slice (some ⟨g, o + 1, none⟩) (n - 1) (c - 1)) rest := by
 have e : n - 1 = rest.length := by simp at hn; omega
 exact ⟨_, c - 1, by rw [e], by omega, fun _ => ⟨g, o + 1, rfl, hb, hg, fun j u hj => by rw [show o + 1 + j = o + (j + 1) from by omega]; exact hcs (j + 1) u (by simpa [symRow] using hj)⟩⟩
end Go.Proofs.YtccikgogjfbpeaaGreatDoor
