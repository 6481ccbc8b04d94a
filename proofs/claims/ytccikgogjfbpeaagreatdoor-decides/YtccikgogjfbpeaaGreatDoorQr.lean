import Derived.Test.YtccikgogjfbpeaaGreatDoorQp
import Derived.Maps.AppendAt
namespace Go.Proofs.YtccikgogjfbpeaaGreatDoor
set_option maxRecDepth 30000
set_option maxHeartbeats 8000000
open Go.RowKit
theorem addr_add (g o k : Nat) : (⟨g, o, none⟩ : Addr).add k = ⟨g, o + k, none⟩ := by unfold Addr.add; split <;> simp_all
def pot : Sym -> Nat
 | .rules => 15
 | .amounts => 4
 | .mccs | .curs | .ints | .names | .action => 3
 | _ => 1
def Low : List Sym -> Prop
 | [] => True
 | y :: r => pot y + r.length <= 15 /\ (∀ m, y = .lit m -> m ∈ lits) /\ Low r
theorem low_cons {y : Sym} {r : List Sym} (hp : pot y + r.length <= 15) (hy : ∀ m, y = .lit m -> m ∈ lits) (hr : Low r) : Low (y :: r) := ⟨hp, hy, hr⟩
theorem low_exp {y : Sym} {r l : List Sym} {t : Tk} (h : Low (y :: r)) (hb : becomesM y t = some l) : Low (l ++ r) := by
 obtain ⟨h1, h2, h3⟩ := h
 cases y <;> simp only [becomesM] at hb
 all_goals first | (injection hb with hb) | (cases hb; done)
 all_goals subst hb
 all_goals repeat' split
 all_goals simp only [routeSyms, ruleSyms, List.cons_append, List.nil_append]
 all_goals simp only [pot] at h1
 all_goals repeat' (apply low_cons)
 all_goals first | exact h3 | (simp only [pot, List.length_cons]; omega) | (intro m e; cases e; done) | (intro m e; cases e; simp [lits])
theorem low_len {st : List Sym} (h : Low st) : st.length <= 15 := by
 cases st with
 | nil => simp
 | cons y r =>
  have h1 := h.1
  have : 1 <= pot y := by cases y <;> simp [pot]
  simp;omega
theorem rtkRow_get : ∀ (ts : List Tk) (j : Nat) (t : Tk), ts[j]? = some t -> (rtkRow ts)[j * 3]? = some (.string t.text) /\ (rtkRow ts)[j * 3 + 1]? = some (.int .u8 (rkind t)) /\ (rtkRow ts)[j * 3 + 2]? = some (.int .i64 t.line)
 | [], j, t, h => by simp at h
 | x :: r, 0, t, h => by simp at h; subst h; exact ⟨rfl, rfl, rfl⟩
 | x :: r, j + 1, t, h => by
  have := rtkRow_get r j t (by simpa using h)
  have e : rtkRow (x :: r) = rtkCells x ++ rtkRow r := by simp [rtkRow]
  have l : (rtkCells x).length = 3 := rfl;rw [e];refine ⟨?_, ?_, ?_⟩
  ·rw [aR (by omega), l, show (j + 1) * 3 - 3 = j * 3 from by omega]; exact this.1
  ·rw [aR (by omega), l, show (j + 1) * 3 + 1 - 3 = j * 3 + 1 from by omega]; exact this.2.1
  ·rw [aR (by omega), l, show (j + 1) * 3 + 2 - 3 = j * 3 + 2 from by omega]; exact this.2.2
def RTk (w : World) (g : Nat) (ts : List Tk) : Prop := ∀ j t, ts[j]? = some t -> w.cell? ⟨g, j * 3, none⟩ = some (.string t.text) /\ w.cell? ⟨g, j * 3 + 1, none⟩ = some (.int .u8 (rkind t)) /\ w.cell? ⟨g, j * 3 + 2, none⟩ = some (.int .i64 t.line)
theorem RTk.fr {w w' : World} {g : Nat} {ts : List Tk} {S : Nat -> Prop} (h : RTk w g ts) (hf : Fr S w w') (hg : g < w.heap.size) (hS : ¬ S g) : RTk w' g ts := fun j t hj =>
 ⟨(hf.cell (p := ⟨g, j * 3, none⟩) hg hS).trans (h j t hj).1, (hf.cell (p := ⟨g, j * 3 + 1, none⟩) hg hS).trans (h j t hj).2.1, (hf.cell (p := ⟨g, j * 3 + 2, none⟩) hg hS).trans (h j t hj).2.2⟩
theorem ownsRow_rtok {w : World} {base : Nat} {v : Value} {ts : List Tk} (h : w.ownsRow base 166 3 v ts.length (rtkRow ts)) :
  ∃ a c, v = .slice a ts.length c /\ (0 < ts.length -> ∃ g, a = some ⟨g, 0, none⟩ /\ base <= g /\ g < w.heap.size /\ RTk w g ts) := by
 obtain ⟨a, c, e⟩ := oL h;refine ⟨a, c, e, fun hn => ?_⟩;obtain ⟨g, cap, e2, hb, hl⟩ := h.form hn;rw [e] at e2;injection e2 with e1 _ e3;subst e1 e3;subst e;refine ⟨g, rfl, hb, hl, fun j t hj => ?_⟩;obtain ⟨a, b, c⟩ := rtkRow_get ts j t hj
 have hadd : ∀ k, (⟨g, 0, none⟩ : Addr).add k = ⟨g, k, none⟩ := fun k => by unfold Addr.add; split <;> simp_all
 have hc := h.cells (g := g) rfl;exact ⟨by have := hc _ _ a; rwa [hadd] at this, by have := hc _ _ b; rwa [hadd] at this, by have := hc _ _ c; rwa [hadd] at this⟩
def Wt (w : World) (base : Nat) (v : Value) (st : List Sym) : Prop :=
 ∃ a c, v = .slice a st.length c /\ st.length <= c /\ (0 < st.length -> ∃ g o, a = some ⟨g, o, none⟩ /\ base <= g /\ g < w.heap.size /\ ∀ j u, (symRow st)[j]? = some u -> w.cell? ⟨g, o + j, none⟩ = some u)
theorem Wt.fr {w w' : World} {base : Nat} {v : Value} {st : List Sym} (h : Wt w base v st) (hf : F0 w w') : Wt w' base v st := by
 obtain ⟨a, c, e, hc, h⟩ := h;refine ⟨a, c, e, hc, fun hp => ?_⟩;obtain ⟨g, o, ea, hb, hg, hcs⟩ := h hp;exact ⟨g, o, ea, hb, nL hg hf.size, fun j u hj => (hf.cell (p := ⟨g, o + j, none⟩) hg (by simp)).trans (hcs j u hj)⟩
theorem Wt.of_row {w : World} {base : Nat} {v : Value} {st : List Sym} (h : w.ownsRow base 9 1 v st.length (symRow st)) : Wt w base v st := by
 rcases h.2 with ⟨rfl, h0⟩ | ⟨g, cap, cur, rfl, _⟩
 ·exact ⟨none, 0, by rw [h0], by omega, fun hp => by omega⟩
 ·refine ⟨_, _, rfl, ?_, fun hp => ?_⟩
  ·rename_i hx
   exact hx.2.2.1
  ·obtain ⟨g', cap', e, hb, hl⟩ := h.form hp
   injection e with e1 e2 e3
   have e4 : g = g' := by injection e1 with e1; injection e1
   subst e4
   have hadd : ∀ k, (⟨g, 0, none⟩ : Addr).add k = ⟨g, k, none⟩ := fun k => by unfold Addr.add; split <;> simp_all
   refine ⟨g, 0, rfl, hb, hl, fun j u hj => ?_⟩;have := h.cells (g := g) rfl j u hj;rw [hadd] at this;rw [Nat.zero_add];exact this
theorem Tryz.infoString : (Tryz.prog.info? 9).map (fun i => (i.zero, i.size, i.bytes)) = some (some (.string ByteArray.empty), 1, 16) := by kernel_rfl
def formAns (ts : List Tk) (r : Option Nat) : Int :=
 match r with
 | none => 0
 | some j => if (tkAt ts j).sort = 3 then -1 else ((tkAt ts j).line : Int)
theorem becomes_anyT (y : Sym) (t : Tk) (T : ByteArray) (kd ln : Int) (w : World) (hy : ∀ m, y = .lit m -> m ∈ lits) (hL : LitTk t) (hT : T = t.text) :
  Calls Tryz.prog 130 #[.string (symS y), .agg #[.string T, .int .u8 kd, .int .i64 ln]] w (BPost (becomesM y t) w) := by
 subst hT;exact becomes_any y t kd ln w hy hL
theorem rk110 (t : Tk) : (rkind t == 110) = decide (t.sort = 0) := by
 unfold rkind;by_cases h0 : t.sort = 0
 ·simp [h0]
 ·by_cases h1 : t.sort = 1
  ·simp [h1]
  ·by_cases h2 : isKwB t.text = true <;> simp [h0, h1, h2]
theorem rk105 (t : Tk) : (rkind t == 105) = decide (t.sort = 1) := by
 unfold rkind;by_cases h0 : t.sort = 0
 ·simp [h0]
 ·by_cases h1 : t.sort = 1
  ·simp [h1]
  ·by_cases h2 : isKwB t.text = true <;> simp [h0, h1, h2]
theorem rk101 (t : Tk) : (rkind t == 101) = false := by
 unfold rkind;by_cases h0 : t.sort = 0
 ·simp [h0]
 ·by_cases h1 : t.sort = 1
  ·simp [h1]
  ·by_cases h2 : isKwB t.text = true <;> simp [h0, h1, h2]
theorem head_ne {t : ByteArray} {a : UInt8} {l : List UInt8} (h : bAt t 0 ≠ (a.toNat : Int)) : ((a :: l) == t.toList) = false := by
 rw [Bool.eq_false_iff];intro e
 have e2 : a :: l = t.toList := by simpa using e
 rw [ByteArray.toList_eq] at e2;apply h;unfold bAt;rw [<- e2];rfl
theorem lits_words : ∀ m, m ∈ lits -> (m.data.toList == [78, 65, 77, 69]) = false /\ (m.data.toList == [73, 78, 84]) = false := by decide
theorem lit_flip {t : Tk} (h : LitTk t) {m T : ByteArray} (hm : m ∈ lits) (hT : T = t.text) : (m.toList == T.toList) = isFix t m := by
 rw [h m hm, hT, Bool.eq_iff_iff];simp only [beq_iff_eq];exact eq_comm
theorem Wt.pop1 {w : World} {base g o n : Nat} {y : Sym} {rest : List Sym} (hn : (y :: rest).length = n) (hn1 : n <= 1) : Wt w base (.slice (some ⟨g, o, none⟩) (n - 1) 0) rest := by
 have e : rest = [] := by
  cases rest with
  | nil => rfl
  | cons a b => simp at hn; omega
 subst e;exact ⟨_, 0, by simp at hn; subst hn; rfl, by simp, fun h => by simp at h⟩
theorem Wt.pop {w : World} {base g o n c : Nat} {y : Sym} {rest : List Sym} (hn : (y :: rest).length = n) (hc : n <= c) (hb : base <= g) (hg : g < w.heap.size) (hcs : ∀ j u, (symRow (y :: rest))[j]? = some u -> w.cell? ⟨g, o + j, none⟩ = some u) : Wt w base (.slice (some ⟨g, o + 1, none⟩) (n - 1) (c - 1)) rest := by
 have e : n - 1 = rest.length := by simp at hn; omega
 exact ⟨_, c - 1, by rw [e], by omega, fun _ => ⟨g, o + 1, rfl, hb, hg, fun j u hj => by rw [show o + 1 + j = o + (j + 1) from by omega]; exact hcs (j + 1) u (by simpa [symRow] using hj)⟩⟩
theorem no_rest {y : Sym} {rest : List Sym} {n : Nat} (hn : (y :: rest).length = n) (h : n <= 1) : symRow rest = [] := by
 cases rest with
 | nil => rfl
 | cons a b => simp at hn; omega
theorem Form_any (w : World) (base : Nat) (v : Value) (body : List Tk) (en : Tk) (hen : en.sort = 3 /\ en.text = ByteArray.empty) (h : w.ownsRow base 166 3 v body.length (rtkRow body)) (hb : ∀ t, t ∈ body -> TkLit t) (hfew : body.length <= 3000)
  (N : Nat) (r : Option Nat) (hrun : formRun (body ++ [en]) N [.rules] 0 = some r) :
  Calls Tryz.prog 79 #[v] w fun e w' => e = .returned (.int .i64 (formAns (body ++ [en]) r)) /\ F0 w w' := by
 obtain ⟨ii, hi, hz0, hz1, hz2⟩ := info_parts Tryz.infoString;obtain ⟨av, cv, rfl, hav⟩ := ownsRow_rtok h;have HAV := hid hav;have HB := hid hb;have HE := hid hen;have HRUN := hid hrun;clear h hav hb hen hrun;go_enter Tryz.func79, Tryz.ntmps79;go_wp2_with fail
 go_loopg [3, 4] N (fun m o i wr => ∃ st k, i = .int .i64 (k : Nat) /\ k <= body.length /\ Hid (Low st) /\ Hid (formRun (body ++ [en]) m st k = some r) /\ Hid (Wt wr w.heap.size o st) /\ Hid (F0 w wr))
 case atStart =>
  have hn := aN w (.cells #[.string ⟨#[114, 117, 108, 101, 115]⟩] 9);refine ⟨[.rules], 0, rfl, Nat.zero_le _, ⟨by simp [pot], fun m e => by (cases e), trivial⟩, HRUN.o, ⟨_, _, rfl, by simp, fun _ => ⟨w.heap.size, 0, rfl, Nat.le_refl _, by simp, fun j u hj => ?_⟩⟩, (Fr.refl _ _).alloc _⟩;rw [Nat.zero_add];exact bC hn j _ (by simpa [symRow, symS] using hj)
 case round =>
  obtain ⟨st, k, rfl, hk, HLO, HR, HW, HF⟩ := hrel;have hsz := HF.o.size
  cases st with
  | nil =>
   obtain ⟨a, c, rfl, hc, hcells⟩ := HW.o
   have e0 : (if (tkAt (body ++ [en]) k).sort = 3 then none else some k) = r := by
    have e := HR.o;rw [formRun_nil] at e;injection e
   clear hcells HW;simp only [List.length_nil] at hc ⊢;by_cases hlt : k < body.length
   ·obtain ⟨gv, rfl, hbv, hlv, hrow⟩ := HAV.o (by omega)
    obtain ⟨t, ht⟩ : ∃ t, body[k]? = some t := ⟨_, gE hlt⟩;obtain ⟨r0, r1, r2⟩ := (hrow.fr HF.o hlv (by simp)) k t ht
    have htk : tkAt (body ++ [en]) k = t := by
     unfold tkAt;rw [gD, List.getElem?_append_left hlt, ht];rfl
    have hs3 := (HB.o t (mG ht)).2.2.1;rw [htk, if_neg hs3] at e0
    have HA : Hid (formAns (body ++ [en]) r = t.line) := by show _ = _; rw [<- e0]; simp only [formAns]; rw [htk, if_neg hs3]
    have hki : (k : Int) < (body.length : Int) := by omega
    clear hrow ht htk hs3 e0;go_wp2;go_ret;exact ⟨ret_int HA.o.symm, HF.o⟩
   ·have htk : tkAt (body ++ [en]) k = en := by
     unfold tkAt;rw [gD, aR (by omega), show k - body.length = 0 from by omega];rfl
    rw [htk, if_pos HE.o.1] at e0
    have HA : Hid (formAns (body ++ [en]) r = 0) := by show _ = _; rw [<- e0]; rfl
    have hki : ¬ (k : Int) < (body.length : Int) := by omega
    clear htk e0;go_wp2;go_ret;exact ⟨ret_int HA.o.symm, HF.o⟩
  | cons y rest =>
   obtain ⟨m, rfl⟩ : ∃ m, gk = m + 1 := by
    cases gk with
    | zero => exact absurd HR.o (by simp [formRun])
    | succ m => exact ⟨m, rfl⟩
   obtain ⟨a, c, rfl, hc, hcells⟩ := HW.o;obtain ⟨g, o, rfl, hbg, hg, hcs⟩ := hcells (by simp);have c0 : wr.cell? ⟨g, o, none⟩ = some (.string (symS y)) := hcs 0 _ rfl;have HCS := hid hcs;clear hcells hcs HW;obtain ⟨n, hn⟩ : ∃ n, (y :: rest).length = n := ⟨_, rfl⟩;rw [hn] at hc ⊢
   have hn0 : (0 : Int) < (n : Int) := by simp at hn; omega
   by_cases hlt : k < body.length
   ·obtain ⟨gv, rfl, hbv, hlv, hrow⟩ := HAV.o (by omega)
    obtain ⟨t, ht⟩ : ∃ t, body[k]? = some t := ⟨_, gE hlt⟩;obtain ⟨r0, r1, r2⟩ := (hrow.fr (HF.o.alloc (.cells #[.string ⟨#[]⟩, .int .u8 101, .int .i64 0] 166)) hlv (by simp)) k t ht;have HG := hid ht
    have hki : (k : Int) < (body.length : Int) := by omega
    clear hrow ht
    have HTK : Hid (tkAt (body ++ [en]) k = t) := by
     show _ = _
     unfold tkAt;rw [gD, List.getElem?_append_left hlt, HG.o];rfl
    have hTL := HB.o t (mG HG.o);have HL := hid hTL.1;have HS3 := hid hTL.2.2.1;have hA1 : (([78, 65, 77, 69] : List UInt8) == t.text.toList) = false := head_ne hTL.2.2.2.2.1;have hA2 : (([73, 78, 84] : List UInt8) == t.text.toList) = false := head_ne hTL.2.2.2.2.2;have f0 := rk110 t;have f1 := rk105 t;have f3 := rk101 t
    have f4 : (rkind t != 101) = true := by rw [bne, f3]; rfl
    obtain ⟨ln, hln⟩ : ∃ ln : Int, ln = t.line := ⟨_, rfl⟩;rw [<- hln] at r2;have HLN := hid hln;clear hTL hln;go_wp2_with fail;have hn7 := aN wr (.cells #[.string (t.text), .int .u8 (rkind t), .int .i64 ln] 166);have b0 := bC hn7 0 _ rfl;have b1 := bC hn7 1 _ rfl;have b2 := bC hn7 2 _ rfl;have HF7 := HF.o.alloc (.cells #[.string (t.text), .int .u8 (rkind t), .int .i64 ln] 166);have c7 := ((Fr.refl (fun _ => False) wr).alloc (.cells #[.string (t.text), .int .u8 (rkind t), .int .i64 ln] 166)).cell (p := ⟨g, o, none⟩) hg (by simp) |>.trans c0
    have HC7 : Hid (∀ j u, (symRow (y :: rest))[j]? = some u -> (wr.alloc (.cells #[.string (t.text), .int .u8 (rkind t), .int .i64 ln] 166)).cell? ⟨g, o + j, none⟩ = some u) := fun j u hj => ((Fr.refl (fun _ => False) wr).alloc (.cells #[.string (t.text), .int .u8 (rkind t), .int .i64 ln] 166)).cell (p := ⟨g, o + j, none⟩) hg (by simp) |>.trans (HCS.o j u hj)
    have hg7 : g < (wr.alloc (.cells #[.string (t.text), .int .u8 (rkind t), .int .i64 ln] 166)).heap.size := by simp; omega
    have hb7 : wr.heap.size < (wr.alloc (.cells #[.string (t.text), .int .u8 (rkind t), .int .i64 ln] 166)).heap.size := by simp
    generalize wr.alloc (.cells #[.string (t.text), .int .u8 (rkind t), .int .i64 ln] 166) = w7 at *;have H7 := hid HF7;clear HF7 hn7 c0 r0 r1 r2;generalize hTX : t.text = T at *;generalize rkind t = KD at *;have HTX := hid hTX.symm;obtain ⟨LN, hLN⟩ : ∃ LN : Int, LN = ln := ⟨_, rfl⟩;subst hLN;clear hTX
    cases hbm : becomesM y t with
    | some l =>
     have HBM := hid hbm;clear hbm
     go_cut [6, 7] from 11 to 74 (fun s6 s7 wx => ∃ g2 c2, s6 = .slice (some ⟨g2, 0, none⟩) l.length c2 /\ s7 = .bool true /\ Hid (∀ j u, (symRow l)[j]? = some u -> wx.cell? ⟨g2, j, none⟩ = some u) /\ Hid (F0 w7 wx) /\ Hid (g2 < wx.heap.size))
     case first =>
      go_region_with (go_at_call 130; refine (becomes_anyT y t T KD LN _ HLO.o.2.1 HL.o HTX.o).mono ?_; intro e w8 hT8; obtain ⟨⟨g2, c2, rfl, hg2, hl2, hcs2⟩, hf8⟩ := (BPost.some HBM.o).1 hT8; have HF8 : Hid (F0 w7 w8) := ((Fr.refl _ _).drew).trans hf8; have HCS2 : Hid (∀ j u, (symRow l)[j]? = some u -> w8.cell? ⟨g2, j, none⟩ = some u) := hcs2; clear hf8 hcs2 hT8)
      all_goals (go_wp2_with fail; go_meet; exact ⟨g2, c2, rfl, rfl, HCS2, HF8, hl2⟩)
     case rest =>
      obtain ⟨g2, c2, rfl, rfl, HCS2, HF8, HG2⟩ := hcut;have HFc := hid (H7.o.trans HF8.o)
      have HCc : Hid (∀ j u, (symRow (y :: rest))[j]? = some u -> wc.cell? ⟨g, o + j, none⟩ = some u) := fun j u hj => (HF8.o.cell (p := ⟨g, o + j, none⟩) hg7 (by simp)).trans (HC7.o j u hj)
      have hgc : g < wc.heap.size := nL hg7 HF8.o.size;have hszc := HFc.o.size
      have hl15 : l.length + rest.length <= 15 := by have := low_len (low_exp HLO.o HBM.o); simpa using this
      go_wp2_with (at_builtin; refine wpList_append_own_at _ rfl (.tmp 32) (.tmp 33) 28 rfl w.heap.size 9 ii _ 1 16 Tryz.underlying28 hi hz0 hz1 hz2 rfl (by decide) (.slice none 0 0) 0 [] rfl (oZ _ _ _ _) ⟨g2, 0, none⟩ l.length c2 (symRow l) rfl ?hl ?hnews ?h1 ?h63 ?hb ?hbase ?go)
      case hl => simp [symRow]
      case hnews => intro j u hj; rw [addr_add, Nat.zero_add]; exact HCS2.o j u hj
      case h1 => intro u hu; simp [symRow] at hu; obtain ⟨_, _, rfl⟩ := hu; rfl
      case h63 => unfold maxLen; omega
      case hb => omega
      case hbase => omega
      case go =>
       intro v1 w9 ho9 hg9 _ hb9;have HO9 := hid ho9;have HF9 := hid (HFc.o.grown hg9 (fun k hk => by simp [Value.ownBlock] at hk))
       have HC9 : Hid (∀ j u, (symRow (y :: rest))[j]? = some u -> w9.cell? ⟨g, o + j, none⟩ = some u) := fun j u hj => (hg9.cell_far ⟨g, o + j, none⟩ hgc (by simp [Value.ownBlock])).trans (HCc.o j u hj)
       have hsz9 := HF9.o.size;clear ho9 hg9 hb9;by_cases hc1 : c = 1
       ·go_wp2_with (at_builtin; refine wpList_append_own_at _ rfl (.tmp 35) (.tmp 37) 28 rfl w.heap.size 9 ii _ 1 16 Tryz.underlying28 hi hz0 hz1 hz2 rfl (by decide) v1 l.length (symRow l) rfl HO9.o ⟨g, o, none⟩ (n - 1) 0 (symRow rest) rfl ?hlx ?hnewsx ?h1x ?h63x ?hbx ?hbasex ?gox)
        case hlx => simp [symRow]; simp at hn; omega
        case hnewsx => intro j u hj; rw [no_rest hn (by omega)] at hj; simp at hj
        case h1x => intro u hu; simp [symRow] at hu; obtain ⟨_, _, rfl⟩ := hu; rfl
        case h63x => unfold maxLen; simp at hn; omega
        case hbx => simp at hn; omega
        case hbasex => omega
        case gox =>
         intro v2 w10 ho10 hg10 _ hb10;have HO10 := hid ho10;have HF10 := hid (HF9.o.grown hg10 (fun k hk => Or.inr (HO9.o.lt k hk).1));clear ho10 hg10 hb10;go_wp2;go_roundg m
         case measure => omega
         case rel =>
          refine ⟨l ++ rest, k, rfl, hk, low_exp HLO.o HBM.o, ?_, ?_, HF10⟩
          ·have e := HR.o
           simp only [formRun] at e;rw [HTK.o, HBM.o] at e;exact e
          ·refine Wt.of_row ?_
           have e : l.length + (n - 1) = (l ++ rest).length := by simp at hn ⊢; omega
           have e2 : symRow l ++ symRow rest = symRow (l ++ rest) := by simp [symRow]
           rw [<- e, <- e2];exact HO10.o
       ·go_wp2_with (at_builtin; refine wpList_append_own_at _ rfl (.tmp 35) (.tmp 37) 28 rfl w.heap.size 9 ii _ 1 16 Tryz.underlying28 hi hz0 hz1 hz2 rfl (by decide) v1 l.length (symRow l) rfl HO9.o ⟨g, o + 1, none⟩ (n - 1) (c - 1) (symRow rest) rfl ?hlz ?hnewsz ?h1z ?h63z ?hbz ?hbasez ?goz)
        case hlz => simp [symRow]; simp at hn; omega
        case hnewsz => intro j u hj; rw [addr_add, show o + 1 + j = o + (j + 1) from by omega]; exact HC9.o (j + 1) u (by simpa [symRow] using hj)
        case h1z => intro u hu; simp [symRow] at hu; obtain ⟨_, _, rfl⟩ := hu; rfl
        case h63z => unfold maxLen; simp at hn; omega
        case hbz => simp at hn; omega
        case hbasez => omega
        case goz =>
         intro v2 w10 ho10 hg10 _ hb10;have HO10 := hid ho10;have HF10 := hid (HF9.o.grown hg10 (fun k hk => Or.inr (HO9.o.lt k hk).1));clear ho10 hg10 hb10;go_wp2;go_roundg m
         case measure => omega
         case rel =>
          refine ⟨l ++ rest, k, rfl, hk, low_exp HLO.o HBM.o, ?_, ?_, HF10⟩
          ·have e := HR.o
           simp only [formRun] at e;rw [HTK.o, HBM.o] at e;exact e
          ·refine Wt.of_row ?_
           have e : l.length + (n - 1) = (l ++ rest).length := by simp at hn ⊢; omega
           have e2 : symRow l ++ symRow rest = symRow (l ++ rest) := by simp [symRow]
           rw [<- e, <- e2];exact HO10.o
    | none =>
     have HBM := hid hbm;clear hbm
     go_cut [6, 7] from 11 to 74 (fun s6 s7 wx => s6 = .slice none 0 0 /\ s7 = .bool false /\ Hid (F0 w7 wx))
     case first =>
      go_region_with (go_at_call 130; refine (becomes_anyT y t T KD LN _ HLO.o.2.1 HL.o HTX.o).mono ?_; intro e w8 hT8; obtain ⟨rfl, hf8⟩ := (BPost.none HBM.o).1 hT8; have HF8 : Hid (F0 w7 w8) := ((Fr.refl _ _).drew).trans hf8; clear hf8 hT8)
      all_goals (go_wp2_with fail; go_meet; exact ⟨rfl, rfl, HF8⟩)
     case rest =>
      obtain ⟨rfl, rfl, HF8⟩ := hcut;have HFc := hid (H7.o.trans HF8.o)
      have HCc : Hid (∀ j u, (symRow (y :: rest))[j]? = some u -> wc.cell? ⟨g, o + j, none⟩ = some u) := fun j u hj => (HF8.o.cell (p := ⟨g, o + j, none⟩) hg7 (by simp)).trans (HC7.o j u hj)
      have cc : wc.cell? ⟨g, o, none⟩ = some (.string (symS y)) := HCc.o 0 _ rfl;have d0 := (HF8.o.cell (p := ⟨wr.heap.size, 0, none⟩) hb7 (by simp)).trans b0;have d1 := (HF8.o.cell (p := ⟨wr.heap.size, 1, none⟩) hb7 (by simp)).trans b1;have d2 := (HF8.o.cell (p := ⟨wr.heap.size, 2, none⟩) hb7 (by simp)).trans b2;have hgc : g < wc.heap.size := nL hg7 HF8.o.size;clear b0 b1 b2 c7
      have HFin : Hid (fitsM y t = false -> r = some k) := fun hf => by
       have e := HR.o;simp only [formRun] at e;rw [HTK.o, HBM.o, hf] at e;simp at e;exact e.symm
      have HGo : Hid (fitsM y t = true -> formRun (body ++ [en]) m rest (k + 1) = some r) := fun hf => by
       have e := HR.o;simp only [formRun] at e;rw [HTK.o, HBM.o, hf] at e;exact e
      have HA' : Hid (fitsM y t = false -> formAns (body ++ [en]) r = LN) := fun hf => by
       rw [HFin.o hf];simp only [formAns];rw [HTK.o, if_neg HS3.o];exact HLN.o.symm
      cases y with
      | NAME =>
       have x1 : ((symS .NAME).toList == [78, 65, 77, 69]) = true := tl_eq (by decide);have x2 : ((symS .NAME).toList == [73, 78, 84]) = false := tl_ne (by decide)
       have x3 : ((symS .NAME).toList == T.toList) = false := by rw [ByteArray.toList_eq]; exact hA1
       generalize symS .NAME = X at *
       cases hz : decide (t.sort = 0) with
       | true =>
        rw [hz] at f0;have HFT := hid hz;clear hz;by_cases hc1 : c = 1
        ·go_wp2_with fail
         go_big_quiet ((fail))
         go_wp2;go_roundg m
         case measure => omega
         case rel => exact ⟨rest, k + 1, by go_num, hlt, HLO.o.2.2, HGo.o HFT.o, Wt.pop1 hn (by omega), HFc.o.trans ⟨rfl, rfl, rfl, Nat.le_refl _, fun _ _ _ => rfl⟩⟩
        ·go_wp2_with fail
         go_big_quiet ((fail))
         go_wp2;go_roundg m
         case measure => omega
         case rel => exact ⟨rest, k + 1, by go_num, hlt, HLO.o.2.2, HGo.o HFT.o, (Wt.pop hn hc hbg hgc HCc.o).fr ⟨rfl, rfl, rfl, Nat.le_refl _, fun _ _ _ => rfl⟩, HFc.o.trans ⟨rfl, rfl, rfl, Nat.le_refl _, fun _ _ _ => rfl⟩⟩
       | false =>
        rw [hz] at f0;have HA := hid (HA'.o hz);clear hz;go_wp2_with fail
        go_big_quiet ((fail))
        go_wp2;go_ret;exact ⟨ret_int HA.o.symm, HFc.o.trans ⟨rfl, rfl, rfl, Nat.le_refl _, fun _ _ _ => rfl⟩⟩
      | INT =>
       have x1 : ((symS .INT).toList == [78, 65, 77, 69]) = false := tl_ne (by decide);have x2 : ((symS .INT).toList == [73, 78, 84]) = true := tl_eq (by decide)
       have x3 : ((symS .INT).toList == T.toList) = false := by rw [ByteArray.toList_eq]; exact hA2
       generalize symS .INT = X at *
       cases hz : decide (t.sort = 1) with
       | true =>
        rw [hz] at f1;have HFT := hid hz;clear hz;by_cases hc1 : c = 1
        ·go_wp2_with fail
         go_big_quiet ((fail))
         go_wp2;go_roundg m
         case measure => omega
         case rel => exact ⟨rest, k + 1, by go_num, hlt, HLO.o.2.2, HGo.o HFT.o, Wt.pop1 hn (by omega), HFc.o.trans ⟨rfl, rfl, rfl, Nat.le_refl _, fun _ _ _ => rfl⟩⟩
        ·go_wp2_with fail
         go_big_quiet ((fail))
         go_wp2;go_roundg m
         case measure => omega
         case rel => exact ⟨rest, k + 1, by go_num, hlt, HLO.o.2.2, HGo.o HFT.o, (Wt.pop hn hc hbg hgc HCc.o).fr ⟨rfl, rfl, rfl, Nat.le_refl _, fun _ _ _ => rfl⟩, HFc.o.trans ⟨rfl, rfl, rfl, Nat.le_refl _, fun _ _ _ => rfl⟩⟩
       | false =>
        rw [hz] at f1;have HA := hid (HA'.o hz);clear hz;go_wp2_with fail
        go_big_quiet ((fail))
        go_wp2;go_ret;exact ⟨ret_int HA.o.symm, HFc.o.trans ⟨rfl, rfl, rfl, Nat.le_refl _, fun _ _ _ => rfl⟩⟩
      | lit x =>
       have hx := HLO.o.2.1 x rfl;have x1 : (x.toList == [78, 65, 77, 69]) = false := tl_ne (lits_words x hx).1;have x2 : (x.toList == [73, 78, 84]) = false := tl_ne (lits_words x hx).2;have x3 := lit_flip HL.o hx HTX.o;simp only [symS] at cc;clear hx
       cases hz : isFix t x with
       | true =>
        rw [hz] at x3;have HFT := hid hz;clear hz;by_cases hc1 : c = 1
        ·go_wp2_with fail
         go_big_quiet ((fail))
         go_wp2;go_roundg m
         case measure => omega
         case rel => exact ⟨rest, k + 1, by go_num, hlt, HLO.o.2.2, HGo.o HFT.o, Wt.pop1 hn (by omega), HFc.o.trans ⟨rfl, rfl, rfl, Nat.le_refl _, fun _ _ _ => rfl⟩⟩
        ·go_wp2_with fail
         go_big_quiet ((fail))
         go_wp2;go_roundg m
         case measure => omega
         case rel => exact ⟨rest, k + 1, by go_num, hlt, HLO.o.2.2, HGo.o HFT.o, (Wt.pop hn hc hbg hgc HCc.o).fr ⟨rfl, rfl, rfl, Nat.le_refl _, fun _ _ _ => rfl⟩, HFc.o.trans ⟨rfl, rfl, rfl, Nat.le_refl _, fun _ _ _ => rfl⟩⟩
       | false =>
        rw [hz] at x3;have HA := hid (HA'.o hz);clear hz;go_wp2_with fail
        go_big_quiet ((fail))
        go_wp2;go_ret;exact ⟨ret_int HA.o.symm, HFc.o.trans ⟨rfl, rfl, rfl, Nat.le_refl _, fun _ _ _ => rfl⟩⟩
      | _ => exact absurd HBM.o (by simp [becomesM])
   ·have hki : ¬ (k : Int) < (body.length : Int) := by omega
    have HTK : Hid (tkAt (body ++ [en]) k = en) := by
     show _ = _
     unfold tkAt;rw [gD, aR (by omega), show k - body.length = 0 from by omega];rfl
    have HL : Hid (LitTk en) := by
     have e : en = ⟨3, ByteArray.empty, en.line⟩ := by
      have h1 := HE.o
      cases en
      simp at h1;obtain ⟨rfl, rfl⟩ := h1;rfl
     show LitTk en
     rw [e];exact lit_of_end _
    have r0 : True := trivial;have r1 : True := trivial;have r2 : True := trivial;have hA1 : (([78, 65, 77, 69] : List UInt8) == (⟨#[]⟩ : ByteArray).toList) = false := head_ne (by decide);have hA2 : (([73, 78, 84] : List UInt8) == (⟨#[]⟩ : ByteArray).toList) = false := head_ne (by decide);go_wp2_with fail;have hn7 := aN wr (.cells #[.string ⟨#[]⟩, .int .u8 101, .int .i64 0] 166);have b0 := bC hn7 0 _ rfl;have b1 := bC hn7 1 _ rfl;have b2 := bC hn7 2 _ rfl;have HF7 := HF.o.alloc (.cells #[.string ⟨#[]⟩, .int .u8 101, .int .i64 0] 166);have c7 := ((Fr.refl (fun _ => False) wr).alloc (.cells #[.string ⟨#[]⟩, .int .u8 101, .int .i64 0] 166)).cell (p := ⟨g, o, none⟩) hg (by simp) |>.trans c0
    have HC7 : Hid (∀ j u, (symRow (y :: rest))[j]? = some u -> (wr.alloc (.cells #[.string ⟨#[]⟩, .int .u8 101, .int .i64 0] 166)).cell? ⟨g, o + j, none⟩ = some u) := fun j u hj => ((Fr.refl (fun _ => False) wr).alloc (.cells #[.string ⟨#[]⟩, .int .u8 101, .int .i64 0] 166)).cell (p := ⟨g, o + j, none⟩) hg (by simp) |>.trans (HCS.o j u hj)
    have hg7 : g < (wr.alloc (.cells #[.string ⟨#[]⟩, .int .u8 101, .int .i64 0] 166)).heap.size := by simp; omega
    have hb7 : wr.heap.size < (wr.alloc (.cells #[.string ⟨#[]⟩, .int .u8 101, .int .i64 0] 166)).heap.size := by simp
    generalize wr.alloc (.cells #[.string ⟨#[]⟩, .int .u8 101, .int .i64 0] 166) = w7 at *;have H7 := hid HF7;clear HF7 hn7 c0 r0 r1 r2;obtain ⟨T, hTX⟩ : ∃ T : ByteArray, T = ⟨#[]⟩ := ⟨_, rfl⟩;rw [<- hTX] at b0 hA1 hA2;have HTX := hid (hTX.trans HE.o.2.symm);obtain ⟨KD, hKD⟩ : ∃ KD : Int, KD = 101 := ⟨_, rfl⟩;rw [<- hKD] at b1
    have f0 : (KD == 110) = false := by simp [hKD]
    have f1 : (KD == 105) = false := by simp [hKD]
    have f3 : (KD == 101) = true := by simp [hKD]
    have f4 : (KD != 101) = false := by simp [hKD]
    obtain ⟨LN, hLN⟩ : ∃ LN : Int, LN = 0 := ⟨_, rfl⟩;rw [<- hLN] at b2;clear hTX hKD hLN
    cases hbm : becomesM y en with
    | some l =>
     have HBM := hid hbm;clear hbm
     go_cut [6, 7] from 11 to 74 (fun s6 s7 wx => ∃ g2 c2, s6 = .slice (some ⟨g2, 0, none⟩) l.length c2 /\ s7 = .bool true /\ Hid (∀ j u, (symRow l)[j]? = some u -> wx.cell? ⟨g2, j, none⟩ = some u) /\ Hid (F0 w7 wx) /\ Hid (g2 < wx.heap.size))
     case first =>
      go_region_with (go_at_call 130; refine (becomes_anyT y en T KD LN _ HLO.o.2.1 HL.o HTX.o).mono ?_; intro e w8 hT8; obtain ⟨⟨g2, c2, rfl, hg2, hl2, hcs2⟩, hf8⟩ := (BPost.some HBM.o).1 hT8; have HF8 : Hid (F0 w7 w8) := ((Fr.refl _ _).drew).trans hf8; have HCS2 : Hid (∀ j u, (symRow l)[j]? = some u -> w8.cell? ⟨g2, j, none⟩ = some u) := hcs2; clear hf8 hcs2 hT8)
      all_goals (go_wp2_with fail; go_meet; exact ⟨g2, c2, rfl, rfl, HCS2, HF8, hl2⟩)
     case rest =>
      obtain ⟨g2, c2, rfl, rfl, HCS2, HF8, HG2⟩ := hcut;have HFc := hid (H7.o.trans HF8.o)
      have HCc : Hid (∀ j u, (symRow (y :: rest))[j]? = some u -> wc.cell? ⟨g, o + j, none⟩ = some u) := fun j u hj => (HF8.o.cell (p := ⟨g, o + j, none⟩) hg7 (by simp)).trans (HC7.o j u hj)
      have hgc : g < wc.heap.size := nL hg7 HF8.o.size;have hszc := HFc.o.size
      have hl15 : l.length + rest.length <= 15 := by have := low_len (low_exp HLO.o HBM.o); simpa using this
      go_wp2_with (at_builtin; refine wpList_append_own_at _ rfl (.tmp 32) (.tmp 33) 28 rfl w.heap.size 9 ii _ 1 16 Tryz.underlying28 hi hz0 hz1 hz2 rfl (by decide) (.slice none 0 0) 0 [] rfl (oZ _ _ _ _) ⟨g2, 0, none⟩ l.length c2 (symRow l) rfl ?hl ?hnews ?h1 ?h63 ?hb ?hbase ?go)
      case hl => simp [symRow]
      case hnews => intro j u hj; rw [addr_add, Nat.zero_add]; exact HCS2.o j u hj
      case h1 => intro u hu; simp [symRow] at hu; obtain ⟨_, _, rfl⟩ := hu; rfl
      case h63 => unfold maxLen; omega
      case hb => omega
      case hbase => omega
      case go =>
       intro v1 w9 ho9 hg9 _ hb9;have HO9 := hid ho9;have HF9 := hid (HFc.o.grown hg9 (fun k hk => by simp [Value.ownBlock] at hk))
       have HC9 : Hid (∀ j u, (symRow (y :: rest))[j]? = some u -> w9.cell? ⟨g, o + j, none⟩ = some u) := fun j u hj => (hg9.cell_far ⟨g, o + j, none⟩ hgc (by simp [Value.ownBlock])).trans (HCc.o j u hj)
       have hsz9 := HF9.o.size;clear ho9 hg9 hb9;by_cases hc1 : c = 1
       ·go_wp2_with (at_builtin; refine wpList_append_own_at _ rfl (.tmp 35) (.tmp 37) 28 rfl w.heap.size 9 ii _ 1 16 Tryz.underlying28 hi hz0 hz1 hz2 rfl (by decide) v1 l.length (symRow l) rfl HO9.o ⟨g, o, none⟩ (n - 1) 0 (symRow rest) rfl ?hlx ?hnewsx ?h1x ?h63x ?hbx ?hbasex ?gox)
        case hlx => simp [symRow]; simp at hn; omega
        case hnewsx => intro j u hj; rw [no_rest hn (by omega)] at hj; simp at hj
        case h1x => intro u hu; simp [symRow] at hu; obtain ⟨_, _, rfl⟩ := hu; rfl
        case h63x => unfold maxLen; simp at hn; omega
        case hbx => simp at hn; omega
        case hbasex => omega
        case gox =>
         intro v2 w10 ho10 hg10 _ hb10;have HO10 := hid ho10;have HF10 := hid (HF9.o.grown hg10 (fun k hk => Or.inr (HO9.o.lt k hk).1));clear ho10 hg10 hb10;go_wp2;go_roundg m
         case measure => omega
         case rel =>
          refine ⟨l ++ rest, k, rfl, hk, low_exp HLO.o HBM.o, ?_, ?_, HF10⟩
          ·have e := HR.o
           simp only [formRun] at e;rw [HTK.o, HBM.o] at e;exact e
          ·refine Wt.of_row ?_
           have e : l.length + (n - 1) = (l ++ rest).length := by simp at hn ⊢; omega
           have e2 : symRow l ++ symRow rest = symRow (l ++ rest) := by simp [symRow]
           rw [<- e, <- e2];exact HO10.o
       ·go_wp2_with (at_builtin; refine wpList_append_own_at _ rfl (.tmp 35) (.tmp 37) 28 rfl w.heap.size 9 ii _ 1 16 Tryz.underlying28 hi hz0 hz1 hz2 rfl (by decide) v1 l.length (symRow l) rfl HO9.o ⟨g, o + 1, none⟩ (n - 1) (c - 1) (symRow rest) rfl ?hlz ?hnewsz ?h1z ?h63z ?hbz ?hbasez ?goz)
        case hlz => simp [symRow]; simp at hn; omega
        case hnewsz => intro j u hj; rw [addr_add, show o + 1 + j = o + (j + 1) from by omega]; exact HC9.o (j + 1) u (by simpa [symRow] using hj)
        case h1z => intro u hu; simp [symRow] at hu; obtain ⟨_, _, rfl⟩ := hu; rfl
        case h63z => unfold maxLen; simp at hn; omega
        case hbz => simp at hn; omega
        case hbasez => omega
        case goz =>
         intro v2 w10 ho10 hg10 _ hb10;have HO10 := hid ho10;have HF10 := hid (HF9.o.grown hg10 (fun k hk => Or.inr (HO9.o.lt k hk).1));clear ho10 hg10 hb10;go_wp2;go_roundg m
         case measure => omega
         case rel =>
          refine ⟨l ++ rest, k, rfl, hk, low_exp HLO.o HBM.o, ?_, ?_, HF10⟩
          ·have e := HR.o
           simp only [formRun] at e;rw [HTK.o, HBM.o] at e;exact e
          ·refine Wt.of_row ?_
           have e : l.length + (n - 1) = (l ++ rest).length := by simp at hn ⊢; omega
           have e2 : symRow l ++ symRow rest = symRow (l ++ rest) := by simp [symRow]
           rw [<- e, <- e2];exact HO10.o
    | none =>
     have HBM := hid hbm;clear hbm
     go_cut [6, 7] from 11 to 74 (fun s6 s7 wx => s6 = .slice none 0 0 /\ s7 = .bool false /\ Hid (F0 w7 wx))
     case first =>
      go_region_with (go_at_call 130; refine (becomes_anyT y en T KD LN _ HLO.o.2.1 HL.o HTX.o).mono ?_; intro e w8 hT8; obtain ⟨rfl, hf8⟩ := (BPost.none HBM.o).1 hT8; have HF8 : Hid (F0 w7 w8) := ((Fr.refl _ _).drew).trans hf8; clear hf8 hT8)
      all_goals (go_wp2_with fail; go_meet; exact ⟨rfl, rfl, HF8⟩)
     case rest =>
      obtain ⟨rfl, rfl, HF8⟩ := hcut;have HFc := hid (H7.o.trans HF8.o)
      have HCc : Hid (∀ j u, (symRow (y :: rest))[j]? = some u -> wc.cell? ⟨g, o + j, none⟩ = some u) := fun j u hj => (HF8.o.cell (p := ⟨g, o + j, none⟩) hg7 (by simp)).trans (HC7.o j u hj)
      have cc : wc.cell? ⟨g, o, none⟩ = some (.string (symS y)) := HCc.o 0 _ rfl;have d0 := (HF8.o.cell (p := ⟨wr.heap.size, 0, none⟩) hb7 (by simp)).trans b0;have d1 := (HF8.o.cell (p := ⟨wr.heap.size, 1, none⟩) hb7 (by simp)).trans b1;have d2 := (HF8.o.cell (p := ⟨wr.heap.size, 2, none⟩) hb7 (by simp)).trans b2;have hgc : g < wc.heap.size := nL hg7 HF8.o.size;clear b0 b1 b2 c7
      have HFin : Hid (fitsM y en = false -> r = some k) := fun hf => by
       have e := HR.o;simp only [formRun] at e;rw [HTK.o, HBM.o, hf] at e;simp at e;exact e.symm
      have HGo : Hid (fitsM y en = true -> formRun (body ++ [en]) m rest (k + 1) = some r) := fun hf => by
       have e := HR.o;simp only [formRun] at e;rw [HTK.o, HBM.o, hf] at e;exact e
      have HA : Hid (formAns (body ++ [en]) r = -1) := by
       show _ = _
       rw [HFin.o (by cases y <;> simp [fitsM, isFix, HE.o.1])];simp only [formAns];rw [HTK.o, if_pos HE.o.1]
      cases y with
      | NAME =>
       have x1 : ((symS .NAME).toList == [78, 65, 77, 69]) = true := tl_eq (by decide);have x2 : ((symS .NAME).toList == [73, 78, 84]) = false := tl_ne (by decide)
       have x3 : ((symS .NAME).toList == T.toList) = false := by rw [ByteArray.toList_eq]; exact hA1
       generalize symS .NAME = X at *;go_wp2_with fail
       go_big_quiet ((fail))
       go_wp2;go_ret;exact ⟨ret_int HA.o.symm, HFc.o.trans ⟨rfl, rfl, rfl, Nat.le_refl _, fun _ _ _ => rfl⟩⟩
      | INT =>
       have x1 : ((symS .INT).toList == [78, 65, 77, 69]) = false := tl_ne (by decide);have x2 : ((symS .INT).toList == [73, 78, 84]) = true := tl_eq (by decide)
       have x3 : ((symS .INT).toList == T.toList) = false := by rw [ByteArray.toList_eq]; exact hA2
       generalize symS .INT = X at *;go_wp2_with fail
       go_big_quiet ((fail))
       go_wp2;go_ret;exact ⟨ret_int HA.o.symm, HFc.o.trans ⟨rfl, rfl, rfl, Nat.le_refl _, fun _ _ _ => rfl⟩⟩
      | lit x =>
       have hx := HLO.o.2.1 x rfl;have x1 : (x.toList == [78, 65, 77, 69]) = false := tl_ne (lits_words x hx).1;have x2 : (x.toList == [73, 78, 84]) = false := tl_ne (lits_words x hx).2;have x3 := lit_flip HL.o hx HTX.o;rw [show isFix en x = false from by simp [isFix, HE.o.1]] at x3;simp only [symS] at cc;clear hx;go_wp2_with fail
       go_big_quiet ((fail))
       go_wp2;go_ret;exact ⟨ret_int HA.o.symm, HFc.o.trans ⟨rfl, rfl, rfl, Nat.le_refl _, fun _ _ _ => rfl⟩⟩
      | _ => exact absurd HBM.o (by simp [becomesM])
