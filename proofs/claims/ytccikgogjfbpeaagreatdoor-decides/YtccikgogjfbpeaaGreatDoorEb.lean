import Derived.Test.YtccikgogjfbpeaaGreatDoorEa
namespace Go.Proofs.YtccikgogjfbpeaaGreatDoor
set_option maxRecDepth 30000
set_option maxHeartbeats 8000000
open Go.RowKit
structure RfAt (w : World) (q : Nat) (rts : List RouteM) (R : List RuleM) : Prop where
 c1 : ∃ ra rc, w.cell? ⟨q, 1, none⟩ = some (.slice ra rts.length rc) /\ ∀ i t, rts[i]? = some t -> ∃ g, ra = some ⟨g, 0, none⟩ /\ w.cell? ⟨g, i * 3, none⟩ = some (.string t.name) /\ w.cell? ⟨g, i * 3 + 1, none⟩ = some (.int .i64 (t.base : Nat)) /\ w.cell? ⟨g, i * 3 + 2, none⟩ = some (.int .i64 (t.rate : Nat))
 c2 : ∃ la lc, w.cell? ⟨q, 2, none⟩ = some (.slice la R.length lc) /\ ∀ i r, R[i]? = some r -> ∃ g ma mc ca cc pa pc, la = some ⟨g, 0, none⟩ /\ (∀ j v, (rrC r ma mc ca cc pa pc)[j]? = some v -> w.cell? ⟨g, i * 13 + j, none⟩ = some v) /\ IntsAt w ma r.mcc /\ IntsAt w ca r.cur /\ IntsAt w pa r.routes
theorem RfAt.fr {w w' : World} {q : Nat} {rts : List RouteM} {R : List RuleM} (h : RfAt w q rts R) (hf : F0 w w') : RfAt w' q rts R := by
 have k : ∀ {X o : Nat} {v : Value}, w.cell? ⟨X, o, none⟩ = some v -> w'.cell? ⟨X, o, none⟩ = some v := fun {X o v} hv => (hf.cell (p := ⟨X, o, none⟩) (bL w _ hv) (by simp)).trans hv
 obtain ⟨ra, rc, h1, h2⟩ := h.c1;obtain ⟨la, lc, h3, h4⟩ := h.c2;refine ⟨⟨ra, rc, k h1, fun i t hi => ?_⟩, ⟨la, lc, k h3, fun i r hi => ?_⟩⟩
 ·obtain ⟨g, e1, e2, e3, e4⟩ := h2 i t hi
  exact ⟨g, e1, k e2, k e3, k e4⟩
 ·obtain ⟨g, ma, mc, ca, cc, pa, pc, e1, e2, e3, e4, e5⟩ := h4 i r hi
  exact ⟨g, ma, mc, ca, cc, pa, pc, e1, fun j v hv => k (e2 j v hv), e3.fr hf (by simp), e4.fr hf (by simp), e5.fr hf (by simp)⟩
theorem RrVs.at' {base : Nat} {w : World} : ∀ {rs : List RuleR} {xs : List Value} {j : Nat} {r : RuleR}, RrVs base w rs xs -> rs[j]? = some r -> ∃ c, RrV base w r c /\ ∀ o v, c[o]? = some v -> xs[j * 13 + o]? = some v
 | [], _, j, _, _, hj => by simp at hj
 | r :: rs, xs, 0, r', ⟨c, rest, e, h1, h2⟩, hj => by
  simp at hj;subst hj;refine ⟨c, h1, fun o v ho => ?_⟩;have := (iG.1 ho).1;rw [e, Nat.zero_mul, Nat.zero_add, List.getElem?_append_left this];exact ho
 | r :: rs, xs, j + 1, r', ⟨c, rest, e, h1, h2⟩, hj => by
  rw [List.getElem?_cons_succ] at hj;obtain ⟨c', h3, h4⟩ := RrVs.at' h2 hj;refine ⟨c', h3, fun o v ho => ?_⟩
  have hl : c.length = 13 := by obtain ⟨vm, vc, vp, e1, _⟩ := h1; rw [e1]; rfl
  rw [e, aR (by omega), show (j + 1) * 13 + o - c.length = j * 13 + o from by omega];exact h4 o v ho
theorem RfAt.of {w : World} {B q : Nat} {body : List Tk} {rts : List RouteM} {R : List RuleM} (h : RulesAt w B q body rts R) : RfAt w q rts R := by
 obtain ⟨B2, vr, vl, xs, _, h1, h2, h3, h4, h5⟩ := h.row;obtain ⟨ra, rc, e1⟩ := oL h3;subst e1;obtain ⟨la, lc, e2⟩ := oL h4;subst e2;refine ⟨⟨ra, rc, h1, fun i t hi => ?_⟩, ⟨la, lc, h2, fun i r hi => ?_⟩⟩
 ·have hl := (iG.1 hi).1
  obtain ⟨g, cap, e, _, hg⟩ := h3.form (by omega);injection e with e _ _;subst e;obtain ⟨q0, q1, q2⟩ := rtRow_get rts i t hi
  have hx : ∀ o v, (rtRow rts)[o]? = some v -> w.cell? ⟨g, o, none⟩ = some v := fun o v ho => by
   have := h3.cells (g := g) rfl o v ho;rw [addr_add', Nat.zero_add] at this;exact this
  exact ⟨g, rfl, hx _ _ q0, hx _ _ q1, hx _ _ q2⟩
 ·have hl := (iG.1 hi).1
  obtain ⟨g, cap, e, _, hg⟩ := h4.form (by omega);injection e with e _ _;subst e;obtain ⟨c, ⟨vm, vc, vp, rfl, g1, g2, g3⟩, hc⟩ := h5.at' (j := i) (r := r.ref) (by rw [List.getElem?_map, hi]; rfl);obtain ⟨ma, mc, e3⟩ := oL g1;subst e3;obtain ⟨ca, cc, e4⟩ := oL g2;subst e4;obtain ⟨pa, pc, e5⟩ := oL g3;subst e5
  have er : intRowZ r.ref.routes = intRow r.routes := by unfold intRowZ intRow RuleM.ref; simp
  have el : r.ref.routes.length = r.routes.length := by unfold RuleM.ref; simp
  rw [er] at g3;rw [el] at g3 hc;refine ⟨g, ma, mc, ca, cc, pa, pc, rfl, fun j v hv => ?_, IntsAt.of g1, IntsAt.of g2, IntsAt.of g3⟩;have := h4.cells (g := g) rfl (i * 13 + j) v (hc j v hv);rw [addr_add', Nat.zero_add] at this;exact this
theorem meetC_B (R : List RuleM) (p : PayM) (i : Nat) (r : RuleM) (h : R[i]? = some r) : meetC R p (card6 p.pan) i = meetB r p := by
 unfold meetC meetB;rw [h]
theorem rDecides_any (w : World) (q : Nat) (rts : List RouteM) (R : List RuleM) (p : PayM) (h : RfAt w q rts R) (hb : BookOk rts R) (hp : panOk p.pan = true) :
  Calls Tryz.prog 100 #[.pointer (some ⟨q, 0, none⟩), payV p] w fun e w' => e = .returned (.int .i64 (bestI (bestR (rankF R) (meetC R p (card6 p.pan)) R.length))) /\ F0 w w' := by
 have HF : Hid (F0 w (w.alloc (payO p))) := (Fr.refl _ _).alloc _;have HX : Hid ((w.alloc (payO p)).heap[w.heap.size]? = some (payO p)) := aN w _;have HH : Hid (RfAt (w.alloc (payO p)) q rts R) := h.fr HF.o;have HBK : Hid (BookOk rts R) := hb;have HP : Hid (panOk p.pan = true) := hp;obtain ⟨n, hn⟩ : ∃ n, R.length = n := ⟨_, rfl⟩;have HN : Hid (R.length = n) := hn
 have hn8 : n <= 8 := by have := hb.l8; omega
 unfold payO at HF HX HH;unfold payV;rw [hn];clear h hb hp hn;go_enter Tryz.func100, Tryz.ntmps100;go_upto_region 1 with fail;generalize w.alloc (.cells #[.string p.pan, .int .i64 p.mcc, .int .i64 p.am, .int .i64 p.cur] 35) = W at *;generalize w.heap.size = X at *;go_wp2_with fail
 go_loopg [5, 6, 7] n (fun m bb i _ wr => ∃ k b, k <= n /\ m = n - k /\ bb = .int .i64 (bestI b) /\ i = .int .i64 (k : Nat) /\ Hid (bestR (rankF R) (meetC R p (card6 p.pan)) k = b) /\ Hid (F0 W wr))
 case atStart => exact ⟨0, none, Nat.zero_le _, rfl, rfl, rfl, rfl, Fr.refl _ _⟩
 case round =>
  obtain ⟨k, b, hk, rfl, rfl, rfl, HB, HFr⟩ := hrel;obtain ⟨la, lc, h2, h3⟩ := (HH.o.fr HFr.o).c2;rw [HN.o] at h2;by_cases hlt : k < n
  ·have hki : (k : Int) < (n : Int) := by omega
   obtain ⟨r, hr⟩ : ∃ r, R[k]? = some r := ⟨_, gE (by have := HN.o; omega)⟩;obtain ⟨g, ma, mc, ca, cc, pa, pc, rfl, hcell, hm1, hm2, hm3⟩ := h3 k r hr
   have HR3 : Hid (∀ i r, R[i]? = some r -> wr.cell? ⟨g, i * 13 + 1, none⟩ = some (.int .i64 (rankF R i : Nat))) := fun i r' hi => by
    obtain ⟨g', ma', mc', ca', cc', pa', pc', e, hc', _⟩ := h3 i r' hi;injection e with e;injection e with e _ _;subst e
    have e2 : rankF R i = r'.rank := by unfold rankF; rw [hi]; rfl
    rw [e2];exact hc' 1 _ rfl
   have HMT : Hid (∀ W', Hid (F0 wr W') -> Calls Tryz.prog 87 #[.pointer (some ⟨g, k * 13, none⟩), .agg #[.string p.pan, .int .i64 p.mcc, .int .i64 p.am, .int .i64 p.cur]] W' fun e w' => e = .returned (.bool (meetC R p (card6 p.pan) k)) /\ Hid (F0 wr w') /\ w'.cell? ⟨q, 2, none⟩ = some (.slice (some ⟨g, 0, none⟩) n lc) /\ w'.cell? ⟨X, 0, none⟩ = some (.string p.pan) /\ w'.cell? ⟨X, 1, none⟩ = some (.int .i64 p.mcc) /\ w'.cell? ⟨X, 2, none⟩ = some (.int .i64 p.am) /\ w'.cell? ⟨X, 3, none⟩ = some (.int .i64 p.cur)) := by
    intro W' hf;rw [meetC_B R p k r hr];refine (rMeets_any W' g (k * 13) r ma mc ca cc pa pc rts.length p (fun j v hv => ((hf.o.cell (p := ⟨g, k * 13 + j, none⟩) (bL wr _ (hcell j v hv)) (by simp)).trans (hcell j v hv))) (hm1.fr hf.o (by simp)) (hm2.fr hf.o (by simp)) (HBK.o.rl r (mG hr)) HP.o).mono ?_;rintro e w' ⟨he, h4⟩;have h5 := hf.o.trans h4;have hx := (HFr.o.trans h5).whole HX.o (by simp);exact ⟨he, h5, (h5.cell (p := ⟨q, 2, none⟩) (bL wr _ h2) (by simp)).trans h2, bC hx 0 _ rfl, bC hx 1 _ rfl, bC hx 2 _ rfl, bC hx 3 _ rfl⟩
   have hx := HFr.o.whole HX.o (by simp);have hS : wr.cell? ⟨q, 2, none⟩ = some (.slice (some ⟨g, 0, none⟩) n lc) /\ wr.cell? ⟨X, 0, none⟩ = some (.string p.pan) /\ wr.cell? ⟨X, 1, none⟩ = some (.int .i64 p.mcc) /\ wr.cell? ⟨X, 2, none⟩ = some (.int .i64 p.am) /\ wr.cell? ⟨X, 3, none⟩ = some (.int .i64 p.cur) := ⟨h2, bC hx 0 _ rfl, bC hx 1 _ rfl, bC hx 2 _ rfl, bC hx 3 _ rfl⟩;have HZd : Hid (F0 wr wr.drew) := (Fr.refl _ _).drew;have HRk : Hid (R[k]? = some r) := hr;clear h3 hcell hm1 hm2 hm3 hx hr;obtain ⟨bi, hbi⟩ : ∃ bi, bestI b = bi := ⟨_, rfl⟩;have HBI : Hid (bestI b = bi) := hbi;rw [hbi];clear hbi;obtain ⟨mt, hmt⟩ : ∃ mt, meetC R p (card6 p.pan) k = mt := ⟨_, rfl⟩;have HMTe : Hid (meetC R p (card6 p.pan) k = mt) := hmt;rw [hmt] at HMT;clear hmt;go_upto_region 5 with fail
   go_region_held3 (fun W' => W'.cell? ⟨q, 2, none⟩ = some (.slice (some ⟨g, 0, none⟩) n lc) /\ W'.cell? ⟨X, 0, none⟩ = some (.string p.pan) /\ W'.cell? ⟨X, 1, none⟩ = some (.int .i64 p.mcc) /\ W'.cell? ⟨X, 2, none⟩ = some (.int .i64 p.am) /\ W'.cell? ⟨X, 3, none⟩ = some (.int .i64 p.cur)) (first | assumption | go_keep) (first
    | (go_at_call 87; refine (HMT.o _ (by assumption)).mono ?_; rintro e w7 ⟨rfl, HZE, hS7⟩))
   have l2 := hS7.1
   have r1 : w7.cell? ⟨g, k * 13 + 1, none⟩ = some (.int .i64 (rankF R k : Nat)) := by
    have e := HR3.o k r HRk.o;exact (HZE.o.cell (p := ⟨g, k * 13 + 1, none⟩) (bL wr _ e) (by simp)).trans e
   have HF7 : Hid (F0 W w7) := HFr.o.trans HZE.o;clear hS7 hS HMT
   cases mt with
   | false =>
    have HB2 : Hid (bestR (rankF R) (meetC R p (card6 p.pan)) (k + 1) = b) := by show _ = _; unfold bestR; rw [HMTe.o, HB.o]; simp
    go_upto_region 6 with fail
    go_quiet (fail)
    have HF6 : Hid (F0 W (w7.drewN nq)) := HF7.o.trans ⟨rfl, rfl, rfl, Nat.le_refl _, fun _ _ _ => rfl⟩;go_wp2_with fail;go_roundg (n - (k + 1))
    case measure => omega
    case rel => exact ⟨k + 1, b, by omega, rfl, by rw [HBI.o], by go_num, HB2, HF6⟩
   | true =>
    cases b with
    | none =>
     have HB2 : Hid (bestR (rankF R) (meetC R p (card6 p.pan)) (k + 1) = some k) := by show _ = _; unfold bestR; rw [HMTe.o, HB.o]; simp
     have e1 : bi = -1 := HBI.o.symm;subst e1;go_upto_region 6 with fail
     go_quiet (fail)
     have HF6 : Hid (F0 W (w7.drewN nq)) := HF7.o.trans ⟨rfl, rfl, rfl, Nat.le_refl _, fun _ _ _ => rfl⟩;go_wp2_with fail;go_roundg (n - (k + 1))
     case measure => omega
     case rel => exact ⟨k + 1, (some k), by omega, rfl, rfl, by go_num, HB2, HF6⟩
    | some y =>
     have e1 : bi = (y : Int) := HBI.o.symm;subst e1;have hyk := bestR_ok (rankF R) (meetC R p (card6 p.pan)) k;rw [HB.o] at hyk
     have hyn : (y : Int) < (n : Int) := by have := hyk.1; omega
     have hy0 : ¬ (y : Int) < 0 := by omega
     obtain ⟨ry, hry⟩ : ∃ ry, R[y]? = some ry := ⟨_, gE (by have := HN.o; omega)⟩
     have r2 : w7.cell? ⟨g, y * 13 + 1, none⟩ = some (.int .i64 (rankF R y : Nat)) := by
      have e := HR3.o y ry hry;exact (HZE.o.cell (p := ⟨g, y * 13 + 1, none⟩) (bL wr _ e) (by simp)).trans e
     clear hyk hry;by_cases hlr : rankF R y < rankF R k
     ·have HB2 : Hid (bestR (rankF R) (meetC R p (card6 p.pan)) (k + 1) = some k) := by show _ = _; unfold bestR; rw [HMTe.o, HB.o]; simp [hlr]
      have hlr' : ((rankF R y : Nat) : Int) < ((rankF R k : Nat) : Int) := by omega
      generalize rankF R y = r8 at *;generalize rankF R k = r9 at *;go_upto_region 6 with fail
      go_quiet (fail)
      have HF6 : Hid (F0 W (w7.drewN nq)) := HF7.o.trans ⟨rfl, rfl, rfl, Nat.le_refl _, fun _ _ _ => rfl⟩;go_wp2_with fail;go_roundg (n - (k + 1))
      case measure => omega
      case rel => exact ⟨k + 1, (some k), by omega, rfl, rfl, by go_num, HB2, HF6⟩
     ·have HB2 : Hid (bestR (rankF R) (meetC R p (card6 p.pan)) (k + 1) = some y) := by show _ = _; unfold bestR; rw [HMTe.o, HB.o]; simp [hlr]
      have hlr' : ¬ ((rankF R y : Nat) : Int) < ((rankF R k : Nat) : Int) := by omega
      generalize rankF R y = r8 at *;generalize rankF R k = r9 at *;go_upto_region 6 with fail
      go_quiet (fail)
      have HF6 : Hid (F0 W (w7.drewN nq)) := HF7.o.trans ⟨rfl, rfl, rfl, Nat.le_refl _, fun _ _ _ => rfl⟩;go_wp2_with fail;go_roundg (n - (k + 1))
      case measure => omega
      case rel => exact ⟨k + 1, (some y), by omega, rfl, rfl, by go_num, HB2, HF6⟩
  ·have hki : ¬ (k : Int) < (n : Int) := by omega
   have hkn : k = n := by omega
   subst hkn;go_wp2_with fail;go_ret;exact ⟨ret_int (by rw [HB.o]), HF.o.trans HFr.o⟩
def bestFee (rts : List RouteM) (am : Int) : Option Nat -> Int
 | none => 0
 | some y => feeM rts am y
theorem rDecide_any (w : World) (q : Nat) (rts : List RouteM) (R : List RuleM) (a : Option Addr) (c : Nat) (l : List ByteArray) (p : PayM) (h : RfAt w q rts R) (hb : BookOk rts R) (hs : p.pan.size <= maxLen) (hst : StrsAt w a l) (hl : l.length <= maxLen) :
  Calls Tryz.prog 56 #[.pointer (some ⟨q, 0, none⟩), payV p, .slice a l.length c] w fun e w' => e = .returned (outV (decM rts R p (dnF rts l))) /\ F0 w w' := by
 have HH : Hid (RfAt w q rts R) := h;have HBK : Hid (BookOk rts R) := hb;have HST : Hid (StrsAt w a l) := hst;have HLN : Hid (l.length <= maxLen) := hl
 have HIP : Hid (∀ W, Calls Tryz.prog 86 #[.agg #[.string p.pan, .int .i64 p.mcc, .int .i64 p.am, .int .i64 p.cur]] W fun e w' => e = .returned (.bool (payOk p)) /\ F0 W w') := fun W => rPayment_any W p hs
 have HF0 : Hid (F0 w ((w.alloc (payO p)).alloc (.cells #[.int .i64 0, .string ⟨#[]⟩, .string ⟨#[]⟩] 38))) := ((Fr.refl _ _).alloc _).alloc _;have HP0 : Hid (((w.alloc (payO p)).alloc (.cells #[.int .i64 0, .string ⟨#[]⟩, .string ⟨#[]⟩] 38)).heap[w.heap.size]? = some (payO p)) := ((Fr.refl (fun _ => False) _).alloc _).whole (aN w _) (by simp)
 have HO0 : Hid (((w.alloc (payO p)).alloc (.cells #[.int .i64 0, .string ⟨#[]⟩, .string ⟨#[]⟩] 38)).heap[w.heap.size + 1]? = some (.cells #[.int .i64 0, .string ⟨#[]⟩, .string ⟨#[]⟩] 38)) := by
  have e := aN (w.alloc (payO p)) (.cells #[.int .i64 0, .string ⟨#[]⟩, .string ⟨#[]⟩] 38);rw [show (w.alloc (payO p)).heap.size = w.heap.size + 1 from by simp] at e;exact e
 unfold payV;unfold payO at HF0 HP0 HO0;obtain ⟨ln, hln⟩ : ∃ ln, l.length = ln := ⟨_, rfl⟩;have HLE : Hid (l.length = ln) := hln;rw [hln];clear h hs hb hst hl hln;go_enter Tryz.func56, Tryz.ntmps56;go_upto_region 1 with fail;generalize (w.alloc (.cells #[.string p.pan, .int .i64 p.mcc, .int .i64 p.am, .int .i64 p.cur] 35)).alloc (.cells #[.int .i64 0, .string ⟨#[]⟩, .string ⟨#[]⟩] 38) = W0 at *;obtain ⟨P, hP⟩ : ∃ P, w.heap.size = P := ⟨_, rfl⟩;have HPe : Hid (w.heap.size = P) := hP;rw [hP] at HP0 HO0;rw [hP];clear hP;have x0 := bC HP0.o 0 _ rfl;have x1 := bC HP0.o 1 _ rfl;have x2 := bC HP0.o 2 _ rfl;have x3 := bC HP0.o 3 _ rfl;go_wp2_with fail;refine (HIP.o _).mono ?_;rintro e w1 ⟨rfl, hf1⟩;have HF1 : Hid (F0 w w1) := HF0.o.trans hf1;have HP1 : Hid (w1.heap[P]? = some (.cells #[.string p.pan, .int .i64 p.mcc, .int .i64 p.am, .int .i64 p.cur] 35)) := hf1.whole HP0.o (by simp);have HO1 : Hid (w1.heap[P + 1]? = some (.cells #[.int .i64 0, .string ⟨#[]⟩, .string ⟨#[]⟩] 38)) := hf1.whole HO0.o (by simp)
 have hPw : w.heap.size <= P + 1 := by have := HPe.o; omega
 clear hf1 x0 x1 x2 x3 HP0 HO0
 cases hpo : payOk p with
 | false =>
  have HD : Hid (decM rts R p (dnF rts l) = (1, ByteArray.empty, ByteArray.empty)) := by show _ = _; unfold decM; rw [if_neg (by rw [hpo]; simp)]
  have o0 := bC HO1.o 0 _ rfl;have o1 := bC HO1.o 1 _ rfl;have o2 := bC HO1.o 2 _ rfl;have fo0 := bF HO1.o 0;have fo1 := bF HO1.o 1;have fo2 := bF HO1.o 2;go_wp2_with fail;have e3 := set3 (v0 := .int .i64 1) (v1 := .string ⟨#[]⟩) (v2 := .string ⟨#[]⟩) HO1.o;have s0 := bC e3 0 _ rfl;have s1 := bC e3 1 _ rfl;have s2 := bC e3 2 _ rfl;refine bodyPost_ret (v := .agg #[.int .i64 1, .string ⟨#[]⟩, .string ⟨#[]⟩]) (by simp [results, Tryz.results56, go_sem, s0, s1, s2]) rfl ⟨by rw [HD.o]; rfl, ?_⟩;exact ((HF1.o.setCell (p := ⟨P + 1, 0, none⟩) (Or.inr hPw) _).setCell (p := ⟨P + 1, 1, none⟩) (Or.inr hPw) _).setCell (p := ⟨P + 1, 2, none⟩) (Or.inr hPw) _
 | true =>
  have HPO : Hid (payOk p = true) := hpo
  have hpan : panOk p.pan = true := by have e := HPO.o; rw [payOk_eq, Bool.and_eq_true] at e; exact e.1
  have HAM : Hid (0 <= p.am /\ p.am <= 1000000000) := by
   have e := HPO.o;rw [payOk_eq] at e;simp only [Bool.and_eq_true, rngOk, decide_eq_true_eq] at e;exact e.2.2.1
  obtain ⟨best, hbest⟩ : ∃ best, bestR (rankF R) (meetC R p (card6 p.pan)) R.length = best := ⟨_, rfl⟩;have HBE : Hid (bestR (rankF R) (meetC R p (card6 p.pan)) R.length = best) := hbest
  have HDS : Hid (Calls Tryz.prog 100 #[.pointer (some ⟨q, 0, none⟩), .agg #[.string p.pan, .int .i64 p.mcc, .int .i64 p.am, .int .i64 p.cur]] w1 fun e w' => e = .returned (.int .i64 (bestI best)) /\ F0 w1 w') := by
   rw [<- hbest];exact rDecides_any w1 q rts R p (HH.o.fr HF1.o) HBK.o hpan
  have x0 := bC HP1.o 0 _ rfl;have x1 := bC HP1.o 1 _ rfl;have x2 := bC HP1.o 2 _ rfl;have x3 := bC HP1.o 3 _ rfl;clear hpo hpan hbest;go_wp2_with fail;refine HDS.o.mono ?_;rintro e w2 ⟨rfl, hf2⟩;have HF2 : Hid (F0 w w2) := HF1.o.trans hf2;have HP2 : Hid (w2.heap[P]? = some (.cells #[.string p.pan, .int .i64 p.mcc, .int .i64 p.am, .int .i64 p.cur] 35)) := hf2.whole HP1.o (by simp);have HO2 : Hid (w2.heap[P + 1]? = some (.cells #[.int .i64 0, .string ⟨#[]⟩, .string ⟨#[]⟩] 38)) := hf2.whole HO1.o (by simp);clear hf2 x0 x1 x2 x3 HP1 HO1 HDS
  cases best with
  | none =>
   have HD : Hid (decM rts R p (dnF rts l) = (2, ByteArray.empty, ByteArray.empty)) := by show _ = _; unfold decM; rw [if_pos HPO.o, HBE.o]
   unfold bestI;have o0 := bC HO2.o 0 _ rfl;have o1 := bC HO2.o 1 _ rfl;have o2 := bC HO2.o 2 _ rfl;have fo0 := bF HO2.o 0;have fo1 := bF HO2.o 1;have fo2 := bF HO2.o 2;go_wp2_with fail;have e3 := set3 (v0 := .int .i64 2) (v1 := .string ⟨#[]⟩) (v2 := .string ⟨#[]⟩) HO2.o;have s0 := bC e3 0 _ rfl;have s1 := bC e3 1 _ rfl;have s2 := bC e3 2 _ rfl;refine bodyPost_ret (v := .agg #[.int .i64 2, .string ⟨#[]⟩, .string ⟨#[]⟩]) (by simp [results, Tryz.results56, go_sem, s0, s1, s2]) rfl ⟨by rw [HD.o]; rfl, ?_⟩;exact ((HF2.o.setCell (p := ⟨P + 1, 0, none⟩) (Or.inr hPw) _).setCell (p := ⟨P + 1, 1, none⟩) (Or.inr hPw) _).setCell (p := ⟨P + 1, 2, none⟩) (Or.inr hPw) _
  | some k =>
   have hbk := bestR_ok (rankF R) (meetC R p (card6 p.pan)) R.length;rw [HBE.o] at hbk;obtain ⟨r, hr⟩ : ∃ r, R[k]? = some r := ⟨_, gE hbk.1⟩
   have HDM : Hid (decM rts R p (dnF rts l) = outM rts r (dnF rts l) p.am) := by
    show _ = _
    unfold decM;rw [if_pos HPO.o, HBE.o];simp only [hr]
   have HRO : Hid (RlOk rts.length r) := HBK.o.rl r (mG hr);obtain ⟨la, lc, h2, h3⟩ := (HH.o.fr HF2.o).c2;obtain ⟨g, ma, mc, ca, cc, pa, pc, rfl, hcell, _, _, hm3⟩ := h3 k r hr
   have hki : (k : Int) < (R.length : Int) := by have := hbk.1; omega
   have hk0 : ¬ (k : Int) < 0 := by omega
   have v0 := hcell 0 _ rfl;have v1 := hcell 1 _ rfl;have v2 := hcell 2 _ rfl;have v3 := hcell 3 _ rfl;have v4 := hcell 4 _ rfl;have v5 := hcell 5 _ rfl;have v6 := hcell 6 _ rfl;have v7 := hcell 7 _ rfl;have v8 := hcell 8 _ rfl;have v9 := hcell 9 _ rfl;have v10 := hcell 10 _ rfl;have v11 := hcell 11 _ rfl;have v12 := hcell 12 _ rfl;rw [Nat.add_zero] at v0;have HF3 : Hid (F0 w2 (w2.alloc (.cells #[.string r.name, .int .i64 (r.rank : Nat), .int .i64 (r.digits : Nat), .int .i64 (r.lo : Nat), .int .i64 (r.hi : Nat), .slice ma r.mcc.length mc, .slice ca r.cur.length cc, .bool r.am.isSome, .int .i64 ((r.am.getD (0, 0)).1 : Nat), .int .i64 ((r.am.getD (0, 0)).2 : Nat), .slice pa r.routes.length pc, .bool r.decline, .bool r.cheapest] 170))) := (Fr.refl _ _).alloc _;have HX3 : Hid ((w2.alloc (.cells #[.string r.name, .int .i64 (r.rank : Nat), .int .i64 (r.digits : Nat), .int .i64 (r.lo : Nat), .int .i64 (r.hi : Nat), .slice ma r.mcc.length mc, .slice ca r.cur.length cc, .bool r.am.isSome, .int .i64 ((r.am.getD (0, 0)).1 : Nat), .int .i64 ((r.am.getD (0, 0)).2 : Nat), .slice pa r.routes.length pc, .bool r.decline, .bool r.cheapest] 170)).heap[w2.heap.size]? = some (.cells #[.string r.name, .int .i64 (r.rank : Nat), .int .i64 (r.digits : Nat), .int .i64 (r.lo : Nat), .int .i64 (r.hi : Nat), .slice ma r.mcc.length mc, .slice ca r.cur.length cc, .bool r.am.isSome, .int .i64 ((r.am.getD (0, 0)).1 : Nat), .int .i64 ((r.am.getD (0, 0)).2 : Nat), .slice pa r.routes.length pc, .bool r.decline, .bool r.cheapest] 170)) := aN w2 _;have HI3 : Hid (IntsAt (w2.alloc (.cells #[.string r.name, .int .i64 (r.rank : Nat), .int .i64 (r.digits : Nat), .int .i64 (r.lo : Nat), .int .i64 (r.hi : Nat), .slice ma r.mcc.length mc, .slice ca r.cur.length cc, .bool r.am.isSome, .int .i64 ((r.am.getD (0, 0)).1 : Nat), .int .i64 ((r.am.getD (0, 0)).2 : Nat), .slice pa r.routes.length pc, .bool r.decline, .bool r.cheapest] 170)) pa r.routes) := hm3.fr HF3.o (by simp);unfold bestI;clear hbk h3 hcell hm3 hr;go_upto_region 8 with fail
   generalize w2.alloc (.cells #[.string r.name, .int .i64 (r.rank : Nat), .int .i64 (r.digits : Nat), .int .i64 (r.lo : Nat), .int .i64 (r.hi : Nat), .slice ma r.mcc.length mc, .slice ca r.cur.length cc, .bool r.am.isSome, .int .i64 ((r.am.getD (0, 0)).1 : Nat), .int .i64 ((r.am.getD (0, 0)).2 : Nat), .slice pa r.routes.length pc, .bool r.decline, .bool r.cheapest] 170) = W3 at *;obtain ⟨X, hX⟩ : ∃ X, w2.heap.size = X := ⟨_, rfl⟩;rw [hX] at HX3;rw [hX];have HO3 : Hid (W3.heap[P + 1]? = some (.cells #[.int .i64 0, .string ⟨#[]⟩, .string ⟨#[]⟩] 38)) := HF3.o.whole HO2.o (by simp);have HP3 : Hid (W3.heap[P]? = some (.cells #[.string p.pan, .int .i64 p.mcc, .int .i64 p.am, .int .i64 p.cur] 35)) := HF3.o.whole HP2.o (by simp);have HFw : Hid (F0 w W3) := HF2.o.trans HF3.o;have y0 := bC HX3.o 0 _ rfl;have y11 := bC HX3.o 11 _ rfl;clear v0 v1 v2 v3 v4 v5 v6 v7 v8 v9 v10 v11 v12 hX h2 HF3 HF2 HO2 HP2 HBE
   cases hdc : r.decline with
   | true =>
    have HD : Hid (decM rts R p (dnF rts l) = (3, r.name, ByteArray.empty)) := by show _ = _; rw [HDM.o]; unfold outM; rw [if_pos hdc]
    rw [hdc] at y11;have o0 := bC HO3.o 0 _ rfl;have o1 := bC HO3.o 1 _ rfl;have o2 := bC HO3.o 2 _ rfl;have fo0 := bF HO3.o 0;have fo1 := bF HO3.o 1;have fo2 := bF HO3.o 2;go_wp2_with fail;have e3 := set3 (v0 := .int .i64 3) (v1 := .string r.name) (v2 := .string ⟨#[]⟩) HO3.o;have s0 := bC e3 0 _ rfl;have s1 := bC e3 1 _ rfl;have s2 := bC e3 2 _ rfl;refine bodyPost_ret (v := .agg #[.int .i64 3, .string r.name, .string ⟨#[]⟩]) (by simp [results, Tryz.results56, go_sem, s0, s1, s2]) rfl ⟨by rw [HD.o]; rfl, ?_⟩;exact ((HFw.o.setCell (p := ⟨P + 1, 0, none⟩) (Or.inr hPw) _).setCell (p := ⟨P + 1, 1, none⟩) (Or.inr hPw) _).setCell (p := ⟨P + 1, 2, none⟩) (Or.inr hPw) _
   | false =>
    obtain ⟨res, hres⟩ : ∃ res, bestM r.cheapest (feeM rts p.am) (dnF rts l) r.routes none = res := ⟨_, rfl⟩;have HRES : Hid (bestM r.cheapest (feeM rts p.am) (dnF rts l) r.routes none = res) := hres
    have HDM2 : Hid (decM rts R p (dnF rts l) = outB rts r.name res) := by
     show _ = _
     rw [HDM.o];unfold outM;rw [if_neg (by rw [hdc]; simp), hres]
     cases res <;> rfl
    rw [hdc] at y11;obtain ⟨nR, hnR⟩ : ∃ nR, r.routes.length = nR := ⟨_, rfl⟩;have HNR : Hid (r.routes.length = nR) := hnR;rw [hnR] at HX3
    have hn4 : nR <= 4000 := by have := HRO.o.pl.1; omega
    clear hres hnR hdc;go_wp2_with fail;clear y0 y11
    go_loopg [10, 11, 12, 13, 14, 15] nR (fun m bb ff i _ _ _ wr => ∃ j b, j <= nR /\ m = nR - j /\ bb = .int .i64 (bestI b) /\ ff = .int .i64 (bestFee rts p.am b) /\ i = .int .i64 (j : Nat) /\ Hid (bestM r.cheapest (feeM rts p.am) (dnF rts l) (r.routes.drop j) b = res) /\ Hid (F0 W3 wr) /\ Hid (∀ y, b = some y -> y < rts.length))
    case atStart => exact ⟨0, none, Nat.zero_le _, rfl, rfl, rfl, rfl, HRES, Fr.refl _ _, fun y h => by cases h⟩
    case round =>
     obtain ⟨j, b, hj, rfl, rfl, rfl, rfl, HB, HFr, HBY⟩ := hrel;have HXr := HFr.o.whole HX3.o (by simp);have y0 := bC HXr 0 _ rfl;have y10 := bC HXr 10 _ rfl;have y12 := bC HXr 12 _ rfl;have HFrw : Hid (F0 w wr) := HFw.o.trans HFr.o;obtain ⟨ra, rc, c1, hrt⟩ := (HH.o.fr HFrw.o).c1;by_cases hlt : j < nR
     ·have hji : (j : Int) < (nR : Int) := by omega
      obtain ⟨x, hx⟩ : ∃ x, r.routes[j]? = some x := ⟨_, gE (by have := HNR.o; omega)⟩;have hxr := HRO.o.pl.2 x (mG hx);obtain ⟨t, ht⟩ : ∃ t, rts[x]? = some t := ⟨_, gE hxr⟩;obtain ⟨rg, rfl, t0, t1, t2⟩ := hrt x t ht;obtain ⟨ga, rfl, hc⟩ := (HI3.o.fr HFr.o (by simp)) j x hx
      have hd : r.routes.drop j = x :: r.routes.drop (j + 1) := by
       obtain ⟨h1, h2⟩ := iG.1 hx;rw [dC h1, h2]
      rw [hd] at HB
      have hxi : (x : Int) < (rts.length : Int) := by omega
      have HXL : Hid (x < rts.length) := hxr
      have HDX : Hid (dnF rts l x = inS l t.name) := by show _ = _; unfold dnF; rw [ht]
      have HFX : Hid (feeM rts p.am x = (t.base : Int) + (t.rate : Int) * p.am) := by show _ = _; unfold feeM; rw [ht]
      have hto := HBK.o.rt t (mG ht)
      have hb1 : (t.base : Int) < 1000000000 := by have := hto.2.1; omega
      have hb3 : (0 : Int) <= (t.rate : Int) * p.am := Int.mul_nonneg (by omega) HAM.o.1
      have hb4 : (t.rate : Int) * p.am <= 1000000000000000000 := by
       have := Int.mul_le_mul (a := (t.rate : Int)) (b := p.am) (c := 1000000000) (d := 1000000000) (by have := hto.2.2; omega) HAM.o.2 HAM.o.1 (by omega);omega
      have HFa : Hid (F0 wr (wr.alloc (.cells #[.string t.name, .int .i64 (t.base : Nat), .int .i64 (t.rate : Nat)] 189))) := (Fr.refl _ _).alloc _;have HXa : Hid ((wr.alloc (.cells #[.string t.name, .int .i64 (t.base : Nat), .int .i64 (t.rate : Nat)] 189)).heap[wr.heap.size]? = some (.cells #[.string t.name, .int .i64 (t.base : Nat), .int .i64 (t.rate : Nat)] 189)) := aN wr _
      have HDN : Hid (∀ W', F0 wr W' -> Calls Tryz.prog 101 #[.slice a ln c, .string t.name] W' fun e w' => e = .returned (.bool (dnF rts l x)) /\ w' = W') := fun W' hf => by
       rw [HDX.o, <- HLE.o];exact risDown_any W' a c l t.name (HST.o.fr (HFrw.o.trans hf) (by simp)) HLN.o
      clear hrt hx hxr ht hd hto;obtain ⟨bi, hbi⟩ : ∃ bi, bestI b = bi := ⟨_, rfl⟩;have HBI : Hid (bestI b = bi) := hbi;obtain ⟨bf, hbf⟩ : ∃ bf, bestFee rts p.am b = bf := ⟨_, rfl⟩;have HBF : Hid (bestFee rts p.am b = bf) := hbf;rw [hbi, hbf];clear hbi hbf;have l1 : q < wr.heap.size := bL wr _ c1;have l2 : X < wr.heap.size := bL wr _ y10;have l3 : rg < wr.heap.size := bL wr _ t0;have l4 : ga < wr.heap.size := bL wr _ hc;go_upto_region 15 with fail
      go_region
      go_upto_region 16 with fail;have HFd : Hid (F0 wr (wr.alloc (.cells #[.string t.name, .int .i64 (t.base : Nat), .int .i64 (t.rate : Nat)] 189)).drew) := HFa.o.drew;have HXd : Hid ((wr.alloc (.cells #[.string t.name, .int .i64 (t.base : Nat), .int .i64 (t.rate : Nat)] 189)).drew.heap[wr.heap.size]? = some (.cells #[.string t.name, .int .i64 (t.base : Nat), .int .i64 (t.rate : Nat)] 189)) := HXa.o;clear HFa HXa l1 l2 l3 l4;generalize (wr.alloc (.cells #[.string t.name, .int .i64 (t.base : Nat), .int .i64 (t.rate : Nat)] 189)).drew = W5 at *;generalize wr.heap.size = Xo at *
      have k5 : ∀ {A o : Nat} {v : Value}, wr.cell? ⟨A, o, none⟩ = some v -> W5.cell? ⟨A, o, none⟩ = some v := fun {A o v} hv => (HFd.o.cell (p := ⟨A, o, none⟩) (bL wr _ hv) (by simp)).trans hv
      have z10 := k5 y10;have z12 := k5 y12;have zc := k5 hc;have p2 : wr.cell? ⟨P, 2, none⟩ = some (.int .i64 p.am) := bC (HFr.o.whole HP3.o (by simp)) 2 _ rfl;have zp := k5 p2;have z0 := bC HXd.o 0 _ rfl;have z1 := bC HXd.o 1 _ rfl;have z2 := bC HXd.o 2 _ rfl;have HF5 : Hid (F0 W3 W5) := HFr.o.trans HFd.o;clear y0 y10 y12 hc c1 t0 t1 t2 p2 k5;go_wp2_with fail;refine (HDN.o _ HFd.o).mono ?_;rintro e w6 ⟨rfl, hw⟩;replace hw := hw.symm;subst hw
      cases hq : dnF rts l x with
      | true =>
       have HB2 : Hid (bestM r.cheapest (feeM rts p.am) (dnF rts l) (r.routes.drop (j + 1)) b = res) := by have e := HB.o; unfold bestM at e; rw [hq, if_pos rfl] at e; exact e
       go_wp2_with fail;go_roundg (nR - (j + 1))
       case measure => omega
       case rel => exact ⟨j + 1, b, by omega, rfl, by rw [HBI.o], by rw [HBF.o], by go_num, HB2, HF5, HBY⟩
      | false =>
       have HQ : Hid (dnF rts l x = false) := hq;clear hq;go_upto_region 19 with fail;obtain ⟨fx, hfx⟩ : ∃ fx, (t.base : Int) + (t.rate : Int) * p.am = fx := ⟨_, rfl⟩;rw [hfx] at HFX ⊢;clear hb1 hb3 hb4 z0 z1 z2 zp hfx hxi
       cases b with
       | none =>
        have e1 : bi = -1 := HBI.o.symm;subst e1
        have HB1 : Hid (bestM r.cheapest (feeM rts p.am) (dnF rts l) (r.routes.drop (j + 1)) (some x) = res) := by have e := HB.o; unfold bestM at e; rw [HQ.o, if_neg (by simp)] at e; exact e
        clear HB;go_wp2_with fail;go_roundg (nR - (j + 1))
        case measure => omega
        case rel => exact ⟨j + 1, some x, by omega, rfl, rfl, by show Value.int _ _ = Value.int _ (feeM rts p.am x); rw [HFX.o], by go_num, HB1, HF5, fun y h => by injection h with h; subst h; exact HXL.o⟩
       | some y =>
        have HB1 : Hid (bestM r.cheapest (feeM rts p.am) (dnF rts l) (r.routes.drop (j + 1)) (if (r.cheapest && decide (fx < bf)) = true then some x else some y) = res) := by
         have e := HB.o;unfold bestM at e;rw [HQ.o, if_neg (by simp)] at e;have e2 : bf = feeM rts p.am y := HBF.o.symm;rw [e2, <- HFX.o];exact e
        have hyn : ¬ bi < 0 := by have : bi = (y : Int) := HBI.o.symm; omega
        clear HB;rcases Bool.eq_false_or_eq_true r.cheapest with hch | hch
        rotate_left
        ·rw [hch] at z12
         have HB2 : Hid (bestM r.cheapest (feeM rts p.am) (dnF rts l) (r.routes.drop (j + 1)) (some y) = res) := by have e := HB1.o; simp only [hch, Bool.false_and, Bool.false_eq_true, if_false] at e; rw [hch]; exact e
         clear hch HB1;go_wp2_with fail;go_roundg (nR - (j + 1))
         case measure => omega
         case rel => exact ⟨j + 1, some y, by omega, rfl, by rw [HBI.o], by rw [HBF.o], by go_num, HB2, HF5, HBY⟩
        ·rw [hch] at z12
         by_cases hlf : fx < bf
         ·have HB2 : Hid (bestM r.cheapest (feeM rts p.am) (dnF rts l) (r.routes.drop (j + 1)) (some x) = res) := by have e := HB1.o; simp only [hch, Bool.true_and, hlf, decide_true, if_true] at e; rw [hch]; exact e
          clear hch HB1;go_wp2_with fail;go_roundg (nR - (j + 1))
          case measure => omega
          case rel => exact ⟨j + 1, some x, by omega, rfl, rfl, by show Value.int _ _ = Value.int _ (feeM rts p.am x); rw [HFX.o], by go_num, HB2, HF5, fun y h => by injection h with h; subst h; exact HXL.o⟩
         ·have HB2 : Hid (bestM r.cheapest (feeM rts p.am) (dnF rts l) (r.routes.drop (j + 1)) (some y) = res) := by have e := HB1.o; simp only [hch, Bool.true_and, hlf, decide_false, Bool.false_eq_true, if_false] at e; rw [hch]; exact e
          clear hch HB1;go_wp2_with fail;go_roundg (nR - (j + 1))
          case measure => omega
          case rel => exact ⟨j + 1, some y, by omega, rfl, by rw [HBI.o], by rw [HBF.o], by go_num, HB2, HF5, HBY⟩
     ·have hji : ¬ (j : Int) < (nR : Int) := by omega
      have hbr : b = res := by
       have e := HB.o;rw [dL (by have := HNR.o; omega)] at e;exact e
      subst hbr;have HOr := HFr.o.whole HO3.o (by simp);have hPr : P + 1 < wr.heap.size := (iA.1 HOr).1;have o0 := bC HOr 0 _ rfl;have o1 := bC HOr 1 _ rfl;have o2 := bC HOr 2 _ rfl;have fo0 := bF HOr 0;have fo1 := bF HOr 1;have fo2 := bF HOr 2;generalize bestFee rts p.am b = bf at *
      cases b with
      | none =>
       have HD : Hid (decM rts R p (dnF rts l) = (4, r.name, ByteArray.empty)) := HDM2.o;unfold bestI;go_wp2_with fail;have e3 := set3 (v0 := .int .i64 4) (v1 := .string r.name) (v2 := .string ⟨#[]⟩) HOr;have s0 := bC e3 0 _ rfl;have s1 := bC e3 1 _ rfl;have s2 := bC e3 2 _ rfl;refine bodyPost_ret (v := .agg #[.int .i64 4, .string r.name, .string ⟨#[]⟩]) (by simp [results, Tryz.results56, go_sem, s0, s1, s2]) rfl ⟨by rw [HD.o]; rfl, ?_⟩;exact ((HFrw.o.setCell (p := ⟨P + 1, 0, none⟩) (Or.inr hPw) _).setCell (p := ⟨P + 1, 1, none⟩) (Or.inr hPw) _).setCell (p := ⟨P + 1, 2, none⟩) (Or.inr hPw) _
      | some y =>
       have hyr := HBY.o y rfl;obtain ⟨t, ht⟩ : ∃ t, rts[y]? = some t := ⟨_, gE hyr⟩;obtain ⟨rg, rfl, t0, _, _⟩ := hrt y t ht
       have HD : Hid (decM rts R p (dnF rts l) = (0, r.name, t.name)) := by show _ = _; rw [HDM2.o]; simp only [outB, rtName, ht]
       have hyi : (y : Int) < (rts.length : Int) := by omega
       have hyn : ¬ (y : Int) < 0 := by omega
       unfold bestI;clear hrt ht hyr y12;go_upto_region 24 with fail
       go_region
       go_wp2_with fail;have e3 := set3 (v0 := .int .i64 0) (v1 := .string r.name) (v2 := .string t.name) HOr;have s0 := bC e3 0 _ rfl;have s1 := bC e3 1 _ rfl;have s2 := bC e3 2 _ rfl;refine bodyPost_ret (v := .agg #[.int .i64 0, .string r.name, .string t.name]) (by simp [results, Tryz.results56, go_sem, s0, s1, s2]) rfl ⟨by rw [HD.o]; rfl, ?_⟩;exact (((HFrw.o.setCell (p := ⟨P + 1, 0, none⟩) (Or.inr hPw) _).setCell (p := ⟨P + 1, 1, none⟩) (Or.inr hPw) _).setCell (p := ⟨P + 1, 2, none⟩) (Or.inr hPw) _).drew
