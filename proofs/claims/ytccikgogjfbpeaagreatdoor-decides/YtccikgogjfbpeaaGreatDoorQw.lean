import Derived.Test.YtccikgogjfbpeaaGreatDoorQv
namespace Go.Proofs.YtccikgogjfbpeaaGreatDoor
set_option maxRecDepth 30000
set_option maxHeartbeats 8000000
open Go.RowKit
structure RLs (w0 w : World) (p q X i : Nat) (f : Fa) (cs : Nat -> Value) : Prop where
 wp : WkP w p q i f
 xb : XB w X cs
 fr : Fr (fun j => j = p) w0 w
 xl : w0.heap.size <= X
 ne : X ≠ p
theorem RLs.move {w0 w : World} {p q X i : Nat} {f : Fa} {cs : Nat -> Value} (h : RLs w0 w p q X i f cs) (k : Nat) : RLs w0 (w.setCell ⟨p, 1, none⟩ (.int .i64 k)) p q X k f cs := by
 have hm := h.wp.move k;exact ⟨hm.1, h.xb.fr hm.2 h.ne, h.fr.trans hm.2, h.xl, h.ne⟩
theorem RLs.set {w0 w : World} {p q X i : Nat} {f : Fa} {cs : Nat -> Value} (h : RLs w0 w p q X i f cs) {k : Nat} (hk : k < 13) (v : Value) : RLs w0 (w.setCell ⟨X, k, none⟩ v) p q X i f (upd cs k v) := by
 have hs := h.xb.set hk v;exact ⟨h.wp.fr hs.2 (fun e => h.ne e.symm), hs.1, h.fr.setCell (p := ⟨X, k, none⟩) (Or.inr h.xl) v, h.xl, h.ne⟩
theorem RLs.call {w0 w w' : World} {p q X i i' : Nat} {f f' : Fa} {cs : Nat -> Value} (h : RLs w0 w p q X i f cs) (hp : WkP w' p q i' f') (hf : Fr (fun j => j = p) w w') : RLs w0 w' p q X i' f' cs := ⟨hp, h.xb.fr hf h.ne, h.fr.trans hf, h.xl, h.ne⟩
theorem RLs.look {w0 w w' : World} {p q X i : Nat} {f : Fa} {cs : Nat -> Value} (h : RLs w0 w p q X i f cs) (hf : F0 w w') : RLs w0 w' p q X i f cs := h.call (h.wp.fr hf (by simp)) hf.no
theorem rr_name {base : Nat} {w : World} : ∀ {rs : List RuleR} {xs : List Value} {j : Nat} {r : RuleR}, RrVs base w rs xs -> rs[j]? = some r -> xs[j * 13]? = some (.string r.name)
 | [], _, j, _, _, hj => by simp at hj
 | r :: rs, xs, 0, r', ⟨c, rest, e, h1, h2⟩, hj => by
  simp at hj;subst hj;obtain ⟨vm, vc, vp, e1, _⟩ := h1;rw [e, e1];rfl
 | r :: rs, xs, j + 1, r', ⟨c, rest, e, h1, h2⟩, hj => by
  have := rr_name h2 (j := j) (r := r') (by simpa using hj);obtain ⟨vm, vc, vp, e1, _⟩ := h1
  have l : c.length = 13 := by rw [e1]; rfl
  rw [e, aR (by omega), l, show (j + 1) * 13 - 13 = j * 13 from by omega];exact this
theorem ownsRow_rr {w : World} {base : Nat} {v : Value} {n : Nat} {xs : List Value} (h : w.ownsRow base 170 13 v n xs) :
  ∃ a c, v = .slice a n c /\ ∀ j u, j < n -> xs[j * 13]? = some u -> ∃ g, a = some ⟨g, 0, none⟩ /\ base <= g /\ g < w.heap.size /\ w.cell? ⟨g, j * 13, none⟩ = some u := by
 obtain ⟨a, c, e⟩ := oL h;refine ⟨a, c, e, fun j u hj hu => ?_⟩;obtain ⟨g, cap, e2, hb, hl⟩ := h.form (by omega);rw [e] at e2;injection e2 with e1 _ e3;subst e1 e3;subst e;refine ⟨g, rfl, hb, hl, ?_⟩;have := h.cells (g := g) rfl _ _ hu
 rwa [addr_add, Nat.zero_add] at this
theorem Tryz.infoRRule : (Tryz.prog.info? 170).map (fun i => (i.zero, i.size, i.bytes)) = some (some (.agg #[.string ByteArray.empty, .int .i64 0, .int .i64 0, .int .i64 0, .int .i64 0, .slice none 0 0, .slice none 0 0, .bool false, .int .i64 0, .int .i64 0, .slice none 0 0, .bool false, .bool false]), 13, 152) := by kernel_rfl
def cs0 (nm : ByteArray) : Nat -> Value
 | 0 => .string nm
 | 1 => .int .i64 0
 | 2 => .int .i64 0
 | 3 => .int .i64 0
 | 4 => .int .i64 0
 | 5 => .slice none 0 0
 | 6 => .slice none 0 0
 | 7 => .bool false
 | 8 => .int .i64 0
 | 9 => .int .i64 0
 | 10 => .slice none 0 0
 | _ => .bool false
theorem xb_new (w : World) (nm : ByteArray) : XB (w.alloc (.cells #[.string nm, .int .i64 0, .int .i64 0, .int .i64 0, .int .i64 0, .slice none 0 0, .slice none 0 0, .bool false, .int .i64 0, .int .i64 0, .slice none 0 0, .bool false, .bool false] 170)) w.heap.size (cs0 nm) := by
 have hn := aN w (.cells #[.string nm, .int .i64 0, .int .i64 0, .int .i64 0, .int .i64 0, .slice none 0 0, .slice none 0 0, .bool false, .int .i64 0, .int .i64 0, .slice none 0 0, .bool false, .bool false] 170);refine ⟨fun o ho => bC hn o _ ?_, bF hn⟩
 match o, ho with
 | 0, _ => rfl
 | 1, _ => rfl
 | 2, _ => rfl
 | 3, _ => rfl
 | 4, _ => rfl
 | 5, _ => rfl
 | 6, _ => rfl
 | 7, _ => rfl
 | 8, _ => rfl
 | 9, _ => rfl
 | 10, _ => rfl
 | 11, _ => rfl
 | 12, _ => rfl
theorem RSt.rules {w w5 : World} {B B2 p q g i : Nat} {f : Fa} {body : List Tk} {cv : Nat} {vr vl V : Value} {rts : List RouteM} {rrs : List RuleR} {xs c : List Value} {rr : RuleR} {o : Obj} (h : RSt w B B2 p q g i f body cv vr vl rts rrs xs) (hru : RrV B2 w rr c) (hg : (w.alloc o).drew.grownBy w5 vl.ownBlock) (ho : w5.ownsRow B2 170 13 V (rrs.length + 1) (xs ++ c)) :
  w5.cell? ⟨q, 2, none⟩ = some vl /\ (∀ o, w5.frozen? ⟨q, o, none⟩ = false) /\ RSt (w5.setCell ⟨q, 2, none⟩ V) B B2 p q g i f body cv vr V rts (rrs ++ [rr]) (xs ++ c) /\ Fr (fun j => B <= j) w (w5.setCell ⟨q, 2, none⟩ V) := by
 have hlt : ∀ k, vl.ownBlock = some k -> B2 <= k := fun k hk => (h.lo.lt k hk).1
 have hF : Fr (fun k => vl.ownBlock = some k) w w5 := (((Fr.refl (fun k => vl.ownBlock = some k) w).alloc o).drew).grown hg (fun k hk => Or.inl hk)
 have hn : ∀ k, k < B2 -> ¬ vl.ownBlock = some k := fun k hk e => by have := hlt k e; omega
 have hq : q < w.heap.size := bL w _ h.q1;have hgl : g < w.heap.size := h.wt.lt;have hgB := h.gB;have hpB := h.pB;have hqB := h.qB;have e1 : w5.cell? ⟨q, 2, none⟩ = some vl := (hF.cell (p := ⟨q, 2, none⟩) hq (hn q h.qB.2)).trans h.q2
 have ef : ∀ o, w5.frozen? ⟨q, o, none⟩ = false := fun o => (hF.frozen (p := ⟨q, o, none⟩) hq (hn q h.qB.2)).trans (h.fq o)
 have hwp := h.wp.fr hF (hn p h.pB.2);have hwt := h.wt.fr hF (hn q h.qB.2) (hn g (by omega));have hS : Fr (fun j => j = q) w5 (w5.setCell ⟨q, 2, none⟩ V) := (Fr.refl (fun j => j = q) w5).setCell (p := ⟨q, 2, none⟩) (Or.inl rfl) _;have hlo : (w.alloc o).drew.ownsRow B2 170 13 vl rrs.length xs := (h.lo.alloc _).drew
 have hk : ∀ v n ys, w.ownsRow B2 3 1 v n ys -> (w5.setCell ⟨q, 2, none⟩ V).ownsRow B2 3 1 v n ys := fun v n ys hv => by
  have h3 : (w.alloc o).drew.ownsRow B2 3 1 v n ys := (hv.alloc _).drew;exact oB (h3.kept hg (own_ne h3 hlo (by decide))) (by simp; omega) _
 refine ⟨e1, ef, ⟨hwp.fr hS (fun e => h.ne e.symm), ?_, ?_, World.cell?_setCell_same _ _ _ e1, fun o => by simp [ef o], ?_, ?_, RrVs.snoc (hru.keep hk) (RrVs.keep hk h.ru), h.gB, h.pB, h.qB, h.ne, ?_⟩, ?_⟩
 ·refine ⟨?_, nL hwt.lt hS.size, hwt.row.fr hS hwt.lt (by omega)⟩
  rw [cO _ _ _ _ (by simp)];exact hwt.c0
 ·rw [cO _ _ _ _ (by simp)]
  exact (hF.cell (p := ⟨q, 1, none⟩) hq (hn q h.qB.2)).trans h.q1
 ·have h3 : (w.alloc o).drew.ownsRow B2 189 3 vr rts.length (rtRow rts) := (h.ro.alloc _).drew
  exact oB (h3.kept hg (own_ne h3 hlo (by decide))) (by simp; omega) _
 ·rw [lA]
  exact oB ho (by simp; omega) _
 ·exact Nat.le_trans h.b2 (Nat.le_trans hF.size hS.size)
 ·exact (hF.mono (fun k hk => by have := hlt k hk; omega)).trans (hS.mono (fun k e => by omega))
def szOf : Value -> Nat
 | .string t => t.size
 | _ => 0
theorem short_step {t : ByteArray} (h1 : 1 < t.size) (h2 : bAt t 0 = 48) : shortL t.data.toList = shortL (t.extract 1 t.size).data.toList := by
 rw [Lib.extract_data]
 have hl : t.data.toList.length = t.size := by simp
 have h3 : t.data.toList.getD 0 0 = 48 := by
  unfold bAt at h2;rw [<- UInt8.toNat_inj];have : (48 : UInt8).toNat = 48 := rfl;omega
 match e : t.data.toList, hl with
 | [], hl => simp at hl; omega
 | [_], hl => simp at hl; omega
 | a :: b :: r, hl =>
  rw [e] at h3;simp at h3;subst h3;rw [shortL_zero, List.drop_succ_cons, List.drop_zero, List.take_of_length_le (by simp at hl ⊢; omega)]
theorem short_stop {t : ByteArray} (h : t.size <= 1 \/ bAt t 0 ≠ 48) : shortL t.data.toList = t.data.toList := by
 have hl : t.data.toList.length = t.size := by simp
 match e : t.data.toList, hl with
 | [], _ => rfl
 | [a], _ => exact shortL_one a
 | a :: b :: r, hl =>
  refine shortL_other a _ (fun ha => ?_);rcases h with h | h
  ·simp at hl; omega
  ·apply h
   unfold bAt;rw [e, ha];rfl
theorem short_any (s : ByteArray) (w : World) (hs : s.size <= 3000) :
  Calls Tryz.prog 83 #[.string s] w fun e w' => (∃ t, e = .returned (.string t) /\ t.data.toList = shortL s.data.toList) /\ w' = w := by
 go_enter Tryz.func83, Tryz.ntmps83;go_wp2_with fail
 go_loop [0] (fun v => ∃ t : ByteArray, v = .string t /\ t.size <= 3000 /\ Hid (shortL t.data.toList = shortL s.data.toList)) szOf
 case atStart => exact ⟨s, rfl, hs, rfl⟩
 case round =>
  obtain ⟨t, rfl, ht, HS⟩ := hrel;by_cases h1 : 1 < t.size
  ·have h1' : (1 : Int) < (t.size : Int) := by omega
   have hix := fun w => index_at (P := Tryz.prog) Tryz.underlying9 t 0 (0 : Int) rfl (by omega) w
   have hi2 : (1 : Int) <= (t.size : Int) := by omega
   by_cases h2 : bAt t 0 = 48
   ·have HN := hid ((short_step h1 h2).symm.trans HS.o)
    rw [h2] at hix;clear h2;go_wp2;exact ⟨⟨_, rfl, by rw [ByteArray.size_extract]; omega, HN⟩, by simp [szOf]; omega⟩
   ·have HN := hid ((short_stop (Or.inr h2)).symm.trans HS.o)
    have h2' : (bAt t 0 == 48) = false := by simp [h2]
    generalize bAt t 0 = c at *;clear h2;go_wp2;go_ret;exact ⟨⟨t, rfl, HN.o⟩, rfl⟩
  ·have h1' : ¬ (1 : Int) < (t.size : Int) := by omega
   have HN := hid ((short_stop (Or.inl (by omega))).symm.trans HS.o);go_wp2;go_ret;exact ⟨⟨t, rfl, HN.o⟩, rfl⟩
theorem RText_any (w : World) (q : Nat) (a : Option Addr) (c : Nat) (body : List Tk) (hq : w.cell? ⟨q, 0, none⟩ = some (.slice a body.length c)) (hrow : 0 < body.length -> ∃ g, a = some ⟨g, 0, none⟩ /\ RTk w g body) (hb : body.length <= 3000) (ht : ∀ t, t ∈ body -> t.text.size <= 3000) :
  Calls Tryz.prog 45 #[.pointer (some ⟨q, 0, none⟩)] w fun e w' => (∃ t, e = .returned (.string t) /\ t.data.toList = refText body body.length) /\ w' = w := by
 have HROW := hid hrow;have HTS := hid ht;obtain ⟨n, hn⟩ : ∃ n, body.length = n := ⟨_, rfl⟩;rw [hn] at hq hb ⊢;have HN := hid hn;clear hrow ht hn;go_enter Tryz.func45, Tryz.ntmps45;go_wp2_with fail
 go_loop [3, 4, 5, 6] (fun o fb gb ix => ∃ k ob b1 b2, k <= n /\ o = .string ob /\ fb = .bool b1 /\ gb = .bool b2 /\ ix = .int .i64 (k : Nat) /\ ob.size <= k * 3002 /\ Hid (ob.data.toList ++ emitL b1 b2 (shownFrom body k (n - k)) = refText body n)) (fun _ _ _ ix => n - (intOf ix).toNat)
 case atStart => exact ⟨0, ⟨#[]⟩, true, false, Nat.zero_le _, rfl, rfl, rfl, rfl, by decide, by show _ = _; rfl⟩
 case round =>
  obtain ⟨k, ob, b1, b2, hk, rfl, rfl, rfl, rfl, hob, HR⟩ := hrel;by_cases hlt : k < n
  ·obtain ⟨t, ht⟩ : ∃ t, body[k]? = some t := ⟨_, gE (by have := HN.o; omega)⟩
   obtain ⟨g, hg, hrow⟩ := HROW.o (by have := HN.o; omega);rw [hg] at hq;obtain ⟨r0, r1, r2⟩ := hrow k t ht;have HT := hid (tkAt_of ht);have HRW := hid hrow;have HTZ := hid (HTS.o t (mG ht))
   have hki : (k : Int) < (n : Int) := by omega
   obtain ⟨dg, hdg⟩ : ∃ dg, digB body k = dg := ⟨_, rfl⟩;have HDG := hid hdg;clear hrow ht hg hdg r2;go_upto_region 8 with fail
   go_cut [8] from 10 to 118 (fun s8 wx => s8 = .bool dg /\ wx = w)
   case first =>
    clear r0 r1;by_cases k0 : k = 0
    ·have d0 : decide ((0 : Int) < (k : Int)) = false := by simp; omega
     have d0' : decide (0 < k) = false := by simp; omega
     have d2 : decide ((2 : Int) < (k : Int)) = false := by simp; omega
     have d2' : decide (2 < k) = false := by simp; omega
     have e : dg = false := by rw [<- HDG.o]; unfold digB; rw [d0', d2']; rfl
     subst e;clear k0;go_wp2_with fail;go_meet;exact ⟨rfl, rfl⟩
    ·have d0 : decide ((0 : Int) < (k : Int)) = true := by simp; omega
     have d0' : decide (0 < k) = true := by simp; omega
     obtain ⟨tp, hp⟩ : ∃ tp, body[k - 1]? = some tp := ⟨_, gE (by have := HN.o; omega)⟩;obtain ⟨p0, _, _⟩ := HRW.o (k - 1) tp hp;have HTP := hid (tkAt_of hp);obtain ⟨m, hm⟩ : ∃ m, k - 1 = m := ⟨_, rfl⟩;rw [hm] at p0
     have hw1 : IntKind.i64.wrap ((k : Int) - 1) = ((m : Nat) : Int) := by rw [IntWalk.i64_in _ (by omega)]; omega
     have hmi : (m : Int) < (n : Int) := by omega
     have HM := hid hm
     cases hb1 : (tp.text.toList == [98, 105, 110]) with
     | true =>
      have e : dg = true := by rw [<- HDG.o]; unfold digB isT; rw [HTP.o, hb1, d0']; rfl
      subst e;clear k0 hm hp;go_wp2_with fail;go_meet;exact ⟨rfl, rfl⟩
     | false =>
      by_cases k2 : 2 < k
      ·have d2 : decide ((2 : Int) < (k : Int)) = true := by simp; omega
       have d2' : decide (2 < k) = true := by simp; omega
       cases hb2 : (tp.text.toList == [46, 46]) with
       | false =>
        have e : dg = false := by rw [<- HDG.o]; unfold digB isT; rw [HTP.o, hb1, hb2, d0', d2']; rfl
        subst e;clear k0 hm hp k2;go_wp2_with fail;go_meet;exact ⟨rfl, rfl⟩
       | true =>
        obtain ⟨tq, hq3⟩ : ∃ tq, body[k - 3]? = some tq := ⟨_, gE (by have := HN.o; omega)⟩;obtain ⟨p3, _, _⟩ := HRW.o (k - 3) tq hq3;have HTQ := hid (tkAt_of hq3);obtain ⟨m3, hm3⟩ : ∃ m3, k - 3 = m3 := ⟨_, rfl⟩;rw [hm3] at p3
        have hw3 : IntKind.i64.wrap ((k : Int) - 3) = ((m3 : Nat) : Int) := by rw [IntWalk.i64_in _ (by omega)]; omega
        have hmi3 : (m3 : Int) < (n : Int) := by omega
        have e : dg = (tq.text.toList == [98, 105, 110]) := by rw [<- HDG.o]; unfold digB isT; rw [HTP.o, HTQ.o, hb1, hb2, d0', d2']; rfl
        subst e;clear k0 hm hp k2 hm3 hq3;go_wp2_with fail;go_meet;exact ⟨rfl, rfl⟩
      ·have d2 : decide ((2 : Int) < (k : Int)) = false := by simp; omega
       have d2' : decide (2 < k) = false := by simp; omega
       have e : dg = false := by rw [<- HDG.o]; unfold digB isT; rw [HTP.o, hb1, d0', d2']; rfl
       subst e;clear k0 hm hp k2;go_wp2_with fail;go_meet;exact ⟨rfl, rfl⟩
   case rest =>
    obtain ⟨rfl, hwc⟩ := hcut;replace hwc := hwc.symm;subst hwc;have f1 := rk105 t
    have hSH : shown body k = if decide (t.sort = 1) && !dg then shortL t.text.data.toList else t.text.data.toList := by unfold shown; rw [HT.o, HDG.o]
    have HSH := hid hSH;clear hSH;obtain ⟨bs, hbs⟩ : ∃ bs, decide (t.sort = 1) = bs := ⟨_, rfl⟩;rw [hbs] at f1 HSH;clear hbs;generalize rkind t = KD at *;go_upto_region 9 with fail
    go_cut [81] from 10 to 118 (fun s81 wx => s81 = .bool (bs && !dg) /\ wx = w)
    case first =>
     cases bs with
     | false =>
      go_wp2_with fail;go_meet;exact ⟨rfl, rfl⟩
     | true =>
      go_wp2_with fail;go_meet;exact ⟨rfl, rfl⟩
    case rest =>
     obtain ⟨rfl, hwc⟩ := hcut;replace hwc := hwc.symm;subst hwc;obtain ⟨bd, hbd⟩ : ∃ bd, (bs && !dg) = bd := ⟨_, rfl⟩;rw [hbd] at HSH ⊢;clear hbd f1 r0 r1
     go_upto_if 81 with fail
     go_cut [7] from 10 to 118 (fun s7 wx => (∃ sh : ByteArray, s7 = .string sh /\ Hid (sh.data.toList = shown body k)) /\ wx = w)
     case first =>
      cases bd with
      | false =>
       have HE : Hid (t.text.data.toList = shown body k) := by show _ = _; rw [HSH.o]; rfl
       go_wp2_with fail;go_meet;exact ⟨⟨t.text, rfl, HE⟩, rfl⟩
      | true =>
       go_wp2_with fail;refine (short_any t.text w HTZ.o).mono ?_;rintro e w1 ⟨⟨t', rfl, h⟩, he⟩;replace he := he.symm;subst he
       have HE : Hid (t'.data.toList = shown body k) := by show _ = _; rw [HSH.o, h]; rfl
       clear h;go_wp2_with fail;go_meet;exact ⟨⟨t', rfl, HE⟩, rfl⟩
     case rest =>
      obtain ⟨⟨sh, rfl, HSS⟩, hwc⟩ := hcut;replace hwc := hwc.symm;subst hwc
      have HST : Hid (ob.data.toList ++ emitL b1 b2 (shown body k :: shownFrom body (k + 1) (n - (k + 1))) = refText body n) := by have e := HR.o; rw [shownFrom_step hlt] at e; exact e
      obtain ⟨tl, htl⟩ : ∃ tl, tightB sh.data.toList = tl := ⟨_, rfl⟩;have HTL := hid htl;obtain ⟨e59, h59⟩ : ∃ b, (sh.toList == [59]) = b := ⟨_, rfl⟩;obtain ⟨e46, h46⟩ : ∃ b, (sh.toList == [46, 46]) = b := ⟨_, rfl⟩
      have H59 : Hid ((sh.data.toList == [59]) = e59) := by show _ = _; rw [<- ByteArray.toList_eq]; exact h59
      have H46 : Hid ((sh.data.toList == [46, 46]) = e46) := by show _ = _; rw [<- ByteArray.toList_eq]; exact h46
      have htl2 : ((sh.toList == [59]) || (sh.toList == [44]) || (sh.toList == [58]) || (sh.toList == [46, 46])) = tl := by rw [<- htl]; unfold tightB; rw [ByteArray.toList_eq]
      go_upto_region 11 with fail
      go_cut [9] from 10 to 118 (fun s9 wx => s9 = .bool tl /\ wx = w)
      case first =>
       clear htl
       cases e59 with
       | true =>
        have e : tl = true := by rw [<- htl2, h59]; rfl
        subst e;go_wp2_with fail;go_meet;exact ⟨rfl, rfl⟩
       | false =>
        cases h44 : (sh.toList == [44]) with
        | true =>
         have e : tl = true := by rw [<- htl2, h44]; simp
         subst e;go_wp2_with fail;go_meet;exact ⟨rfl, rfl⟩
        | false =>
         cases h58 : (sh.toList == [58]) with
         | true =>
          have e : tl = true := by rw [<- htl2, h58]; simp
          subst e;go_wp2_with fail;go_meet;exact ⟨rfl, rfl⟩
         | false =>
          have e : tl = e46 := by rw [<- htl2, h59, h44, h58, h46]; rfl
          subst e;go_wp2_with fail;go_meet;exact ⟨rfl, rfl⟩
      case rest =>
       obtain ⟨rfl, hwc⟩ := hcut;replace hwc := hwc.symm;subst hwc;clear htl htl2;go_upto_region 12 with fail
       go_cut [107] from 10 to 118 (fun s wx => s = .bool (!b1 && !b2 && !tl) /\ wx = w)
       case first =>
        cases b1 with
        | true => go_wp2_with fail; go_meet; exact ⟨rfl, rfl⟩
        | false =>
         cases b2 with
         | true => go_wp2_with fail; go_meet; exact ⟨rfl, rfl⟩
         | false => go_wp2_with fail; go_meet; exact ⟨rfl, rfl⟩
       case rest =>
        obtain ⟨rfl, hwc⟩ := hcut;replace hwc := hwc.symm;subst hwc;obtain ⟨sp, hsp⟩ : ∃ sp, (!b1 && !b2 && !tl) = sp := ⟨_, rfl⟩;rw [hsp]
        have HEM : Hid (emitL b1 b2 (shown body k :: shownFrom body (k + 1) (n - (k + 1))) = (if sp then [32] else []) ++ (sh.data.toList ++ (if e59 then 10 :: emitL true e46 (shownFrom body (k + 1) (n - (k + 1))) else emitL false e46 (shownFrom body (k + 1) (n - (k + 1)))))) := by
         show _ = _
         rw [<- HSS.o];simp only [emitL];rw [HTL.o, hsp, H59.o, H46.o]
        clear hsp
        have hsh : sh.size <= 3000 := by
         have e1 : sh.data.toList.length = sh.size := by simp
         have e2 : (shown body k).length <= t.text.size := by
          rw [HSH.o]
          have e3 : t.text.data.toList.length = t.text.size := by simp
          split
          ·rcases Nat.eq_zero_or_pos t.text.data.toList.length with h0 | h0
           ·rw [List.length_eq_zero_iff.1 h0]; simp [shortL]
           ·have := (shortL_pos t.text.data.toList (fun e => by rw [e] at h0; simp at h0)).2
            omega
          ·omega
         rw [HSS.o] at e1;have := HTZ.o;omega
        have hob2 : ob.size <= 10000000 := by omega
        have z1 : (ob ++ (⟨#[32]⟩ : ByteArray)).size = ob.size + 1 := by rw [ByteArray.size_append]; rfl
        have z2 : (ob ++ (⟨#[32]⟩ : ByteArray) ++ sh).size = ob.size + 1 + sh.size := by rw [ByteArray.size_append, z1]
        have z3 : (ob ++ sh).size = ob.size + sh.size := by rw [ByteArray.size_append]
        have HOB := hid hob;have z0 : (⟨#[32]⟩ : ByteArray).size = 1 := rfl;have z10 : (⟨#[10]⟩ : ByteArray).size = 1 := rfl;clear hob
        cases sp
        all_goals
         cases e59
         all_goals
          go_wp2;refine ⟨⟨k + 1, _, _, _, by omega, rfl, rfl, rfl, by go_num, by have := HOB.o; simp only [ByteArray.size_append, z0, z10]; omega, ?_⟩, by simp [intOf]; omega⟩
          show _ = _
          rw [<- HST.o, HEM.o];simp
  ·have hki : ¬ (k : Int) < (n : Int) := by omega
   have HE : Hid (ob.data.toList = refText body n) := by
    have e := HR.o;rw [show n - k = 0 from by omega] at e;simp only [shownFrom, emitL, List.append_nil] at e;exact e
   go_wp2;go_ret;exact ⟨⟨ob, rfl, HE.o⟩, rfl⟩
section
variable {body : List Tk} {en : Tk}
theorem tk_body (he : en.sort = 3) {i : Nat} (h : (tkAt (body ++ [en]) i).sort ≠ 3) : body[i]? = some (tkAt (body ++ [en]) i) := by
 unfold tkAt at h ⊢;rw [gD] at h ⊢;by_cases hi : i < body.length
 ·rw [List.getElem?_append_left hi, gE hi]
  rfl
 ·exfalso
  apply h;rw [aR (by omega)];by_cases h0 : i - body.length = 0
  ·rw [h0]; exact he
  ·rw [List.getElem?_eq_none (by simp; omega)]; rfl
theorem take_at (he : en.sort = 3) {i want : Nat} {t : Tk} {k : Nat} (hw : want ≠ 3) (h : takeM (body ++ [en]) i want = .ok (t, k)) : body[i]? = some t /\ t.sort = want /\ k = i + 1 := by
 obtain ⟨rfl, h2, h3⟩ := takeM_ok h;exact ⟨tk_body he (by rw [h2]; exact hw), h2, h3⟩
theorem fix_at (he : en.sort = 3) {i : Nat} {m : ByteArray} (h : isFix (tkAt (body ++ [en]) i) m = true) : ∃ t, body[i]? = some t /\ (t.text.toList == m.data.toList) = true /\ t.sort = 2 := by
 simp only [isFix, Bool.and_eq_true, decide_eq_true_eq] at h;exact ⟨_, tk_body he (by rw [h.1]; decide), by rw [<- ByteArray.toList_eq m]; exact h.2, h.1⟩
theorem expect_at (he : en.sort = 3) {i : Nat} {m : ByteArray} {u : Unit} {k : Nat} (h : expectM (body ++ [en]) i m = .ok (u, k)) : (∃ t, body[i]? = some t /\ (t.text.toList == m.data.toList) = true /\ t.sort = 2) /\ k = i + 1 := by
 refine ⟨?_, expectM_ok h⟩;unfold expectM at h
 split at h
 ·rename_i hf; exact fix_at he hf
 ·cases h
theorem nofix_at (he : en.sort = 3) (hl : ∀ t, t ∈ body -> LitTk t) {i : Nat} {m : ByteArray} (hm : m ∈ lits) (hx : (tkAt (body ++ [en]) i).sort ≠ 3) (h : ¬ isFix (tkAt (body ++ [en]) i) m = true) : ∃ t, body[i]? = some t /\ (t.text.toList == m.data.toList) = false := by
 have hb := tk_body he hx;refine ⟨_, hb, ?_⟩;have hL := hl _ (mG hb) m hm;rw [<- ByteArray.toList_eq m, <- hL]
 simpa using h
theorem some_sort (hs : ∀ t, t ∈ body -> t.sort ≠ 3) {i : Nat} {t : Tk} (h : body[i]? = some t) : (tkAt (body ++ [en]) i).sort ≠ 3 := by
 have hi := (iG.1 h).1
 have e : tkAt (body ++ [en]) i = t := by
  unfold tkAt;rw [gD, List.getElem?_append_left hi, h];rfl
 rw [e];exact hs t (mG h)
theorem rest_at (he : en.sort = 3) {want : Nat} (hw : want ≠ 3) : ∀ (m i : Nat) (acc l : List Tk) (k : Nat), (body ++ [en]).length - i = m -> restM (body ++ [en]) i want acc = .ok (l, k) ->
  ∃ r, l = acc ++ r /\ (∀ j t, r[j]? = some t -> body[i + 1 + 2 * j]? = some t) /\ (∀ j, j < r.length -> ∃ t, body[i + 2 * j]? = some t /\ (t.text.toList == [44]) = true) /\ k = i + 2 * r.length /\ ¬ isFix (tkAt (body ++ [en]) k) mComma = true := by
 intro m
 induction m using Nat.strongRecOn with
 | ind m ih =>
  intro i acc l k hm hr;rw [restM] at hr
  split at hr
  ·rename_i hq
   have hlt := isFix_lt hq
   split at hr
   ·cases hr
   ·rename_i t i' ht
    obtain ⟨h1, h2, h3⟩ := take_at he hw ht;obtain ⟨r, e1, e2, e3, e4, e5⟩ := ih ((body ++ [en]).length - i') (by omega) i' _ l k rfl hr;obtain ⟨tc, c1, c2, _⟩ := fix_at he hq;refine ⟨t :: r, by rw [e1, List.append_assoc]; rfl, fun j u hj => ?_, fun j hj => ?_, by simp only [List.length_cons]; omega, e5⟩
    ·cases j with
     | zero => simp at hj; subst hj; exact h1
     | succ j =>
      have := e2 j u (by simpa using hj);rw [show i + 1 + 2 * (j + 1) = i' + 1 + 2 * j from by omega];exact this
    ·cases j with
     | zero => exact ⟨tc, c1, c2⟩
     | succ j =>
      obtain ⟨u, u1, u2⟩ := e3 j (by simpa using hj);rw [show i + 2 * (j + 1) = i' + 2 * j from by omega];exact ⟨u, u1, u2⟩
  ·rename_i hq
   injection hr with hr;injection hr with h1 h2;subst h1 h2;exact ⟨[], by simp, fun j t hj => by simp at hj, fun j hj => by simp at hj, by simp, hq⟩
theorem mComma_lit : mComma ∈ lits := by simp [lits]
theorem list_at (he : en.sort = 3) (hl : ∀ t, t ∈ body -> LitTk t) {i want : Nat} (hw : want ≠ 3) {l : List Tk} {k : Nat} (h : listM (body ++ [en]) (i + 1) want = .ok (l, k)) (hx : (tkAt (body ++ [en]) k).sort ≠ 3) : LAt body i l /\ k = i + 2 * l.length := by
 unfold listM at h
 split at h
 ·cases h
 ·rename_i t i1 ht
  obtain ⟨h1, h2, h3⟩ := take_at he hw ht;obtain ⟨r, e1, e2, e3, e4, e5⟩ := rest_at he hw _ i1 [t] l k rfl h;have el : l = t :: r := e1;subst el
  have ek : k = i + 2 * (t :: r).length := by simp only [List.length_cons]; omega
  refine ⟨⟨fun j u hj => ?_, fun j hj1 hj2 => ?_, ?_, by simp⟩, ek⟩
  ·cases j with
   | zero => simp at hj; subst hj; exact h1
   | succ j =>
    have := e2 j u (by simpa using hj);rw [show i + 1 + 2 * (j + 1) = i1 + 1 + 2 * j from by omega];exact this
  ·cases j with
   | zero => omega
   | succ j =>
    obtain ⟨u, u1, u2⟩ := e3 j (by simpa using hj2);rw [show i + 2 * (j + 1) = i1 + 2 * j from by omega];exact ⟨u, u1, u2⟩
  ·rw [<- ek]
   exact nofix_at he hl mComma_lit hx e5
theorem optList_at (he : en.sort = 3) (hl : ∀ t, t ∈ body -> LitTk t) (hs : ∀ t, t ∈ body -> t.sort ≠ 3) {i : Nat} {kw : ByteArray} (hkw : kw ∈ lits) {l : List Tk} {k : Nat} (h : optList (body ++ [en]) i kw = .ok (l, k)) (hx : (tkAt (body ++ [en]) k).sort ≠ 3) : OptL body i kw.data.toList l /\ k = i + 2 * l.length /\ (tkAt (body ++ [en]) i).sort ≠ 3 := by
 unfold optList at h
 split at h
 ·rename_i hf
  obtain ⟨t, h1, h2, _⟩ := fix_at he hf;obtain ⟨a, b⟩ := list_at he hl (by decide) h hx;exact ⟨⟨t, h1, Or.inl ⟨h2, a⟩⟩, b, some_sort hs h1⟩
 ·rename_i hf
  injection h with h;injection h with h1 h2;subst h1 h2;obtain ⟨t, h1, h2⟩ := nofix_at he hl hkw hx hf;exact ⟨⟨t, h1, Or.inr ⟨h2, rfl⟩⟩, by simp, hx⟩
theorem optPair_at (he : en.sort = 3) (hl : ∀ t, t ∈ body -> LitTk t) (hs : ∀ t, t ∈ body -> t.sort ≠ 3) {i : Nat} {o : Option (Tk × Tk)} {k : Nat} (h : optPair (body ++ [en]) i kwAmount = .ok (o, k)) (hx : (tkAt (body ++ [en]) k).sort ≠ 3) : OptA body i [97, 109, 111, 117, 110, 116] o /\ k = i + amLen o /\ (tkAt (body ++ [en]) i).sort ≠ 3 := by
 unfold optPair at h
 split at h
 ·rename_i hf
  obtain ⟨t, h1, h2, _⟩ := fix_at he hf;obtain ⟨ab, j, hp, e⟩ := bI h;injection e with e;injection e with e1 e2;subst e1 e2;rw [pairM_bind] at hp;obtain ⟨a, j1, g1, hp⟩ := bI hp;obtain ⟨_, j2, g2, hp⟩ := bI hp;obtain ⟨b, j3, g3, hp⟩ := bI hp;injection hp with hp;injection hp with hp1 hp2;obtain ⟨a1, a2, a3⟩ := take_at he (by decide) g1;have a4 := (expect_at he g2).2;obtain ⟨b1, b2, b3⟩ := take_at he (by decide) g3;subst hp1;refine ⟨⟨t, h1, h2, a1, ?_⟩, by simp only [amLen]; omega, some_sort hs h1⟩;rw [show i + 3 = j2 from by omega];exact b1
 ·rename_i hf
  injection h with h;injection h with h1 h2;subst h1 h2;obtain ⟨t, h1, h2⟩ := nofix_at he hl (m := kwAmount) (by simp [lits]) hx hf;exact ⟨⟨t, h1, h2⟩, rfl, hx⟩
theorem action_at (he : en.sort = 3) (hl : ∀ t, t ∈ body -> LitTk t) (hs : ∀ t, t ∈ body -> t.sort ≠ 3) {ia : Nat} {a : ActE} {k : Nat} (h : actionM (body ++ [en]) (ia + 1) = .ok (a, k)) (hx : (tkAt (body ++ [en]) k).sort ≠ 3) : ActAt body ia a k := by
 unfold actionM at h
 split at h
 ·rename_i hf
  obtain ⟨t, h1, h2, _⟩ := fix_at he hf;injection h with h;injection h with e1 e2;subst e1 e2;exact ⟨t, h1, Or.inl ⟨rfl, h2, rfl⟩⟩
 ·rename_i hf
  split at h
  ·rename_i hf2
   obtain ⟨t, h1, h2, _⟩ := fix_at he hf2;obtain ⟨l, j, g, e⟩ := bI h;injection e with e;injection e with e1 e2;subst e1 e2;obtain ⟨c, d⟩ := list_at he hl (by decide) g hx;obtain ⟨t', u1, u2⟩ := nofix_at he hl (m := kwDecline) (by simp [lits]) (some_sort hs h1) hf;rw [h1] at u1;injection u1 with u1;subst u1;exact ⟨t, h1, Or.inr ⟨rfl, u2, h2, ia + 1, rfl, c, d⟩⟩
  ·rename_i hf2
   obtain ⟨l, j, g, e⟩ := bI h;injection e with e;injection e with e1 e2;subst e1 e2
   have hx1 : (tkAt (body ++ [en]) (ia + 1)).sort ≠ 3 := by
    unfold listM at g
    split at g
    ·cases g
    ·rename_i t i1 ht
     exact some_sort hs (take_at he (by decide) ht).1
   obtain ⟨c, d⟩ := list_at he hl (by decide) g hx;obtain ⟨t, h1, u2⟩ := nofix_at he hl (m := kwDecline) (by simp [lits]) hx1 hf;obtain ⟨t', u3, u4⟩ := nofix_at he hl (m := kwCheapest) (by simp [lits]) hx1 hf2;rw [h1] at u3;injection u3 with u3;subst u3;exact ⟨t, h1, Or.inr ⟨rfl, u2, u4, ia, rfl, c, d⟩⟩
theorem rule_at (he : en.sort = 3) (hl : ∀ t, t ∈ body -> LitTk t) (hs : ∀ t, t ∈ body -> t.sort ≠ 3) {i : Nat} {r : RuleE} {k : Nat} (h : ruleM (body ++ [en]) (i + 1) = .ok (r, k)) (hx : (tkAt (body ++ [en]) k).sort ≠ 3) (ho : EntOk (.rule r)) : RuleAt body i r k := by
 unfold ruleM at h;obtain ⟨nm, j1, g1, h⟩ := bI h;obtain ⟨rk, j2, g2, h⟩ := bI h;obtain ⟨_, j3, g3, h⟩ := bI h;obtain ⟨_, j4, g4, h⟩ := bI h;obtain ⟨bn, j5, g5, h⟩ := bI h;obtain ⟨mc, j6, g6, h⟩ := bI h;obtain ⟨am, j7, g7, h⟩ := bI h;obtain ⟨cu, j8, g8, h⟩ := bI h;obtain ⟨_, j9, g9, h⟩ := bI h;obtain ⟨ac, j10, g10, h⟩ := bI h;injection h with h;injection h with e1 e2;subst e1 e2;obtain ⟨a1, a2, a3⟩ := take_at he (by decide) g1;obtain ⟨b1, b2, b3⟩ := take_at he (by decide) g2;obtain ⟨_, c3⟩ := expect_at he g3;obtain ⟨_, c4⟩ := expect_at he g4;rw [pairM_bind] at g5;obtain ⟨p1, q1, d1, g5⟩ := bI g5;obtain ⟨_, q2, d2, g5⟩ := bI g5;obtain ⟨p2, q3, d3, g5⟩ := bI g5;injection g5 with g5;injection g5 with f1 f2;subst f1;obtain ⟨x1, x2, x3⟩ := take_at he (by decide) d1;have x4 := (expect_at he d2).2;obtain ⟨y1, y2, y3⟩ := take_at he (by decide) d3;obtain ⟨⟨ta, z1, _, _⟩, z2⟩ := expect_at he g9;obtain ⟨u1, u2, u3⟩ := optList_at he hl hs (kw := kwCur) (by simp [lits]) g8 (some_sort hs z1);obtain ⟨v1, v2, v3⟩ := optPair_at he hl hs g7 u3;obtain ⟨w1, w2, w3⟩ := optList_at he hl hs (kw := kwMcc) (by simp [lits]) g6 v3
 have k5 : j5 = i + 8 := by omega
 subst k5;rw [z2] at g10;have hA := action_at he hl hs g10 hx;rw [w2] at v1
 have k7 : j7 = i + 8 + 2 * mc.length + amLen am := by omega
 rw [k7] at u1
 have k8 : j8 = i + 8 + 2 * mc.length + amLen am + 2 * cu.length := by omega
 rw [k8] at hA;refine ⟨a1, ?_, ?_, ?_, w1, v1, u1, hA, ho.2.1, ho.2.2.1, ho.2.2.2.1, ho.2.2.2.2.1, ho.2.2.2.2.2.1, ho.2.2.2.2.2.2.1⟩
 ·rw [show i + 2 = j1 from by omega]; exact b1
 ·rw [show i + 5 = j4 from by omega]; exact x1
 ·rw [show i + 7 = q2 from by omega]; exact y1
end
