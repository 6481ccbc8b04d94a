/- The reference: rule, from its guards on. -/
import Derived.Test.YtccikgogjfbpeaaGreatDoorQw
namespace Go.Proofs.YtccikgogjfbpeaaGreatDoor
open Go.RowKit

def amCs (cs : Nat → Value) (o : Option (Tk × Tk)) : Nat → Value :=
 match o with
 | none => cs
 | some ab => upd (upd (upd cs 7 (.bool true)) 8 (.int .i64 (valOf ab.1))) 9 (.int .i64 (valOf ab.2))
theorem view_of {w W : World} {B B2 p q g i i' X : Nat} {f f' : Fa} {body : List Tk} {cv : Nat} {vr vl : Value} {rts : List RouteM} {rrs : List RuleR} {xs : List Value} {cs : Nat → Value} (h : RSt w B B2 p q g i f body cv vr vl rts rrs xs) (hL : RLs w W p q X i' f' cs) (h7 : rts.length ≤ 7) : ∃ va n vc, View W p q g X body cv va n vc rts := by
 obtain ⟨va, vc, e, hrow⟩ := ownsRow_rrt h.ro
 have hq : q < w.heap.size := World.block_lt_of_cell? w _ h.q1
 have hgl := h.wt.lt
 have hgp : g ≠ p := by have := h.gB; have := h.pB; omega
 have hxl := hL.xl
 refine ⟨va, rts.length, vc, h.wt.fr hL.fr h.ne hgp, ?_, ⟨h.ne, hgp, by omega, by omega, hL.ne⟩, ⟨rfl, h7⟩, fun j r hj => ?_⟩
 ·have e1 := (hL.fr.cell (p := ⟨q, 1, none⟩) hq h.ne).trans h.q1
  rw [e] at e1
  exact e1
 ·obtain ⟨g3, h1, h2, h3, h4⟩ := hrow j r hj
  have hp3 : g3 ≠ p := by have := h.pB; omega
  exact ⟨g3, h1, hp3, by omega, Nat.lt_of_lt_of_le h3 hL.fr.size, (hL.fr.cell (p := ⟨g3, j * 3, none⟩) h3 hp3).trans h4⟩
theorem held_skip {P : Program} {l : List Oper} {Q : Exit → Act → World → Prop} {md : Region.Mode} {S : World → Prop} (i : Nat) {oi : Oper} {fuel : Nat} {listed : Array Bool} {a : Act} {w : World} (hi : nth l i = some oi)
  (hs : Region.noSelect l.toArray = true) (hf : Region.free md l.toArray listed i = true) (hr : (Region.ready md l.toArray listed).contains i = true)
  (hQ : ∀ c a w, Q (.panic c) (a.put oi.dst undef) w → Q (.panic c) a w) (hw : Region.wanted oi (yielded l.toArray a.tmps) = false) (hS : S w)
  (h : wpAnyH P md l.toArray Q S fuel (listed.setIfInBounds i true) (a.put oi.dst undef) w) : wpAnyH P md l.toArray Q S (fuel + 1) listed a w :=
 wpAnyH_take ((nth_eq l i).trans hi) hs hf hr hQ (Or.inr ⟨hw, rfl⟩) hS h
theorem at_step {P : Program} {F : Nat} {args : Array Value} {u : Value} {w17 W : World} {Q : Ending → World → Prop} (H : ∀ W, Fr (fun _ => False) w17 W → Calls P F args W fun e w' => e = .returned u ∧ Fr (fun _ => False) W w') (hW : Fr (fun _ => False) w17 W) (k : ∀ w', Fr (fun _ => False) w17 w' → Q (.returned u) w') : Calls P F args W Q :=
 (H W hW).mono (by rintro e w' ⟨rfl, hf⟩; exact k w' (hW.trans hf))
/-- Does a code begin with region n? -/
def headIs (n : Nat) : Code → Bool
 | .region m _ _ => m == n
 | .seq a _ => headIs n a
 | _ => false
/-- The rest of a chain, from region n on. -/
def codeFrom (n : Nat) : Code → Option Code
 | .seq a b => if headIs n a then some (.seq a b) else codeFrom n b
 | _ => none
def codeAt (f : Func) (n : Nat) : Code := (f.body.bind (codeFrom n)).getD .skip
set_option maxRecDepth 1000000 in
set_option maxHeartbeats 60000000 in
theorem wrule_tail17 (w : World) (B B2 p q g i : Nat) (f : Fa) (body : List Tk) (cv : Nat) (vr vl : Value) (rts : List RouteM) (rrs : List RuleR) (xs : List Value) (r : RuleE) (j5 : Nat) (hb : body.length ≤ 3000) (h7 : rts.length ≤ 7)
  (HS0 : Hid (RSt w B B2 p q g i f body cv vr vl rts rrs xs)) (HA : Hid (RuleAt body i r j5)) (HQ : Hid (q ≠ p ∧ g ≠ p)) (HTW : Hid (∀ W, Fr (fun j => j = p) w W → WkT W q g body cv)) (la : Option Addr) (lc : Nat) (HVL : Hid (vl = .slice la rrs.length lc)) (n : Nat) (HN : Hid (rrs.length = n)) (b8 : Bool) (HB8 : Hid (decide (8 ≤ n) = b8)) (hn8 : n ≤ 8) (HPL : Hid (p < w.heap.size)) (X : Nat)
  (fn : Fa) (HFN : Hid (fn = refNames r.name.text r.name.line (noteM f b8 6 r.name.line) (rrs.map RuleR.name))) (x : Nat) (HXE : Hid (x = i + 1)) (f6 : Fa) (y : Nat) (HF6 : Hid (f6 = noteM fn (decide (1000 < valOf r.rank)) 5 r.rank.line)) (HY : Hid (y = x + 1 + 1)) (v1 : Nat) (HV1 : Hid (v1 = valOf r.rank)) (cs1 : Nat → Value) (HCS1 : Hid (cs1 = upd (cs0 r.name.text) 1 (.int .i64 v1)))
  (cs2 : Nat → Value) (s1 : Nat) (HCS2 : Hid (cs2 = upd cs1 2 (.int .i64 s1))) (HS1 : Hid (s1 = r.bin.1.text.size)) (b6 : Bool) (HB6 : Hid (decide (6 < s1) = b6)) (f11 : Fa) (HF11 : Hid (f11 = noteM f6 b6 5 r.bin.1.line)) (v3 : Nat) (HV3 : Hid (v3 = valOf r.bin.1)) (cs3 : Nat → Value) (HCS3 : Hid (cs3 = upd cs2 3 (.int .i64 v3))) (z : Nat) (HZ : Hid (z = y + 2)) (hzb : z + 3 ≤ 3000)
  (v4 : Nat) (HV4 : Hid (v4 = valOf r.bin.2)) (cs4 : Nat → Value) (HCS4 : Hid (cs4 = upd cs3 4 (.int .i64 v4))) (s2 : Nat) (HS2 : Hid (s2 = r.bin.2.text.size)) (wc : World) (hcut : Hid (RLs w wc p q X (z + 2) (noteM f11 (decide (6 < s2) || decide (s2 ≠ s1) || decide (v4 < v3)) 5 r.bin.2.line) cs4))
  (u1 u4 u5 u6 u7 u8 u9 u10 u11 u12 u13 u14 u15 u16 u17 u18 u19 u20 u21 u22 u23 u24 u25 u26 u27 u28 u29 u30 u31 u32 u33 u34 u35 u36 u37 u38 u39 u40 u41 u42 u43 u44 u45 u46 u47 u48 u49 u50 u51 u52 u53 u54 u55 u56 u57 u58 u59 u60 u61 u62 u63 u64 u65 u66 u67 u68 u69 u70 u71 u72 u73 u74 u75 u76 u77 u78 u79 u80 u81 u82 u83 u84 u85 u86 u87 u88 u89 u90 u91 u92 u93 u94 u95 u96 u97 u98 u99 u100 u101 u102 u103 u104 u105 u106 u107 u108 u109 u110 u111 u112 u113 u114 u115 u116 u117 u118 u119 u120 u121 u122 u123 u124 u125 u126 u127 u128 u129 u130 u131 u132 u133 u134 u135 u136 u137 u138 u139 u140 u141 u142 u143 u144 u145 u146 u147 u148 u149 u150 u151 u152 u153 u154 u155 u156 u157 u158 u159 u160 u161 u162 u163 u164 u165 u166 u167 u168 u169 u170 u171 u172 u173 u174 u175 u176 u177 u178 u179 u180 u181 u182 u183 u184 u185 u186 u187 u188 u189 u190 u191 u192 u193 u194 : Value) :
  Code.wp Tryz.prog (codeAt Tryz.f82 17) (bodyPost Tryz.prog Tryz.f82 fun e w' => e = .returned (.tuple #[]) ∧ (∃ vl' c, RSt w' B B2 p q g j5 (refRuleF rts (rrs.map RuleR.name) f r) body cv vr vl' rts (rrs ++ [refRule rts r]) (xs ++ c)) ∧ Fr (fun j => B ≤ j) w w') ⟨#[.pointer (some ⟨p, 0, none⟩), u1, .pointer (some ⟨q, 0, none⟩), .pointer (some ⟨X, 0, none⟩), u4, u5, u6, u7, u8, u9, u10, u11, u12, u13, u14, u15, u16, u17, u18, u19, u20, u21, u22, u23, u24, u25, u26, u27, u28, u29, u30, u31, u32, u33, u34, u35, u36, u37, u38, u39, u40, u41, u42, u43, u44, u45, u46, u47, u48, u49, u50, u51, u52, u53, u54, u55, u56, u57, u58, u59, u60, u61, u62, u63, u64, u65, u66, u67, u68, u69, u70, u71, u72, u73, u74, u75, u76, u77, u78, u79, u80, u81, u82, u83, u84, u85, u86, u87, u88, u89, u90, u91, u92, u93, u94, u95, u96, u97, u98, u99, u100, u101, u102, u103, u104, u105, u106, u107, u108, u109, u110, u111, u112, u113, u114, u115, u116, u117, u118, u119, u120, u121, u122, u123, u124, u125, u126, u127, u128, u129, u130, u131, u132, u133, u134, u135, u136, u137, u138, u139, u140, u141, u142, u143, u144, u145, u146, u147, u148, u149, u150, u151, u152, u153, u154, u155, u156, u157, u158, u159, u160, u161, u162, u163, u164, u165, u166, u167, u168, u169, u170, u171, u172, u173, u174, u175, u176, u177, u178, u179, u180, u181, u182, u183, u184, u185, u186, u187, u188, u189, u190, u191, u192, u193, u194], []⟩ wc := by
 obtain ⟨ii, hi, hz0, hz1, hz2⟩ := info_parts Tryz.infoRRule
 conv => arg 2; whnf
 have HR17 := hcut
 clear hcut
 obtain ⟨f17, hf17⟩ : ∃ f17, f17 = noteM f11 (decide (6 < s2) || decide (s2 ≠ s1) || decide (v4 < v3)) 5 r.bin.2.line := ⟨_, rfl⟩
 obtain ⟨u, hu⟩ : ∃ u, u = z + 2 := ⟨_, rfl⟩
 rw [← hf17, ← hu] at HR17
 have HF17 : Hid (f17 = noteM f11 (decide (6 < s2) || decide (s2 ≠ s1) || decide (v4 < v3)) 5 r.bin.2.line) := hf17
 have HU : Hid (u = z + 2) := hu
 have hub : u + 1 ≤ 3000 := by omega
 have HR18 : Hid (RLs w (wc.setCell ⟨p, 1, none⟩ (.int .i64 ((u : Int) + 1))) p q X (u + 1) f17 cs4) := by have e := HR17.out.move (u + 1); rw [Int.natCast_add] at e; exact e
 have c1 := HR17.out.wp.c1
 have fz := HR17.out.wp.fz
 clear hf17 hu
 go_wp2_with fail
 have ei : i + 8 = u + 1 := by have := HXE.out; have := HY.out; have := HZ.out; have := HU.out; omega
 obtain ⟨a1, ha1⟩ : ∃ a1, a1 = u + 1 := ⟨_, rfl⟩
 rw [← ha1] at HR18
 have HA1 : Hid (a1 = i + 8) := by show _ = _; omega
 have hmc := HA.out.mc
 rw [← HA1.out] at hmc
 obtain ⟨tm, htm, hor⟩ := hmc
 have HKm : Hid (body[a1]? = some tm) := htm
 obtain ⟨qm, hqm⟩ : ∃ b, (tm.text.toList == [109, 99, 99]) = b := ⟨_, rfl⟩
 rw [hqm] at hor
 have HOR : Hid ((qm = true ∧ LAt body a1 r.mcc) ∨ (qm = false ∧ r.mcc = [])) := hor
 refine (at_any _ p q g a1 f17 body cv tm HR18.out.wp (HTW.out _ HR18.out.fr) HKm.out).mono ?_
 rintro e w20 ⟨rfl, hf⟩
 have HR20 : Hid (RLs w w20 p q X a1 f17 cs4) := HR18.out.look hf
 clear hf c1 fz HR18 HR17 ei ha1 htm hor hub
 go_upto_if 123 with fail
 go_cut [] (fun wx => ∃ vm, Hid (RLs w wx p q X (a1 + 2 * r.mcc.length) (refIntsF 9999 1 f17 r.mcc) (upd cs4 5 vm)) ∧ Hid (wx.ownsRow (X + 1) 3 1 vm r.mcc.length (intRow (r.mcc.map valOf))))
 case first =>
  cases qm with
  | true =>
   have HLA : Hid (LAt body a1 r.mcc) := by rcases HOR.out with ⟨_, hLA⟩ | ⟨hk, _⟩; exact hLA; cases hk
   go_wp2_with fail
   refine (ints_any w20 p q g a1 f17 body cv r.mcc 9999 _ HR20.out.wp (HTW.out _ HR20.out.fr) HQ.out.1 HQ.out.2 hb HLA.out HA.out.dg.2.2.2.1 (by rfl)).mono ?_
   rintro e w21 ⟨⟨v, rfl, hO⟩, hP, hF⟩
   have HR21 : Hid (RLs w w21 p q X (a1 + 2 * r.mcc.length) (refIntsF 9999 1 f17 r.mcc) cs4) := HR20.out.call hP hF
   have hXl : X < w20.heap.size := World.block_lt_of_cell? w20 _ (HR20.out.xb.cell 0 (by omega))
   obtain ⟨va, vc, rfl⟩ := ownsRow_len hO
   have hs := HR21.out.set (k := 5) (by omega) (.slice va (r.mcc.map valOf).length vc)
   have hO2 : (w21.setCell ⟨X, 5, none⟩ (.slice va (r.mcc.map valOf).length vc)).ownsRow (X + 1) 3 1 (.slice va (r.mcc.map valOf).length vc) r.mcc.length (intRow (r.mcc.map valOf)) := by
    have e := ownsRow_base (ownsRow_fr hO ((Fr.refl (fun j => j = X) w21).setCell (p := ⟨X, 5, none⟩) (Or.inl rfl) (.slice va (r.mcc.map valOf).length vc)) (fun k e => by rw [e]; exact hXl)) (Nat.succ_le_of_lt hXl)
    rw [List.length_map] at e ⊢
    exact e
   obtain ⟨ml, hml⟩ : ∃ ml, (r.mcc.map valOf).length = ml := ⟨_, rfl⟩
   rw [hml] at hs hO2 ⊢
   have HFIN : Hid (RLs w (w21.setCell ⟨X, 5, none⟩ (.slice va ml vc)) p q X (a1 + 2 * r.mcc.length) (refIntsF 9999 1 f17 r.mcc) (upd cs4 5 (.slice va ml vc)) ∧ (w21.setCell ⟨X, 5, none⟩ (.slice va ml vc)).ownsRow (X + 1) 3 1 (.slice va ml vc) r.mcc.length (intRow (r.mcc.map valOf))) := ⟨hs, hO2⟩
   have x5 := HR21.out.xb.cell 5 (by omega)
   have xf := HR21.out.xb.fz
   clear hs hO2 hO hP hF hml
   go_wp2_with fail
   go_meet
   case rel => exact ⟨_, HFIN.out.1, HFIN.out.2⟩
  | false =>
   have HNI : Hid (r.mcc = []) := by rcases HOR.out with ⟨hk, _⟩ | ⟨_, hnil⟩; cases hk; exact hnil
   have h5 : Hid (cs4 5 = .slice none 0 0) := by show _ = _; rw [HCS4.out, HCS3.out, HCS2.out, HCS1.out]; rfl
   go_wp2_with fail
   go_meet
   case rel =>
    refine ⟨.slice none 0 0, ?_, ?_⟩
    ·show RLs _ _ _ _ _ _ _ _
     rw [HNI.out]
     have e := HR20.out
     exact ⟨e.wp, e.xb.congr (fun o _ => by unfold upd; by_cases h : o = 5 <;> simp [h, h5.out]), e.fr, e.xl, e.ne⟩
    ·show World.ownsRow _ _ _ _ _ _ _
     rw [HNI.out]
     exact World.ownsRow_nil _ _ _ _
 case rest =>
  obtain ⟨vm, HRm, HOm⟩ := hcut
  obtain ⟨cs5, hcs5⟩ : ∃ cs5, cs5 = upd cs4 5 vm := ⟨_, rfl⟩
  obtain ⟨f18, hf18⟩ : ∃ f18, f18 = refIntsF 9999 1 f17 r.mcc := ⟨_, rfl⟩
  obtain ⟨a2, ha2⟩ : ∃ a2, a2 = a1 + 2 * r.mcc.length := ⟨_, rfl⟩
  rw [← hcs5, ← hf18, ← ha2] at HRm
  have HCS5 : Hid (cs5 = upd cs4 5 vm) := hcs5
  have HF18 : Hid (f18 = refIntsF 9999 1 f17 r.mcc) := hf18
  have HA2 : Hid (a2 = i + 8 + 2 * r.mcc.length) := by show _ = _; rw [ha2, HA1.out]
  have ham := HA.out.am
  rw [← HA2.out] at ham
  obtain ⟨ta, hta, hoa⟩ := ham
  have HKa : Hid (body[a2]? = some ta) := hta
  obtain ⟨qa, hqa⟩ : ∃ b, (ta.text.toList == [97, 109, 111, 117, 110, 116]) = b := ⟨_, rfl⟩
  rw [hqa] at hoa
  have HOA : Hid (match r.amount with | some ab => qa = true ∧ body[a2 + 1]? = some ab.1 ∧ body[a2 + 3]? = some ab.2 | none => qa = false) := hoa
  have ha2b : a2 + 4 ≤ 3010 := by have := (List.getElem?_eq_some_iff.1 hta).1; omega
  clear hcs5 hf18 ha2 hta hoa HR20 HOR hqm
  go_wp2_with fail
  refine (at_any _ p q g a2 f18 body cv ta HRm.out.wp (HTW.out _ HRm.out.fr) HKa.out).mono ?_
  rintro e w22 ⟨rfl, hf⟩
  have HR22 : Hid (RLs w w22 p q X a2 f18 cs5) := HRm.out.look hf
  have HO22 : Hid (w22.ownsRow (X + 1) 3 1 vm r.mcc.length (intRow (r.mcc.map valOf))) := ownsRow_fr HOm.out hf (by simp)
  clear hf HRm HOm
  go_upto_if 129 with fail
  go_cut [5] (fun _ wx => Hid (RLs w wx p q X (a2 + amLen r.amount) (refAmountF f18 r.amount) (amCs cs5 r.amount)) ∧ Hid (wx.ownsRow (X + 1) 3 1 vm r.mcc.length (intRow (r.mcc.map valOf))))
  case first =>
   cases hA : r.amount with
   | none =>
    have hq : qa = false := by have := HOA.out; rw [hA] at this; exact this
    subst hq
    go_wp2_with fail
    go_meet
    case rel =>
     refine ⟨?_, HO22⟩
     show RLs _ _ _ _ _ _ _ _
     rw [hA]
     exact HR22.out
   | some ab =>
    have hq : qa = true ∧ body[a2 + 1]? = some ab.1 ∧ body[a2 + 3]? = some ab.2 := by have := HOA.out; rw [hA] at this; exact this
    obtain ⟨hq1, hq2, hq3⟩ := hq
    subst hq1
    have HK1 : Hid (body[a2 + 1]? = some ab.1) := hq2
    have HK3 : Hid (body[a2 + 3]? = some ab.2) := hq3
    have HD : Hid (Dg ab.1.text ∧ Dg ab.2.text) := HA.out.dg.2.2.2.2.2 ab hA
    have HAB : Hid (r.amount = some ab) := hA
    have HRa : Hid (RLs w (w22.setCell ⟨p, 1, none⟩ (.int .i64 ((a2 : Int) + 1))) p q X (a2 + 1) f18 cs5) := by have e := HR22.out.move (a2 + 1); rw [Int.natCast_add] at e; exact e
    have HRb : Hid (RLs w ((w22.setCell ⟨p, 1, none⟩ (.int .i64 ((a2 : Int) + 1))).setCell ⟨X, 7, none⟩ (.bool true)) p q X (a2 + 1) f18 (upd cs5 7 (.bool true))) := HRa.out.set (by omega) _
    have c1 := HR22.out.wp.c1
    have fz := HR22.out.wp.fz
    have x7 := HRa.out.xb.cell 7 (by omega)
    have xf := HRa.out.xb.fz
    clear hq2 hq3 hA
    go_wp2_with fail
    refine (up_any _ p q g (a2 + 1) f18 body cv ab.1 1000000000 _ _ HRb.out.wp (HTW.out _ HRb.out.fr) HQ.out.1 HQ.out.2 HK1.out HD.out.1 (by omega) (by rfl) (by rfl)).mono ?_
    rintro e w23 ⟨rfl, hP, hF⟩
    have hpX : p < X + 1 := by have := HPL.out; have := HR22.out.xl; omega
    obtain ⟨f23, hf23⟩ : ∃ f23, f23 = noteM f18 (decide (1000000000 < valOf ab.1)) 5 ab.1.line := ⟨_, rfl⟩
    obtain ⟨t1, ht1⟩ : ∃ t1, t1 = a2 + 1 + 1 := ⟨_, rfl⟩
    rw [← hf23, ← ht1] at hP
    have HF23 : Hid (f23 = noteM f18 (decide (1000000000 < valOf ab.1)) 5 ab.1.line) := hf23
    have HT1 : Hid (t1 = a2 + 1 + 1) := ht1
    have ht1b : t1 + 2 ≤ 3010 := by omega
    have HR23 : Hid (RLs w w23 p q X t1 f23 (upd cs5 7 (.bool true))) := HRb.out.call hP hF
    have HO23 : Hid (w23.ownsRow (X + 1) 3 1 vm r.mcc.length (intRow (r.mcc.map valOf))) := ownsRow_fr (ownsRow_setCell_below (ownsRow_setCell_below HO22.out (by simpa using hpX) _) (by simp) _) hF (fun k e => by rw [e]; exact hpX)
    obtain ⟨v8, hv8⟩ : ∃ v8, v8 = valOf ab.1 := ⟨_, rfl⟩
    rw [← hv8]
    have HV8 : Hid (v8 = valOf ab.1) := hv8
    have HR24 : Hid (RLs w (w23.setCell ⟨X, 8, none⟩ (.int .i64 v8)) p q X t1 f23 (upd (upd cs5 7 (.bool true)) 8 (.int .i64 v8))) := HR23.out.set (by omega) _
    have HR25 : Hid (RLs w ((w23.setCell ⟨X, 8, none⟩ (.int .i64 v8)).setCell ⟨p, 1, none⟩ (.int .i64 ((t1 : Int) + 1))) p q X (t1 + 1) f23 (upd (upd cs5 7 (.bool true)) 8 (.int .i64 v8))) := by have e := HR24.out.move (t1 + 1); rw [Int.natCast_add] at e; exact e
    clear c1 fz x7 xf
    have x8 := HR23.out.xb.cell 8 (by omega)
    have xf := HR23.out.xb.fz
    have c1 := HR24.out.wp.c1
    have fz := HR24.out.wp.fz
    clear hP hF hf23 ht1 hv8 HRa HRb
    go_wp2_with fail
    have HK3' : Hid (body[t1 + 1]? = some ab.2) := by have e := HK3.out; rw [HT1.out]; exact e
    refine (at_any _ p q g (t1 + 1) f23 body cv ab.2 HR25.out.wp (HTW.out _ HR25.out.fr) HK3'.out).mono ?_
    rintro e w26 ⟨rfl, hf⟩
    have HR26 : Hid (RLs w w26 p q X (t1 + 1) f23 (upd (upd cs5 7 (.bool true)) 8 (.int .i64 v8))) := HR25.out.look hf
    have HO26 : Hid (w26.ownsRow (X + 1) 3 1 vm r.mcc.length (intRow (r.mcc.map valOf))) := ownsRow_fr (ownsRow_setCell_below (ownsRow_setCell_below HO23.out (by simp) _) (by simpa using hpX) _) hf (by simp)
    clear hf c1 fz x8 xf HR25 HR24 HR23
    go_wp2_with fail
    refine (number_any ab.2.text w26 HD.out.2).mono ?_
    rintro e w27 ⟨rfl, he⟩
    replace he := he.symm
    subst he
    obtain ⟨v9, hv9⟩ : ∃ v9, v9 = valOf ab.2 := ⟨_, rfl⟩
    rw [show numOf ab.2.text.data.toList = v9 from hv9.symm]
    have HV9 : Hid (v9 = valOf ab.2) := hv9
    have hv9b : v9 < 1000000000 := by rw [hv9]; exact valOf_lt ab.2 HD.out.2
    have e1 : decide ((1000000000 : Int) < (v9 : Int)) = false := by simp; omega
    obtain ⟨bb, hbb⟩ : ∃ bb, decide (v9 < v8) = bb := ⟨_, rfl⟩
    have hbb' : decide ((v9 : Int) < (v8 : Int)) = bb := by rw [← hbb]; by_cases hq : v9 < v8 <;> simp [hq] <;> omega
    have HBB : Hid (decide (v9 < v8) = bb) := hbb
    have x8 : w26.cell? ⟨X, 8, none⟩ = some (.int .i64 v8) := HR26.out.xb.cell 8 (by omega)
    clear hv9
    go_wp2_with fail
    refine (fault_any _ p q g (t1 + 1) f23 body cv ab.2 bb 5 _ HR26.out.wp (HTW.out _ HR26.out.fr) HQ.out.1 HQ.out.2 HK3'.out (by decide) (by rfl)).mono ?_
    rintro e w28 ⟨rfl, hP, hF⟩
    obtain ⟨f28, hf28⟩ : ∃ f28, f28 = noteM f23 bb 5 ab.2.line := ⟨_, rfl⟩
    obtain ⟨t2, ht2⟩ : ∃ t2, t2 = t1 + 1 := ⟨_, rfl⟩
    rw [← hf28, ← ht2] at hP
    have HF28 : Hid (f28 = noteM f23 bb 5 ab.2.line) := hf28
    have HT2 : Hid (t2 = t1 + 1) := ht2
    have ht2b : t2 + 1 ≤ 3010 := by omega
    have HR28 : Hid (RLs w w28 p q X t2 f28 (upd (upd cs5 7 (.bool true)) 8 (.int .i64 v8))) := (show RLs w w26 p q X (t1 + 1) f23 _ from HR26.out).call hP hF
    have HO28 : Hid (w28.ownsRow (X + 1) 3 1 vm r.mcc.length (intRow (r.mcc.map valOf))) := ownsRow_fr HO26.out hF (fun k e => by rw [e]; exact hpX)
    have HR29 : Hid (RLs w (w28.setCell ⟨X, 9, none⟩ (.int .i64 v9)) p q X t2 f28 (upd (upd (upd cs5 7 (.bool true)) 8 (.int .i64 v8)) 9 (.int .i64 v9))) := HR28.out.set (by omega) _
    have HR30 : Hid (RLs w ((w28.setCell ⟨X, 9, none⟩ (.int .i64 v9)).setCell ⟨p, 1, none⟩ (.int .i64 ((t2 : Int) + 1))) p q X (t2 + 1) f28 (upd (upd (upd cs5 7 (.bool true)) 8 (.int .i64 v8)) 9 (.int .i64 v9))) := by have e := HR29.out.move (t2 + 1); rw [Int.natCast_add] at e; exact e
    have HO30 : Hid (((w28.setCell ⟨X, 9, none⟩ (.int .i64 v9)).setCell ⟨p, 1, none⟩ (.int .i64 ((t2 : Int) + 1))).ownsRow (X + 1) 3 1 vm r.mcc.length (intRow (r.mcc.map valOf))) := ownsRow_setCell_below (ownsRow_setCell_below HO28.out (by simp) _) (by simpa using hpX) _
    have x9 := HR28.out.xb.cell 9 (by omega)
    have xf := HR28.out.xb.fz
    have c1 := HR29.out.wp.c1
    have fz := HR29.out.wp.fz
    clear hP hF hf28 ht2 x8 hbb hbb'
    go_wp2_with fail
    go_meet
    case rel =>
     refine ⟨?_, HO30⟩
     show RLs _ _ _ _ _ _ _ _
     rw [HAB.out]
     have e2 : refAmountF f18 (some ab) = f28 := by
      simp only [refAmountF]
      rw [HF28.out, HF23.out, ← HV9.out, ← HV8.out, show decide (1000000000 < v9) = false from by simp; omega, Bool.false_or, HBB.out, HV8.out]
     have e3 : amCs cs5 (some ab) = upd (upd (upd cs5 7 (.bool true)) 8 (.int .i64 v8)) 9 (.int .i64 v9) := by rw [HV8.out, HV9.out]; rfl
     have e4 : a2 + amLen (some ab) = t2 + 1 := by have := HT2.out; have := HT1.out; simp only [amLen]; omega
     rw [e2, e3, e4]
     exact HR30.out
  case rest =>
   obtain ⟨HRn, HOn⟩ := hcut
   obtain ⟨cs6, hcs6⟩ : ∃ cs6, cs6 = amCs cs5 r.amount := ⟨_, rfl⟩
   obtain ⟨f19, hf19⟩ : ∃ f19, f19 = refAmountF f18 r.amount := ⟨_, rfl⟩
   obtain ⟨a3, ha3⟩ : ∃ a3, a3 = a2 + amLen r.amount := ⟨_, rfl⟩
   rw [← hcs6, ← hf19, ← ha3] at HRn
   have HCS6 : Hid (cs6 = amCs cs5 r.amount) := hcs6
   have HF19 : Hid (f19 = refAmountF f18 r.amount) := hf19
   have HA3 : Hid (a3 = i + 8 + 2 * r.mcc.length + amLen r.amount) := by show _ = _; rw [ha3, HA2.out]
   have hcu := HA.out.cu
   rw [← HA3.out] at hcu
   obtain ⟨tu, htu, hou⟩ := hcu
   have HKu : Hid (body[a3]? = some tu) := htu
   obtain ⟨qc, hqc⟩ : ∃ b, (tu.text.toList == [99, 117, 114]) = b := ⟨_, rfl⟩
   rw [hqc] at hou
   have HOU : Hid ((qc = true ∧ LAt body a3 r.cur) ∨ (qc = false ∧ r.cur = [])) := hou
   have hpX : p < X + 1 := by have := HPL.out; have := HRn.out.xl; omega
   clear hcs6 hf19 ha3 htu hou HR22 HO22 HOA hqa
   go_wp2_with fail
   refine (at_any _ p q g a3 f19 body cv tu HRn.out.wp (HTW.out _ HRn.out.fr) HKu.out).mono ?_
   rintro e w31 ⟨rfl, hf⟩
   have HR31 : Hid (RLs w w31 p q X a3 f19 cs6) := HRn.out.look hf
   have HO31 : Hid (w31.ownsRow (X + 1) 3 1 vm r.mcc.length (intRow (r.mcc.map valOf))) := ownsRow_fr HOn.out hf (by simp)
   clear hf HRn HOn
   go_upto_if 172 with fail
   go_cut [] (fun wx => ∃ vu, Hid (RLs w wx p q X (a3 + 2 * r.cur.length) (refIntsF 999 1 f19 r.cur) (upd cs6 6 vu)) ∧ Hid (wx.ownsRow (X + 1) 3 1 vu r.cur.length (intRow (r.cur.map valOf))) ∧ Hid (wx.ownsRow (X + 1) 3 1 vm r.mcc.length (intRow (r.mcc.map valOf))))
   case first =>
    cases qc with
    | true =>
     have HLA : Hid (LAt body a3 r.cur) := by rcases HOU.out with ⟨_, hLA⟩ | ⟨hk, _⟩; exact hLA; cases hk
     go_wp2_with fail
     refine (ints_any w31 p q g a3 f19 body cv r.cur 999 _ HR31.out.wp (HTW.out _ HR31.out.fr) HQ.out.1 HQ.out.2 hb HLA.out HA.out.dg.2.2.2.2.1 (by rfl)).mono ?_
     rintro e w32 ⟨⟨v, rfl, hO⟩, hP, hF⟩
     have HR32 : Hid (RLs w w32 p q X (a3 + 2 * r.cur.length) (refIntsF 999 1 f19 r.cur) cs6) := HR31.out.call hP hF
     have hXl : X < w31.heap.size := World.block_lt_of_cell? w31 _ (HR31.out.xb.cell 0 (by omega))
     obtain ⟨va, vc, rfl⟩ := ownsRow_len hO
     have hs := HR32.out.set (k := 6) (by omega) (.slice va (r.cur.map valOf).length vc)
     have hO2 : (w32.setCell ⟨X, 6, none⟩ (.slice va (r.cur.map valOf).length vc)).ownsRow (X + 1) 3 1 (.slice va (r.cur.map valOf).length vc) r.cur.length (intRow (r.cur.map valOf)) := by
      have e := ownsRow_base (ownsRow_fr hO ((Fr.refl (fun j => j = X) w32).setCell (p := ⟨X, 6, none⟩) (Or.inl rfl) (.slice va (r.cur.map valOf).length vc)) (fun k e => by rw [e]; exact hXl)) (Nat.succ_le_of_lt hXl)
      rw [List.length_map] at e ⊢
      exact e
     have hO3 : (w32.setCell ⟨X, 6, none⟩ (.slice va (r.cur.map valOf).length vc)).ownsRow (X + 1) 3 1 vm r.mcc.length (intRow (r.mcc.map valOf)) := ownsRow_setCell_below (ownsRow_fr HO31.out hF (fun k e => by rw [e]; exact hpX)) (by simp) _
     obtain ⟨ml, hml⟩ : ∃ ml, (r.cur.map valOf).length = ml := ⟨_, rfl⟩
     rw [hml] at hs hO2 hO3 ⊢
     have HFIN : Hid (RLs w (w32.setCell ⟨X, 6, none⟩ (.slice va ml vc)) p q X (a3 + 2 * r.cur.length) (refIntsF 999 1 f19 r.cur) (upd cs6 6 (.slice va ml vc)) ∧ (w32.setCell ⟨X, 6, none⟩ (.slice va ml vc)).ownsRow (X + 1) 3 1 (.slice va ml vc) r.cur.length (intRow (r.cur.map valOf)) ∧ (w32.setCell ⟨X, 6, none⟩ (.slice va ml vc)).ownsRow (X + 1) 3 1 vm r.mcc.length (intRow (r.mcc.map valOf))) := ⟨hs, hO2, hO3⟩
     have x6 := HR32.out.xb.cell 6 (by omega)
     have xf := HR32.out.xb.fz
     clear hs hO2 hO3 hO hP hF hml
     go_wp2_with fail
     go_meet
     case rel => exact ⟨_, HFIN.out.1, HFIN.out.2.1, HFIN.out.2.2⟩
    | false =>
     have HNI : Hid (r.cur = []) := by rcases HOU.out with ⟨hk, _⟩ | ⟨_, hnil⟩; cases hk; exact hnil
     have h6 : Hid (cs6 6 = .slice none 0 0) := by show _ = _; rw [HCS6.out, HCS5.out, HCS4.out, HCS3.out, HCS2.out, HCS1.out]; cases r.amount <;> rfl
     go_wp2_with fail
     go_meet
     case rel =>
      refine ⟨.slice none 0 0, ?_, ?_, HO31⟩
      ·show RLs _ _ _ _ _ _ _ _
       rw [HNI.out]
       have e := HR31.out
       exact ⟨e.wp, e.xb.congr (fun o _ => by unfold upd; by_cases h : o = 6 <;> simp [h, h6.out]), e.fr, e.xl, e.ne⟩
      ·show World.ownsRow _ _ _ _ _ _ _
       rw [HNI.out]
       exact World.ownsRow_nil _ _ _ _
   case rest =>
    obtain ⟨vu, HRu, HOu, HOv⟩ := hcut
    obtain ⟨cs7, hcs7⟩ : ∃ cs7, cs7 = upd cs6 6 vu := ⟨_, rfl⟩
    obtain ⟨f20, hf20⟩ : ∃ f20, f20 = refIntsF 999 1 f19 r.cur := ⟨_, rfl⟩
    obtain ⟨a4, ha4⟩ : ∃ a4, a4 = a3 + 2 * r.cur.length := ⟨_, rfl⟩
    rw [← hcs7, ← hf20, ← ha4] at HRu
    have HCS7 : Hid (cs7 = upd cs6 6 vu) := hcs7
    have HF20 : Hid (f20 = refIntsF 999 1 f19 r.cur) := hf20
    have HA4 : Hid (a4 = i + 8 + 2 * r.mcc.length + amLen r.amount + 2 * r.cur.length) := by show _ = _; rw [ha4, HA3.out]
    have hac := HA.out.ac
    rw [← HA4.out] at hac
    have ha4b : a4 + 1 ≤ 3000 := by
     obtain ⟨t, ht, _⟩ := hac
     have := (List.getElem?_eq_some_iff.1 ht).1
     omega
    have HR33 : Hid (RLs w (wc.setCell ⟨p, 1, none⟩ (.int .i64 ((a4 : Int) + 1))) p q X (a4 + 1) f20 cs7) := by have e := HRu.out.move (a4 + 1); rw [Int.natCast_add] at e; exact e
    have h10 : cs7 10 = .slice none 0 0 ∧ cs7 11 = .bool false ∧ cs7 12 = .bool false := by rw [HCS7.out, HCS6.out, HCS5.out, HCS4.out, HCS3.out, HCS2.out, HCS1.out]; cases r.amount <;> exact ⟨rfl, rfl, rfl⟩
    have HACT : Hid (Calls Tryz.prog 135 #[.pointer (some ⟨p, 0, none⟩), .pointer (some ⟨X, 0, none⟩)] (wc.setCell ⟨p, 1, none⟩ (.int .i64 ((a4 : Int) + 1))) (WAPost (wc.setCell ⟨p, 1, none⟩ (.int .i64 ((a4 : Int) + 1))) p q X j5 (refPlsF rts 1 f20 r.act.routes) cs7 (r.act.routes.map (fun t => lastPlace t.text (-1) 0 rts)) r.act.decline r.act.cheapest)) := by
     show Calls _ _ _ _ _
     obtain ⟨t, ht, hor⟩ := hac
     rcases hor with ⟨ea, hk, ej⟩ | ⟨ed, hk1, hk2, i0, ei, hLA, ej⟩
     ·rw [ea, ej]
      exact waction_decline _ p q g X (a4 + 1) f20 body cv cs7 t HR33.out.wp (HTW.out _ HR33.out.fr) HR33.out.xb HR33.out.ne h10.1 h10.2.1 h10.2.2 ha4b ht hk
     ·obtain ⟨va, nr, vc, hV⟩ := view_of HS0.out HR33.out h7
      rw [ed, ej]
      exact waction_names _ p q g X (a4 + 1) i0 body cv va nr vc rts r.act.routes f20 cs7 r.act.cheapest HR33.out.wp hV HR33.out.xb h10.1 h10.2.1 h10.2.2 hLA hb t ht hk1 hk2 ei
    have c1 := HRu.out.wp.c1
    have fz := HRu.out.wp.fz
    clear hcs7 hf20 ha4 hac h10 HR31 HO31 HOU hqc
    go_wp2_with fail
    refine HACT.out.mono ?_
    rintro e w34 ⟨rfl, hP, ⟨vp, hX, hO⟩, hF⟩
    have HX34 : Hid (XB w34 X (upd (upd (upd cs7 11 (.bool r.act.decline)) 12 (.bool r.act.cheapest)) 10 vp)) := hX
    have HO34 : Hid (w34.ownsRow (wc.setCell ⟨p, 1, none⟩ (.int .i64 ((a4 : Int) + 1))).heap.size 3 1 vp (r.act.routes.map (fun t => lastPlace t.text (-1) 0 rts)).length (intRowZ (r.act.routes.map (fun t => lastPlace t.text (-1) 0 rts)))) := hO
    have HP34 : Hid (WkP w34 p q j5 (refPlsF rts 1 f20 r.act.routes)) := hP
    have HF34 : Hid (Fr (fun j => j = p) w w34) := HR33.out.fr.monoNew hF (fun k e => by rcases e with e | e; exact Or.inl e; exact Or.inr (by rw [e]; exact HR33.out.xl))
    obtain ⟨y7, hy7⟩ : ∃ y7, y7 = cs7 7 := ⟨_, rfl⟩
    obtain ⟨y8, hy8⟩ : ∃ y8, y8 = cs7 8 := ⟨_, rfl⟩
    obtain ⟨y9, hy9⟩ : ∃ y9, y9 = cs7 9 := ⟨_, rfl⟩
    have HALL : Hid (w34.cell? ⟨X, 0, none⟩ = some (.string r.name.text) ∧ w34.cell? ⟨X, 1, none⟩ = some (.int .i64 v1) ∧ w34.cell? ⟨X, 2, none⟩ = some (.int .i64 s1) ∧ w34.cell? ⟨X, 3, none⟩ = some (.int .i64 v3) ∧ w34.cell? ⟨X, 4, none⟩ = some (.int .i64 v4) ∧ w34.cell? ⟨X, 5, none⟩ = some vm ∧ w34.cell? ⟨X, 6, none⟩ = some vu ∧ w34.cell? ⟨X, 7, none⟩ = some y7 ∧ w34.cell? ⟨X, 8, none⟩ = some y8 ∧ w34.cell? ⟨X, 9, none⟩ = some y9 ∧ w34.cell? ⟨X, 10, none⟩ = some vp ∧ w34.cell? ⟨X, 11, none⟩ = some (.bool r.act.decline) ∧ w34.cell? ⟨X, 12, none⟩ = some (.bool r.act.cheapest)) := by
     have e := HX34.out
     have eq : ∀ o, (upd (upd (upd cs7 11 (.bool r.act.decline)) 12 (.bool r.act.cheapest)) 10 vp) o = if o = 10 then vp else if o = 12 then .bool r.act.cheapest else if o = 11 then .bool r.act.decline else cs7 o := fun o => by unfold upd; rfl
     have lo : ∀ o, o < 7 → cs7 o = (upd (upd (upd (upd (upd (upd (cs0 r.name.text) 1 (.int .i64 v1)) 2 (.int .i64 s1)) 3 (.int .i64 v3)) 4 (.int .i64 v4)) 5 vm) 6 vu) o := fun o ho => by
      rw [HCS7.out, HCS6.out, HCS5.out, HCS4.out, HCS3.out, HCS2.out, HCS1.out]
      cases r.amount with
      | none => rfl
      | some ab => simp only [amCs, upd]; (repeat' split) <;> first | rfl | omega
     have c := fun o ho => (e.cell o ho).trans (by rw [eq o])
     refine ⟨(c 0 (by omega)).trans (by rw [lo 0 (by omega)]; rfl), (c 1 (by omega)).trans (by rw [lo 1 (by omega)]; rfl), (c 2 (by omega)).trans (by rw [lo 2 (by omega)]; rfl), (c 3 (by omega)).trans (by rw [lo 3 (by omega)]; rfl), (c 4 (by omega)).trans (by rw [lo 4 (by omega)]; rfl), (c 5 (by omega)).trans (by rw [lo 5 (by omega)]; rfl), (c 6 (by omega)).trans (by rw [lo 6 (by omega)]; rfl), (c 7 (by omega)).trans (by rw [hy7]; rfl), (c 8 (by omega)).trans (by rw [hy8]; rfl), (c 9 (by omega)).trans (by rw [hy9]; rfl), c 10 (by omega), c 11 (by omega), c 12 (by omega)⟩
    have HS34 : Hid (RSt w34 B B2 p q g j5 (refPlsF rts 1 f20 r.act.routes) body cv vr (.slice la n lc) rts rrs xs) := by have e := HS0.out.step HP34.out HF34.out; rw [HVL.out, HN.out] at e; exact e
    have HLO34 : Hid (w34.ownsRow B2 170 13 (.slice la n lc) n xs) := by have e := HS34.out.lo; rw [HN.out] at e; exact e
    have hb2 := HS34.out.b2
    have hXq : X ≠ q := by have := HR33.out.xl; have : q < w.heap.size := World.block_lt_of_cell? w _ HS0.out.q1; omega
    have hX34 : X < w34.heap.size := World.block_lt_of_cell? w34 _ (HX34.out.cell 0 (by omega))
    have hB2X : B2 ≤ X + 1 := by have := HS0.out.b2; have := HR33.out.xl; omega
    have HNB : Hid (∀ W : World, w34.heap.size ≤ W.heap.size → ∀ w1, W.grownBy w1 (Value.slice la n lc).ownBlock → (∀ o v, W.cell? ⟨X, o, none⟩ = some v → w1.cell? ⟨X, o, none⟩ = some v)) := fun W hW w1 hg o v hv => (hg.cell_far ⟨X, o, none⟩ (Nat.lt_of_lt_of_le hX34 hW) (fun e => by
     have h1 := HS0.out.lo
     rw [HVL.out, HN.out] at h1
     have := (h1.lt X e.symm).2
     have := HR33.out.xl
     omega)).trans hv
    have hm1 : vm.oneCell' = true := by obtain ⟨a, c, e⟩ := ownsRow_len HOv.out; rw [e]; rfl
    have hu1 : vu.oneCell' = true := by obtain ⟨a, c, e⟩ := ownsRow_len HOu.out; rw [e]; rfl
    have hp1 : vp.oneCell' = true := by obtain ⟨a, c, e⟩ := ownsRow_len HO34.out; rw [e]; rfl
    have hyy : y7 = .bool r.amount.isSome ∧ y8 = .int .i64 ((r.amount.map fun ab => (valOf ab.1, valOf ab.2)).getD (0, 0)).1 ∧ y9 = .int .i64 ((r.amount.map fun ab => (valOf ab.1, valOf ab.2)).getD (0, 0)).2 := by
     rw [hy7, hy8, hy9, HCS7.out, HCS6.out, HCS5.out, HCS4.out, HCS3.out, HCS2.out, HCS1.out]
     cases r.amount <;> exact ⟨rfl, rfl, rfl⟩
    have h71 : y7.oneCell' = true ∧ y8.oneCell' = true ∧ y9.oneCell' = true := by rw [hyy.1, hyy.2.1, hyy.2.2]; exact ⟨rfl, rfl, rfl⟩
    have HOC : Hid (∀ u, u ∈ ([.string r.name.text, .int .i64 v1, .int .i64 s1, .int .i64 v3, .int .i64 v4, vm, vu, y7, y8, y9, vp, .bool r.act.decline, .bool r.act.cheapest] : List Value) → u.oneCell' = true) := fun u hu => by
     simp only [List.mem_cons, List.not_mem_nil, or_false] at hu
     rcases hu with h | h | h | h | h | h | h | h | h | h | h | h | h <;> subst h <;> first | rfl | exact hm1 | exact hu1 | exact hp1 | exact h71.1 | exact h71.2.1 | exact h71.2.2
    have HRV : Hid (RrV B2 w34 (refRule rts r) [.string r.name.text, .int .i64 v1, .int .i64 s1, .int .i64 v3, .int .i64 v4, vm, vu, y7, y8, y9, vp, .bool r.act.decline, .bool r.act.cheapest]) := by
     refine ⟨vm, vu, vp, ?_, ?_, ?_, ?_⟩
     ·simp only [refRule]
      rw [hyy.1, hyy.2.1, hyy.2.2, HV1.out, HS1.out, HV3.out, HV4.out]
      simp
     ·simp only [refRule]
      rw [List.length_map]
      exact ownsRow_base (ownsRow_fr (ownsRow_setCell_below HOv.out (by simpa using hpX) _) hF (fun k e => by rcases e with e | e <;> rw [e]; exact hpX; omega)) hB2X
     ·simp only [refRule]
      rw [List.length_map]
      exact ownsRow_base (ownsRow_fr (ownsRow_setCell_below HOu.out (by simpa using hpX) _) hF (fun k e => by rcases e with e | e <;> rw [e]; exact hpX; omega)) hB2X
     ·exact ownsRow_base HO34.out (by have := HR33.out.fr.size; have := HS0.out.b2; omega)
    clear hy7 hy8 hy9 hyy h71 hm1 hu1 hp1
    clear hP hX hO hF c1 fz
    have q2 : w34.cell? ⟨q, 2, none⟩ = some (.slice la n lc) := by have e := (HS0.out.step HP34.out HF34.out).q2; rw [HVL.out, HN.out] at e; exact e
    have hsz34 := HF34.out.size
    go_wp2_with fail
    refine wp_region_held_drew (S := fun W => W.cell? ⟨X, 0, none⟩ = some (.string r.name.text) ∧ W.cell? ⟨X, 1, none⟩ = some (.int .i64 v1) ∧ W.cell? ⟨X, 2, none⟩ = some (.int .i64 s1) ∧ W.cell? ⟨X, 3, none⟩ = some (.int .i64 v3) ∧ W.cell? ⟨X, 4, none⟩ = some (.int .i64 v4) ∧ W.cell? ⟨X, 5, none⟩ = some vm ∧ W.cell? ⟨X, 6, none⟩ = some vu ∧ W.cell? ⟨X, 7, none⟩ = some y7 ∧ W.cell? ⟨X, 8, none⟩ = some y8 ∧ W.cell? ⟨X, 9, none⟩ = some y9 ∧ W.cell? ⟨X, 10, none⟩ = some vp ∧ W.cell? ⟨X, 11, none⟩ = some (.bool r.act.decline) ∧ W.cell? ⟨X, 12, none⟩ = some (.bool r.act.cheapest)) (by kernel_rfl) ?_ (fun hH => ?_)
    ·exact HALL.out
    refine held_take 0 (v := ?v0z) rfl (by kernel_rfl) (by kernel_rfl) (by kernel_rfl) (fun _ _ _ h => h) rfl ?y0z hH ?r0z
    case y0z => intro w hw; obtain ⟨k0, k1, k2, k3, k4, k5, k6, k7, k8, k9, k10, k11, k12⟩ := hw; go_simp; with_reducible rfl
    try go_frame
    refine held_take 1 (v := ?v1z) rfl (by kernel_rfl) (by kernel_rfl) (by kernel_rfl) (fun _ _ _ h => h) rfl ?y1z hH ?r1z
    case y1z => intro w hw; obtain ⟨k0, k1, k2, k3, k4, k5, k6, k7, k8, k9, k10, k11, k12⟩ := hw; go_simp; with_reducible rfl
    try go_frame
    refine held_take 2 (v := ?v2z) rfl (by kernel_rfl) (by kernel_rfl) (by kernel_rfl) (fun _ _ _ h => h) rfl ?y2z hH ?r2z
    case y2z => intro w hw; obtain ⟨k0, k1, k2, k3, k4, k5, k6, k7, k8, k9, k10, k11, k12⟩ := hw; go_simp; with_reducible rfl
    try go_frame
    refine held_take 3 (v := ?v3z) rfl (by kernel_rfl) (by kernel_rfl) (by kernel_rfl) (fun _ _ _ h => h) rfl ?y3z hH ?r3z
    case y3z => intro w hw; obtain ⟨k0, k1, k2, k3, k4, k5, k6, k7, k8, k9, k10, k11, k12⟩ := hw; go_simp; with_reducible rfl
    try go_frame
    refine held_take 5 (v := ?v5z) rfl (by kernel_rfl) (by kernel_rfl) (by kernel_rfl) (fun _ _ _ h => h) rfl ?y5z hH ?r5z
    case y5z => intro w hw; obtain ⟨k0, k1, k2, k3, k4, k5, k6, k7, k8, k9, k10, k11, k12⟩ := hw; go_simp; with_reducible rfl
    try go_frame
    refine wpAnyH_ready (rs := [4, 6]) (by kernel_rfl) (by simp) ?_
    refine held_cons rfl (fun K hK => ?_) ?_
    ·rw [if_pos (by rfl)]
     go_simp
     refine hK.out _ _ hH (fun _ => ?_)
     clear hK K
     try go_frame
     refine wpAnyH_ready (rs := [6]) (by kernel_rfl) (by simp) ?_
     refine held_cons rfl (fun K hK => ?_) AllReadyH.nil
     rw [if_pos (by rfl)]
     go_simp
     refine hK.out _ _ ?_ (fun hH => ?_)
     ·obtain ⟨k0, k1, k2, k3, k4, k5, k6, k7, k8, k9, k10, k11, k12⟩ := hH
      have hcc : ∀ o v, w34.cell? ⟨X, o, none⟩ = some v → (w34.alloc (.cells #[.string r.name.text, .int .i64 v1, .int .i64 s1, .int .i64 v3, .int .i64 v4, vm, vu, y7, y8, y9, vp, .bool r.act.decline, .bool r.act.cheapest] 170)).cell? ⟨X, o, none⟩ = some v := fun o v hv => (((Fr.refl (fun _ => False) w34).alloc (.cells #[.string r.name.text, .int .i64 v1, .int .i64 s1, .int .i64 v3, .int .i64 v4, vm, vu, y7, y8, y9, vp, .bool r.act.decline, .bool r.act.cheapest] 170)).cell (p := ⟨X, o, none⟩) hX34 (by simp)).trans hv
      exact And.intro (hcc _ _ k0) (And.intro (hcc _ _ k1) (And.intro (hcc _ _ k2) (And.intro (hcc _ _ k3) (And.intro (hcc _ _ k4) (And.intro (hcc _ _ k5) (And.intro (hcc _ _ k6) (And.intro (hcc _ _ k7) (And.intro (hcc _ _ k8) (And.intro (hcc _ _ k9) (And.intro (hcc _ _ k10) (And.intro (hcc _ _ k11) (hcc _ _ k12))))))))))))
     clear hK K
     try go_frame
     refine wpAnyH_ready (rs := [7]) (by kernel_rfl) (by simp) ?_
     refine held_cons rfl (fun K hK => ?_) AllReadyH.nil
     refine step_append_lies _ rfl (.tmp 189) (.tmp 191) 69 rfl B2 170 ii _ 13 152 Tryz.underlying69 hi hz0 hz1 hz2 rfl (by decide) (.slice la n lc) n xs rfl ?h1a ⟨w34.heap.size, 0, none⟩ 1 1 [.string r.name.text, .int .i64 v1, .int .i64 s1, .int .i64 v3, .int .i64 v4, vm, vu, y7, y8, y9, vp, .bool r.act.decline, .bool r.act.cheapest] rfl rfl ?h2a ?h3a (by decide) ?h4a ?h5a ?h6a _ rfl ?h7a
     case h1a => exact (HLO34.out.alloc _).drew
     case h2a => exact World.news_of_block (heap_alloc_new w34 (.cells #[.string r.name.text, .int .i64 v1, .int .i64 s1, .int .i64 v3, .int .i64 v4, vm, vu, y7, y8, y9, vp, .bool r.act.decline, .bool r.act.cheapest] 170))
     case h3a => exact HOC.out
     case h4a => unfold maxLen; omega
     case h5a => omega
     case h6a => simp; omega
     case h7a =>
      intro g2 cap2 w1 hown hgrow _ _
      obtain ⟨e1, ef, hfin⟩ := HS34.out.rules (V := .slice (some ⟨g2, 0, none⟩) (n + 1) cap2) HRV.out hgrow (by rw [HN.out]; exact hown)
      obtain ⟨k0, k1, k2, k3, k4, k5, k6, k7, k8, k9, k10, k11, k12⟩ := hH
      have hcc := HNB.out _ (by simp) w1 hgrow
      have HFIN : Hid (RSt (w1.setCell ⟨q, 2, none⟩ (.slice (some ⟨g2, 0, none⟩) (n + 1) cap2)) B B2 p q g j5 (refPlsF rts 1 f20 r.act.routes) body cv vr (.slice (some ⟨g2, 0, none⟩) (n + 1) cap2) rts (rrs ++ [refRule rts r]) (xs ++ [.string r.name.text, .int .i64 v1, .int .i64 s1, .int .i64 v3, .int .i64 v4, vm, vu, y7, y8, y9, vp, .bool r.act.decline, .bool r.act.cheapest]) ∧ Fr (fun j => B ≤ j) w34 (w1.setCell ⟨q, 2, none⟩ (.slice (some ⟨g2, 0, none⟩) (n + 1) cap2))) := hfin
      have hS1 := And.intro (hcc _ _ k0) (And.intro (hcc _ _ k1) (And.intro (hcc _ _ k2) (And.intro (hcc _ _ k3) (And.intro (hcc _ _ k4) (And.intro (hcc _ _ k5) (And.intro (hcc _ _ k6) (And.intro (hcc _ _ k7) (And.intro (hcc _ _ k8) (And.intro (hcc _ _ k9) (And.intro (hcc _ _ k10) (And.intro (hcc _ _ k11) (hcc _ _ k12))))))))))))
      clear hcc k0 k1 k2 k3 k4 k5 k6 k7 k8 k9 k10 k11 k12 hfin hgrow hown q2
      refine hK.out _ _ hS1 (fun hH => ?_)
      clear hK K hS1
      try go_frame
      refine held_take 8 (v := ?v8a) rfl (by kernel_rfl) (by kernel_rfl) (by kernel_rfl) (fun _ _ _ h => h) rfl ?y8a hH ?r8a
      case y8a => intro w hw; obtain ⟨k0, k1, k2, k3, k4, k5, k6, k7, k8, k9, k10, k11, k12⟩ := hw; go_simp; with_reducible rfl
      try go_frame
      refine held_take 9 (v := ?v9a) rfl (by kernel_rfl) (by kernel_rfl) (by kernel_rfl) (fun _ _ _ h => h) rfl ?y9a hH ?r9a
      case y9a => intro w hw; obtain ⟨k0, k1, k2, k3, k4, k5, k6, k7, k8, k9, k10, k11, k12⟩ := hw; go_simp; with_reducible rfl
      try go_frame
      refine wpAnyH_ready (rs := [10]) (by kernel_rfl) (by simp) ?_
      refine held_cons rfl (fun K hK => ?_) AllReadyH.nil
      rw [if_pos (by rfl)]
      go_simp
      refine hK.out _ _ ?_ (fun hH => ?_)
      ·obtain ⟨k0, k1, k2, k3, k4, k5, k6, k7, k8, k9, k10, k11, k12⟩ := hH
       have hcc : ∀ o v, w1.cell? ⟨X, o, none⟩ = some v → (w1.setCell ⟨q, 2, none⟩ (.slice (some ⟨g2, 0, none⟩) (n + 1) cap2)).cell? ⟨X, o, none⟩ = some v := fun o v hv => by rw [World.cell?_setCell_other _ _ _ _ (by first | (simp; done) | (simp; omega))]; exact hv
       exact And.intro (hcc _ _ k0) (And.intro (hcc _ _ k1) (And.intro (hcc _ _ k2) (And.intro (hcc _ _ k3) (And.intro (hcc _ _ k4) (And.intro (hcc _ _ k5) (And.intro (hcc _ _ k6) (And.intro (hcc _ _ k7) (And.intro (hcc _ _ k8) (And.intro (hcc _ _ k9) (And.intro (hcc _ _ k10) (And.intro (hcc _ _ k11) (hcc _ _ k12))))))))))))
      clear hK K hH
      try go_frame
      refine wpAnyH_done (by kernel_rfl) ?_ _
      go_wp2
      go_end0
      refine ⟨rfl, ⟨.slice (some ⟨g2, 0, none⟩) (n + 1) cap2, [.string r.name.text, .int .i64 v1, .int .i64 s1, .int .i64 v3, .int .i64 v4, vm, vu, y7, y8, y9, vp, .bool r.act.decline, .bool r.act.cheapest], ?_⟩, (HF34.out.mono (fun k e => by have := HS0.out.pB; omega)).trans HFIN.out.2⟩
      have e := HFIN.out.1
      have ef2 : refPlsF rts 1 f20 r.act.routes = refRuleF rts (rrs.map RuleR.name) f r := by
       unfold refRuleF
       rw [HF20.out, HF19.out, HF18.out, HF17.out, HF11.out, HF6.out, HFN.out, HS2.out, HV4.out, HV3.out, ← HB6.out, HS1.out, List.length_map, HN.out, HB8.out]
      rw [ef2] at e
      exact e
    ·refine held_cons rfl (fun K hK => ?_) AllReadyH.nil
     rw [if_pos (by rfl)]
     go_simp
     refine hK.out _ _ ?_ (fun hH => ?_)
     ·obtain ⟨k0, k1, k2, k3, k4, k5, k6, k7, k8, k9, k10, k11, k12⟩ := hH
      have hcc : ∀ o v, w34.cell? ⟨X, o, none⟩ = some v → (w34.alloc (.cells #[.string r.name.text, .int .i64 v1, .int .i64 s1, .int .i64 v3, .int .i64 v4, vm, vu, y7, y8, y9, vp, .bool r.act.decline, .bool r.act.cheapest] 170)).cell? ⟨X, o, none⟩ = some v := fun o v hv => (((Fr.refl (fun _ => False) w34).alloc (.cells #[.string r.name.text, .int .i64 v1, .int .i64 s1, .int .i64 v3, .int .i64 v4, vm, vu, y7, y8, y9, vp, .bool r.act.decline, .bool r.act.cheapest] 170)).cell (p := ⟨X, o, none⟩) hX34 (by simp)).trans hv
      exact And.intro (hcc _ _ k0) (And.intro (hcc _ _ k1) (And.intro (hcc _ _ k2) (And.intro (hcc _ _ k3) (And.intro (hcc _ _ k4) (And.intro (hcc _ _ k5) (And.intro (hcc _ _ k6) (And.intro (hcc _ _ k7) (And.intro (hcc _ _ k8) (And.intro (hcc _ _ k9) (And.intro (hcc _ _ k10) (And.intro (hcc _ _ k11) (hcc _ _ k12))))))))))))
     clear hK K
     try go_frame
     refine wpAnyH_ready (rs := [4]) (by kernel_rfl) (by simp) ?_
     refine held_cons rfl (fun K hK => ?_) AllReadyH.nil
     rw [if_pos (by rfl)]
     have q2' : (w34.alloc (.cells #[.string r.name.text, .int .i64 v1, .int .i64 s1, .int .i64 v3, .int .i64 v4, vm, vu, y7, y8, y9, vp, .bool r.act.decline, .bool r.act.cheapest] 170)).cell? ⟨q, 2, none⟩ = some (.slice la n lc) := (((Fr.refl (fun _ => False) w34).alloc (.cells #[.string r.name.text, .int .i64 v1, .int .i64 s1, .int .i64 v3, .int .i64 v4, vm, vu, y7, y8, y9, vp, .bool r.act.decline, .bool r.act.cheapest] 170)).cell (p := ⟨q, 2, none⟩) (World.block_lt_of_cell? w34 _ q2) (by simp)).trans q2
     go_simp
     refine hK.out _ _ hH (fun _ => ?_)
     clear hK K q2'
     try go_frame
     refine wpAnyH_ready (rs := [7]) (by kernel_rfl) (by simp) ?_
     refine held_cons rfl (fun K hK => ?_) AllReadyH.nil
     refine step_append_lies _ rfl (.tmp 189) (.tmp 191) 69 rfl B2 170 ii _ 13 152 Tryz.underlying69 hi hz0 hz1 hz2 rfl (by decide) (.slice la n lc) n xs rfl ?h1b ⟨w34.heap.size, 0, none⟩ 1 1 [.string r.name.text, .int .i64 v1, .int .i64 s1, .int .i64 v3, .int .i64 v4, vm, vu, y7, y8, y9, vp, .bool r.act.decline, .bool r.act.cheapest] rfl rfl ?h2b ?h3b (by decide) ?h4b ?h5b ?h6b _ rfl ?h7b
     case h1b => exact (HLO34.out.alloc _).drew
     case h2b => exact World.news_of_block (heap_alloc_new w34 (.cells #[.string r.name.text, .int .i64 v1, .int .i64 s1, .int .i64 v3, .int .i64 v4, vm, vu, y7, y8, y9, vp, .bool r.act.decline, .bool r.act.cheapest] 170))
     case h3b => exact HOC.out
     case h4b => unfold maxLen; omega
     case h5b => omega
     case h6b => simp; omega
     case h7b =>
      intro g2 cap2 w1 hown hgrow _ _
      obtain ⟨e1, ef, hfin⟩ := HS34.out.rules (V := .slice (some ⟨g2, 0, none⟩) (n + 1) cap2) HRV.out hgrow (by rw [HN.out]; exact hown)
      obtain ⟨k0, k1, k2, k3, k4, k5, k6, k7, k8, k9, k10, k11, k12⟩ := hH
      have hcc := HNB.out _ (by simp) w1 hgrow
      have HFIN : Hid (RSt (w1.setCell ⟨q, 2, none⟩ (.slice (some ⟨g2, 0, none⟩) (n + 1) cap2)) B B2 p q g j5 (refPlsF rts 1 f20 r.act.routes) body cv vr (.slice (some ⟨g2, 0, none⟩) (n + 1) cap2) rts (rrs ++ [refRule rts r]) (xs ++ [.string r.name.text, .int .i64 v1, .int .i64 s1, .int .i64 v3, .int .i64 v4, vm, vu, y7, y8, y9, vp, .bool r.act.decline, .bool r.act.cheapest]) ∧ Fr (fun j => B ≤ j) w34 (w1.setCell ⟨q, 2, none⟩ (.slice (some ⟨g2, 0, none⟩) (n + 1) cap2))) := hfin
      have hS1 := And.intro (hcc _ _ k0) (And.intro (hcc _ _ k1) (And.intro (hcc _ _ k2) (And.intro (hcc _ _ k3) (And.intro (hcc _ _ k4) (And.intro (hcc _ _ k5) (And.intro (hcc _ _ k6) (And.intro (hcc _ _ k7) (And.intro (hcc _ _ k8) (And.intro (hcc _ _ k9) (And.intro (hcc _ _ k10) (And.intro (hcc _ _ k11) (hcc _ _ k12))))))))))))
      clear hcc k0 k1 k2 k3 k4 k5 k6 k7 k8 k9 k10 k11 k12 hfin hgrow hown q2
      refine hK.out _ _ hS1 (fun hH => ?_)
      clear hK K hS1
      try go_frame
      refine held_take 8 (v := ?v8b) rfl (by kernel_rfl) (by kernel_rfl) (by kernel_rfl) (fun _ _ _ h => h) rfl ?y8b hH ?r8b
      case y8b => intro w hw; obtain ⟨k0, k1, k2, k3, k4, k5, k6, k7, k8, k9, k10, k11, k12⟩ := hw; go_simp; with_reducible rfl
      try go_frame
      refine held_take 9 (v := ?v9b) rfl (by kernel_rfl) (by kernel_rfl) (by kernel_rfl) (fun _ _ _ h => h) rfl ?y9b hH ?r9b
      case y9b => intro w hw; obtain ⟨k0, k1, k2, k3, k4, k5, k6, k7, k8, k9, k10, k11, k12⟩ := hw; go_simp; with_reducible rfl
      try go_frame
      refine wpAnyH_ready (rs := [10]) (by kernel_rfl) (by simp) ?_
      refine held_cons rfl (fun K hK => ?_) AllReadyH.nil
      rw [if_pos (by rfl)]
      go_simp
      refine hK.out _ _ ?_ (fun hH => ?_)
      ·obtain ⟨k0, k1, k2, k3, k4, k5, k6, k7, k8, k9, k10, k11, k12⟩ := hH
       have hcc : ∀ o v, w1.cell? ⟨X, o, none⟩ = some v → (w1.setCell ⟨q, 2, none⟩ (.slice (some ⟨g2, 0, none⟩) (n + 1) cap2)).cell? ⟨X, o, none⟩ = some v := fun o v hv => by rw [World.cell?_setCell_other _ _ _ _ (by first | (simp; done) | (simp; omega))]; exact hv
       exact And.intro (hcc _ _ k0) (And.intro (hcc _ _ k1) (And.intro (hcc _ _ k2) (And.intro (hcc _ _ k3) (And.intro (hcc _ _ k4) (And.intro (hcc _ _ k5) (And.intro (hcc _ _ k6) (And.intro (hcc _ _ k7) (And.intro (hcc _ _ k8) (And.intro (hcc _ _ k9) (And.intro (hcc _ _ k10) (And.intro (hcc _ _ k11) (hcc _ _ k12))))))))))))
      clear hK K hH
      try go_frame
      refine wpAnyH_done (by kernel_rfl) ?_ _
      go_wp2
      go_end0
      refine ⟨rfl, ⟨.slice (some ⟨g2, 0, none⟩) (n + 1) cap2, [.string r.name.text, .int .i64 v1, .int .i64 s1, .int .i64 v3, .int .i64 v4, vm, vu, y7, y8, y9, vp, .bool r.act.decline, .bool r.act.cheapest], ?_⟩, (HF34.out.mono (fun k e => by have := HS0.out.pB; omega)).trans HFIN.out.2⟩
      have e := HFIN.out.1
      have ef2 : refPlsF rts 1 f20 r.act.routes = refRuleF rts (rrs.map RuleR.name) f r := by
       unfold refRuleF
       rw [HF20.out, HF19.out, HF18.out, HF17.out, HF11.out, HF6.out, HFN.out, HS2.out, HV4.out, HV3.out, ← HB6.out, HS1.out, List.length_map, HN.out, HB8.out]
      rw [ef2] at e
      exact e
end Go.Proofs.YtccikgogjfbpeaaGreatDoor
