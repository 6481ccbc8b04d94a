import Derived.Test.YtccikgogjfbpeaaGreatDoorQt
namespace Go.Proofs.YtccikgogjfbpeaaGreatDoor
set_option maxRecDepth 30000
set_option maxHeartbeats 8000000
open Go.RowKit
def intRowZ (ns : List Int) : List Value := ns.map fun n : Int => Value.int .i64 n
def RrV (base : Nat) (w : World) (r : RuleR) (cs : List Value) : Prop :=
 ∃ vm vc vp, cs = [.string r.name, .int .i64 r.rank, .int .i64 r.width, .int .i64 r.lo, .int .i64 r.hi, vm, vc, .bool r.am.isSome, .int .i64 (r.am.getD (0, 0)).1, .int .i64 (r.am.getD (0, 0)).2, vp, .bool r.decline, .bool r.cheapest] /\
  w.ownsRow base 3 1 vm r.mcc.length (intRow r.mcc) /\ w.ownsRow base 3 1 vc r.cur.length (intRow r.cur) /\ w.ownsRow base 3 1 vp r.routes.length (intRowZ r.routes)
def RrVs (base : Nat) (w : World) : List RuleR -> List Value -> Prop
 | [], xs => xs = []
 | r :: rs, xs => ∃ c rest, xs = c ++ rest /\ RrV base w r c /\ RrVs base w rs rest
theorem RrV.keep {base : Nat} {w w' : World} {r : RuleR} {cs : List Value} (h : RrV base w r cs) (hk : ∀ v n xs, w.ownsRow base 3 1 v n xs -> w'.ownsRow base 3 1 v n xs) : RrV base w' r cs := by
 obtain ⟨vm, vc, vp, e, h1, h2, h3⟩ := h;exact ⟨vm, vc, vp, e, hk _ _ _ h1, hk _ _ _ h2, hk _ _ _ h3⟩
theorem RrVs.keep {base : Nat} {w w' : World} (hk : ∀ v n xs, w.ownsRow base 3 1 v n xs -> w'.ownsRow base 3 1 v n xs) : ∀ {rs : List RuleR} {xs : List Value}, RrVs base w rs xs -> RrVs base w' rs xs
 | [], _, h => h
 | _ :: _, _, ⟨c, rest, e, h1, h2⟩ => ⟨c, rest, e, h1.keep hk, RrVs.keep hk h2⟩
theorem RrVs.snoc {base : Nat} {w : World} {r : RuleR} {c : List Value} (hr : RrV base w r c) : ∀ {rs : List RuleR} {xs : List Value}, RrVs base w rs xs -> RrVs base w (rs ++ [r]) (xs ++ c)
 | [], _, h => by
  have h' : _ = [] := h;subst h';exact ⟨c, [], by simp, hr, rfl⟩
 | _ :: _, _, ⟨d, rest, e, h1, h2⟩ => ⟨d, rest ++ c, by rw [e, List.append_assoc], h1, RrVs.snoc hr h2⟩
structure RSt (w : World) (B B2 p q g i : Nat) (f : Fa) (body : List Tk) (cv : Nat) (vr vl : Value) (rts : List RouteM) (rrs : List RuleR) (xs : List Value) : Prop where
 wp : WkP w p q i f
 wt : WkT w q g body cv
 q1 : w.cell? ⟨q, 1, none⟩ = some vr
 q2 : w.cell? ⟨q, 2, none⟩ = some vl
 fq : ∀ o, w.frozen? ⟨q, o, none⟩ = false
 ro : w.ownsRow B2 189 3 vr rts.length (rtRow rts)
 lo : w.ownsRow B2 170 13 vl rrs.length xs
 ru : RrVs B2 w rrs xs
 gB : g < B
 pB : B <= p /\ p < B2
 qB : B <= q /\ q < B2
 ne : q ≠ p
 b2 : B2 <= w.heap.size
theorem RSt.step {w w' : World} {B B2 p q g i i' : Nat} {f f' : Fa} {body : List Tk} {cv : Nat} {vr vl : Value} {rts : List RouteM} {rrs : List RuleR} {xs : List Value} (h : RSt w B B2 p q g i f body cv vr vl rts rrs xs) (hp : WkP w' p q i' f') (hf : Fr (fun j => j = p) w w') : RSt w' B B2 p q g i' f' body cv vr vl rts rrs xs := by
 have hq : q < w.heap.size := bL w _ h.q1
 have hgp : g ≠ p := by have := h.gB; have := h.pB; omega
 have hS : ∀ k, k = p -> k < B2 := fun k e => by rw [e]; exact h.pB.2
 exact ⟨hp, h.wt.fr hf h.ne hgp, (hf.cell (p := ⟨q, 1, none⟩) hq h.ne).trans h.q1, (hf.cell (p := ⟨q, 2, none⟩) hq h.ne).trans h.q2, fun o => (hf.frozen (p := ⟨q, o, none⟩) hq h.ne).trans (h.fq o),
  oF h.ro hf hS, oF h.lo hf hS, RrVs.keep (fun v n ys hv => oF hv hf hS) h.ru, h.gB, h.pB, h.qB, h.ne, Nat.le_trans h.b2 hf.size⟩
theorem RSt.routes {w w5 : World} {B B2 p q g i : Nat} {f : Fa} {body : List Tk} {cv : Nat} {vr vl V : Value} {rts : List RouteM} {rrs : List RuleR} {xs : List Value} {rt : RouteM} {o : Obj} (h : RSt w B B2 p q g i f body cv vr vl rts rrs xs) (hg : (w.alloc o).grownBy w5 vr.ownBlock) (ho : w5.ownsRow B2 189 3 V (rts.length + 1) (rtRow rts ++ rtCells rt)) :
  w5.cell? ⟨q, 1, none⟩ = some vr /\ (∀ o, w5.frozen? ⟨q, o, none⟩ = false) /\ RSt (w5.setCell ⟨q, 1, none⟩ V) B B2 p q g i f body cv V vl (rts ++ [rt]) rrs xs /\ Fr (fun j => B <= j) w (w5.setCell ⟨q, 1, none⟩ V) := by
 have hlt : ∀ k, vr.ownBlock = some k -> B2 <= k := fun k hk => (h.ro.lt k hk).1
 have hF : Fr (fun k => vr.ownBlock = some k) w w5 := ((Fr.refl (fun k => vr.ownBlock = some k) w).alloc o).grown hg (fun k hk => Or.inl hk)
 have hn : ∀ k, k < B2 -> ¬ vr.ownBlock = some k := fun k hk e => by have := hlt k e; omega
 have hq : q < w.heap.size := bL w _ h.q1;have hgl : g < w.heap.size := h.wt.lt;have hgB := h.gB;have hpB := h.pB;have hqB := h.qB;have e1 : w5.cell? ⟨q, 1, none⟩ = some vr := (hF.cell (p := ⟨q, 1, none⟩) hq (hn q h.qB.2)).trans h.q1
 have ef : ∀ o, w5.frozen? ⟨q, o, none⟩ = false := fun o => (hF.frozen (p := ⟨q, o, none⟩) hq (hn q h.qB.2)).trans (h.fq o)
 have hwp := h.wp.fr hF (hn p h.pB.2);have hwt := h.wt.fr hF (hn q h.qB.2) (hn g (by omega));have hS : Fr (fun j => j = q) w5 (w5.setCell ⟨q, 1, none⟩ V) := (Fr.refl (fun j => j = q) w5).setCell (p := ⟨q, 1, none⟩) (Or.inl rfl) _;have hro : (w.alloc o).ownsRow B2 189 3 vr rts.length (rtRow rts) := h.ro.alloc _
 have hk : ∀ v n ys, w.ownsRow B2 3 1 v n ys -> (w5.setCell ⟨q, 1, none⟩ V).ownsRow B2 3 1 v n ys := fun v n ys hv => by
  have h3 : (w.alloc o).ownsRow B2 3 1 v n ys := hv.alloc _;exact oB (h3.kept hg (own_ne h3 hro (by decide))) (by simp; omega) _
 refine ⟨e1, ef, ⟨hwp.fr hS (fun e => h.ne e.symm), ?_, World.cell?_setCell_same _ _ _ e1, ?_, fun o => by simp [ef o], ?_, ?_, RrVs.keep hk h.ru, h.gB, h.pB, h.qB, h.ne, ?_⟩, ?_⟩
 ·refine ⟨?_, nL hwt.lt hS.size, hwt.row.fr hS hwt.lt (by omega)⟩
  rw [cO _ _ _ _ (by simp)];exact hwt.c0
 ·rw [cO _ _ _ _ (by simp)]
  exact (hF.cell (p := ⟨q, 2, none⟩) hq (hn q h.qB.2)).trans h.q2
 ·rw [rtRow_snoc, lA]
  exact oB ho (by simp; omega) _
 ·have h3 : (w.alloc o).ownsRow B2 170 13 vl rrs.length xs := h.lo.alloc _
  exact oB (h3.kept hg (own_ne h3 hro (by decide))) (by simp; omega) _
 ·exact Nat.le_trans h.b2 (Nat.le_trans hF.size hS.size)
 ·exact (hF.mono (fun k hk => by have := hlt k hk; omega)).trans (hS.mono (fun k e => by omega))
theorem refNames_append (nm : ByteArray) (line : Nat) (f : Fa) (xs ys : List ByteArray) : refNames nm line f (xs ++ ys) = refNames nm line (refNames nm line f xs) ys := by
 induction xs generalizing f with
 | nil => rfl
 | cons x r ih => exact ih _
theorem refNames_take {nm : ByteArray} {line : Nat} {f : Fa} {l : List ByteArray} {j : Nat} {x : ByteArray} (h : l[j]? = some x) : refNames nm line f (l.take (j + 1)) = noteM (refNames nm line f (l.take j)) (x.toList == nm.toList) 4 line := by
 rw [List.take_add_one, h, refNames_append];rfl
theorem Tryz.infoRRoute : (Tryz.prog.info? 189).map (fun i => (i.zero, i.size, i.bytes)) = some (some (.agg #[.string ByteArray.empty, .int .i64 0, .int .i64 0]), 3, 32) := by kernel_rfl
theorem ownsRow_rrt {w : World} {base : Nat} {v : Value} {rs : List RouteM} (h : w.ownsRow base 189 3 v rs.length (rtRow rs)) :
  ∃ a c, v = .slice a rs.length c /\ ∀ j r, rs[j]? = some r -> ∃ g, a = some ⟨g, 0, none⟩ /\ base <= g /\ g < w.heap.size /\ w.cell? ⟨g, j * 3, none⟩ = some (.string r.name) := by
 obtain ⟨a, c, e⟩ := oL h;refine ⟨a, c, e, fun j r hj => ?_⟩
 have hn : 0 < rs.length := by have := (iG.1 hj).1; omega
 obtain ⟨g, cap, e2, hb, hl⟩ := h.form hn;rw [e] at e2;injection e2 with e1 _ e3;subst e1 e3;subst e;refine ⟨g, rfl, hb, hl, ?_⟩;obtain ⟨a, _, _⟩ := rtRow_get rs j r hj;have := h.cells (g := g) rfl _ _ a
 rwa [addr_add, Nat.zero_add] at this
theorem wroute_any (w : World) (B B2 p q g i : Nat) (f : Fa) (body : List Tk) (cv : Nat) (vr vl : Value) (rts : List RouteM) (rrs : List RuleR) (xs : List Value) (tn tb tr : Tk) (h : RSt w B B2 p q g i f body cv vr vl rts rrs xs) (hb : body.length <= 3000) (h6 : rts.length <= 6)
  (t1 : body[i + 1]? = some tn) (t2 : body[i + 2]? = some tb) (t3 : body[i + 3]? = some tr) (d2 : Dg tb.text) (d3 : Dg tr.text) :
  Calls Tryz.prog 81 #[.pointer (some ⟨p, 0, none⟩)] w fun e w' => e = .returned (.tuple #[]) /\ (∃ vr', RSt w' B B2 p q g (i + 4) (refRouteF rts f ⟨tn, tb, tr⟩) body cv vr' vl (rts ++ [⟨tn.text, valOf tb, valOf tr⟩]) rrs xs) /\ Fr (fun j => B <= j) w w' := by
 obtain ⟨ii, hi, hz0, hz1, hz2⟩ := info_parts Tryz.infoRRoute;have HS := hid h;have HI1 := hid t1;have HI2 := hid t2;have HI3 := hid t3;have HD : Hid (Dg tb.text /\ Dg tr.text) := ⟨d2, d3⟩;have hib : i + 3 < body.length := (iG.1 t3).1;have HQ : Hid (q ≠ p /\ g ≠ p) := ⟨h.ne, by have := h.gB; have := h.pB; omega⟩;obtain ⟨va, vc, rfl, hrow⟩ := ownsRow_rrt h.ro;have HROW := hid hrow;obtain ⟨n, hn⟩ : ∃ n, rts.length = n := ⟨_, rfl⟩;have HN := hid hn
 have HSN : Hid (RSt w B B2 p q g i f body cv (.slice va n vc) vl rts rrs xs) := by rw [<- hn]; exact h
 obtain ⟨b6, hb6⟩ : ∃ b, decide (6 <= n) = b := ⟨_, rfl⟩
 have hb6' : decide ((6 : Int) <= (n : Int)) = b6 := by rw [<- hb6]; by_cases hq : 6 <= n <;> simp [hq] <;> omega
 have HB6 := hid hb6
 have hn6 : n <= 6 := by omega
 have c0 := h.wp.c0;have c1 := h.wp.c1;have fz := h.wp.fz;have q1 := HSN.o.q1;have hm0 := h.wp.move (i + 1);rw [Int.natCast_add] at hm0;have HM0 := hid hm0;have q1' : (w.setCell ⟨p, 1, none⟩ (.int .i64 ((i : Int) + 1))).cell? ⟨q, 1, none⟩ = some (.slice va n vc) := (HSN.o.step hm0.1 hm0.2).q1;clear h t1 t2 t3 d2 d3 hrow hn HS hm0;go_enter Tryz.func81, Tryz.ntmps81;go_wp2_with fail;refine (fault_any _ p q g (i + 1) f body cv tn _ 6 _ HM0.o.1 (HSN.o.step HM0.o.1 HM0.o.2).wt HQ.o.1 HQ.o.2 HI1.o (by decide) (by rfl)).mono ?_;rintro e w3 ⟨rfl, hP3, hF3⟩;have HP3 := hid hP3;have HF3 := hid (HM0.o.2.trans hF3);have HT3 := hid ((HSN.o.step HP3.o HF3.o).wt);clear hP3 hF3 c0 c1 fz q1 q1';go_wp2_with fail;refine (at_any w3 p q g (i + 1) _ body cv tn HP3.o HT3.o HI1.o).mono ?_;rintro e w4 ⟨rfl, hf⟩;have HP4 := hid (HP3.o.fr hf (by simp));have HF4 := hid (HF3.o.trans (hf.mono (by simp)));clear hf;go_wp2_with fail
 go_loopg [4] n (fun m o wr => ∃ j, j <= n /\ m = n - j /\ o = .int .i64 (j : Nat) /\ Hid (WkP wr p q (i + 1) (refNames tn.text tn.line (noteM f b6 6 tn.line) ((rts.map RouteM.name).take j))) /\ Hid (Fr (fun j => j = p) w wr))
 case atStart => exact ⟨0, Nat.zero_le _, rfl, rfl, HP4, HF4⟩
 case round =>
  obtain ⟨j, hj, rfl, rfl, HW, HF⟩ := hrel;have HSR := hid (HSN.o.step HW.o HF.o);have q1 := HSR.o.q1;by_cases hlt : j < n
  ·obtain ⟨x, hx⟩ : ∃ x, rts[j]? = some x := ⟨_, gE (by have := HN.o; omega)⟩
   obtain ⟨g3, rfl, hg3, hl3, r0⟩ := HROW.o j x hx;rw [<- HF.o.cell (p := ⟨g3, j * 3, none⟩) hl3 (by have := HSN.o.pB; simp; omega)] at r0
   have HNX : Hid ((rts.map RouteM.name)[j]? = some x.name) := by show _ = _; rw [List.getElem?_map, hx]; rfl
   obtain ⟨bx, hbx⟩ : ∃ b, (x.name.toList == tn.text.toList) = b := ⟨_, rfl⟩;have HBX := hid hbx
   have hki : (j : Int) < (n : Int) := by omega
   clear hx;go_wp2_with fail;refine (fault_any _ p q g (i + 1) _ body cv tn bx 4 _ HW.o HSR.o.wt HQ.o.1 HQ.o.2 HI1.o (by decide) (by rfl)).mono ?_;rintro e w5 ⟨rfl, hP5, hF5⟩;have HP5 := hid hP5;have HF5 := hid (HF.o.trans hF5);clear hP5 hF5 q1 r0;go_wp2;go_roundg (n - (j + 1))
   case measure => omega
   case rel =>
    refine ⟨j + 1, by omega, rfl, by go_num, ?_, HF5⟩
    show WkP _ _ _ _ _
    rw [refNames_take HNX.o, HBX.o];exact HP5.o
  ·have hki : ¬ (j : Int) < (n : Int) := by omega
   have ej : j = n := by omega
   have HW' : Hid (WkP wr p q (i + 1) (refNames tn.text tn.line (noteM f b6 6 tn.line) (rts.map RouteM.name))) := by
    have e := HW.o;rw [List.take_of_length_le (by rw [List.length_map]; have := HN.o; omega)] at e;exact e
   obtain ⟨fn, hfn⟩ : ∃ fn, fn = refNames tn.text tn.line (noteM f b6 6 tn.line) (rts.map RouteM.name) := ⟨_, rfl⟩;rw [<- hfn] at HW';have HFN := hid hfn;have c1 := HW'.o.c1;have fz := HW'.o.fz;have hm := HW'.o.move (i + 1 + 1);rw [Int.natCast_add (i + 1)] at hm;have HM := hid hm;clear hm HW hfn ej;obtain ⟨x, hx⟩ : ∃ x, x = i + 1 := ⟨_, rfl⟩;have HXE := hid hx;rw [<- hx] at c1 HM
   have hxb : x + 3 <= 3000 := by omega
   clear hx;go_wp2_with fail
   have HI2' : Hid (body[x + 1]? = some tb) := by have := HI2.o; rw [HXE.o]; exact this
   have HI3' : Hid (body[x + 1 + 1]? = some tr) := by have := HI3.o; rw [HXE.o]; exact this
   refine (up_any _ p q g (x + 1) fn body cv tb 1000000 _ _ HM.o.1 ((HSN.o.step HM.o.1 (HF.o.trans HM.o.2)).wt) HQ.o.1 HQ.o.2 HI2'.o HD.o.1 (by omega) (by rfl) (by rfl)).mono ?_;rintro e w6 ⟨rfl, hP6, hF6⟩;have HP6 := hid hP6;have HF6 := hid ((HF.o.trans HM.o.2).trans hF6);clear hP6 hF6 c1 fz;go_wp2_with fail;refine (up_any _ p q g (x + 1 + 1) _ body cv tr 1000 _ _ HP6.o ((HSN.o.step HP6.o HF6.o).wt) HQ.o.1 HQ.o.2 HI3'.o HD.o.2 (by omega) (by rfl) (by rfl)).mono ?_;rintro e w7 ⟨rfl, hP7, hF7⟩;have HP7 := hid hP7;have HF7 := hid (HF6.o.trans hF7);have HS7 := hid (HSN.o.step HP7.o HF7.o);have q1 := HS7.o.q1;have hb2 := HS7.o.b2;clear hP7 hF7
   go_wp2_with (at_builtin; refine wpList_append_lies _ rfl (.tmp 64) (.tmp 69) 68 rfl B2 189 ii _ 3 32 Tryz.underlying68 hi hz0 hz1 hz2 rfl (by decide) (.slice va n vc) n (rtRow rts) rfl ?h1 ⟨w7.heap.size, 0, none⟩ 1 1 [.string tn.text, .int .i64 (valOf tb), .int .i64 (valOf tr)] rfl rfl ?h2 ?h3 (by decide) ?h4 ?h5 ?h6 _ rfl ?h7)
   case h1 => have e := HS7.o.ro; rw [HN.o] at e; exact e.alloc _
   try case h2 => exact World.news_of_block (aN w7 (.cells #[.string tn.text, .int .i64 (valOf tb), .int .i64 (valOf tr)] 189))
   case h3 => simp [Value.oneCell']
   case h4 => unfold maxLen; omega
   case h5 => omega
   case h6 => first | omega | (simp; omega)
   case h7 =>
    intro g2 cap2 w8 hown hgrow _ _;obtain ⟨e1, ef, hfin⟩ := HS7.o.routes (rt := ⟨tn.text, valOf tb, valOf tr⟩) (V := .slice (some ⟨g2, 0, none⟩) (n + 1) cap2) hgrow (by rw [HN.o]; exact hown);have HFIN := hid hfin;clear hfin hgrow hown q1;go_wp2
    go_end0
    refine ⟨rfl, ⟨.slice (some ⟨g2, 0, none⟩) (n + 1) cap2, ?_⟩, (HF7.o.mono (fun k e => by have := HSN.o.pB; omega)).trans HFIN.o.2⟩;have e := HFIN.o.1;rw [HXE.o] at e;unfold refRouteF;rw [HN.o, HB6.o];rw [HFN.o] at e;exact e
structure XB (w : World) (X : Nat) (cs : Nat -> Value) : Prop where
 cell : ∀ o, o < 13 -> w.cell? ⟨X, o, none⟩ = some (cs o)
 fz : ∀ o, w.frozen? ⟨X, o, none⟩ = false
def upd (cs : Nat -> Value) (k : Nat) (v : Value) : Nat -> Value := fun o => if o = k then v else cs o
theorem XB.set {w : World} {X : Nat} {cs : Nat -> Value} (h : XB w X cs) {k : Nat} (hk : k < 13) (v : Value) : XB (w.setCell ⟨X, k, none⟩ v) X (upd cs k v) /\ Fr (fun j => j = X) w (w.setCell ⟨X, k, none⟩ v) := by
 refine ⟨⟨fun o ho => ?_, fun o => by simp [h.fz o]⟩, (Fr.refl (fun j => j = X) w).setCell (p := ⟨X, k, none⟩) (Or.inl rfl) _⟩;unfold upd;by_cases e : o = k
 ·subst e
  rw [if_pos rfl];exact cS _ _ _ (h.cell o ho)
 ·rw [if_neg e, cO _ _ _ _ (by simp)]
  exact h.cell o ho
theorem XB.fr {w w' : World} {X : Nat} {cs : Nat -> Value} {S : Nat -> Prop} (h : XB w X cs) (hf : Fr S w w') (hS : ¬ S X) : XB w' X cs := by
 have hl : X < w.heap.size := bL w _ (h.cell 0 (by omega));exact ⟨fun o ho => (hf.cell (p := ⟨X, o, none⟩) hl hS).trans (h.cell o ho), fun o => (hf.frozen (p := ⟨X, o, none⟩) hl hS).trans (h.fz o)⟩
theorem lastPlace_snoc (nm : ByteArray) (l : List RouteM) : ∀ (i : Nat) (found : Int) (x : RouteM), lastPlace nm found i (l ++ [x]) = if (x.name.toList == nm.toList) = true then ((i + l.length : Nat) : Int) else lastPlace nm found i l := by
 induction l with
 | nil => intro i found x; simp [lastPlace]
 | cons y r ih =>
  intro i found x;simp only [List.cons_append, lastPlace];rw [ih (i + 1)];simp only [List.length_cons];rw [show i + 1 + r.length = i + (r.length + 1) from by omega]
theorem lastPlace_take {nm : ByteArray} {l : List RouteM} {j : Nat} {x : RouteM} (h : l[j]? = some x) : lastPlace nm (-1) 0 (l.take (j + 1)) = if (x.name.toList == nm.toList) = true then (j : Int) else lastPlace nm (-1) 0 (l.take j) := by
 have hlt := (iG.1 h).1;rw [List.take_add_one, h]
 show lastPlace nm (-1) 0 (l.take j ++ [x]) = _
 rw [lastPlace_snoc, List.length_take, Nat.zero_add, Nat.min_eq_left (by omega)]
theorem intRowZ_snoc (ns : List Int) (n : Int) : intRowZ (ns ++ [n]) = intRowZ ns ++ [.int .i64 n] := by simp [intRowZ]
def WAPost (w : World) (p q X i : Nat) (f : Fa) (cs : Nat -> Value) (ps : List Int) (dc ch : Bool) (e : Ending) (w' : World) : Prop :=
 e = .returned (.tuple #[]) /\ WkP w' p q i f /\ (∃ vp, XB w' X (upd (upd (upd cs 11 (.bool dc)) 12 (.bool ch)) 10 vp) /\ w'.ownsRow w.heap.size 3 1 vp ps.length (intRowZ ps)) /\ Fr (fun j => j = p \/ j = X) w w'
theorem waction_decline (w : World) (p q g X i : Nat) (f : Fa) (body : List Tk) (cv : Nat) (cs : Nat -> Value) (t : Tk) (hp : WkP w p q i f) (hT : WkT w q g body cv) (hx : XB w X cs) (hX : X ≠ p) (h10 : cs 10 = .slice none 0 0) (h11 : cs 11 = .bool false) (h12 : cs 12 = .bool false) (hi : i <= 3000)
  (ht : body[i]? = some t) (hk : (t.text.toList == [100, 101, 99, 108, 105, 110, 101]) = true) :
  Calls Tryz.prog 135 #[.pointer (some ⟨p, 0, none⟩), .pointer (some ⟨X, 0, none⟩)] w (WAPost w p q X (i + 1) f cs [] true false) := by
 have HP := hid hp;have HX := hid hx;have H1 : Hid (cs 10 = .slice none 0 0 /\ cs 11 = .bool false /\ cs 12 = .bool false) := ⟨h10, h11, h12⟩;have HN := hid hX;have HA := hid (at_any w p q g i f body cv t hp hT ht);clear hp hT hx h10 h11 h12 ht hX;go_enter Tryz.func135, Tryz.ntmps135;go_wp2_with fail;refine HA.o.mono ?_;rintro e w1 ⟨rfl, hf⟩;have HF1 := hid hf;have HX1 := hid (HX.o.fr hf (by simp));have HP1 := hid (HP.o.fr hf (by simp));clear hf;have hs := HX1.o.set (k := 11) (by omega) (.bool true);have HS := hid hs;have HPS := hid (HP1.o.fr hs.2 (fun e => HN.o e.symm));have x11 := HX1.o.cell 11 (by omega);have xf := HX1.o.fz;have c1 := HPS.o.c1;have fz := HPS.o.fz;clear hs;go_wp2
 go_end0
 have hm := HPS.o.move (i + 1);rw [Int.natCast_add] at hm;refine ⟨rfl, hm.1, ⟨.slice none 0 0, ?_, oZ _ _ _ _⟩, ?_⟩
 ·have e := HS.o.1.fr hm.2 HN.o
  refine ⟨fun o ho => (e.cell o ho).trans ?_, e.fz⟩;have h1 := H1.o;unfold upd;by_cases e10 : o = 10
  ·subst e10; simp [h1.1]
  ·by_cases e11 : o = 11
   ·subst e11; simp
   ·by_cases e12 : o = 12
    ·subst e12; simp [h1.2.2]
    ·simp [e10, e11, e12]
 ·exact ((HF1.o.mono (by simp)).trans (HS.o.2.mono (fun k e => Or.inr e))).trans (hm.2.mono (fun k e => Or.inl e))
theorem XB.congr {w : World} {X : Nat} {cs ds : Nat -> Value} (h : XB w X cs) (e : ∀ o, o < 13 -> cs o = ds o) : XB w X ds := ⟨fun o ho => (h.cell o ho).trans (by rw [e o ho]), h.fz⟩
structure View (w : World) (p q g X : Nat) (body : List Tk) (cv : Nat) (va : Option Addr) (n vc : Nat) (rts : List RouteM) : Prop where
 wt : WkT w q g body cv
 q1 : w.cell? ⟨q, 1, none⟩ = some (.slice va n vc)
 n1 : q ≠ p /\ g ≠ p /\ q ≠ X /\ g ≠ X /\ X ≠ p
 ln : rts.length = n /\ n <= 7
 row : ∀ j r, rts[j]? = some r -> ∃ g3, va = some ⟨g3, 0, none⟩ /\ g3 ≠ p /\ g3 ≠ X /\ g3 < w.heap.size /\ w.cell? ⟨g3, j * 3, none⟩ = some (.string r.name)
theorem View.fr {w w' : World} {p q g X : Nat} {body : List Tk} {cv : Nat} {va : Option Addr} {n vc : Nat} {rts : List RouteM} (h : View w p q g X body cv va n vc rts) (hf : Fr (fun j => j = p \/ j = X) w w') : View w' p q g X body cv va n vc rts := by
 obtain ⟨n1, n2, n3, n4, n5⟩ := h.n1;have hq : q < w.heap.size := bL w _ h.q1;refine ⟨h.wt.fr hf (by simp [n1, n3]) (by simp [n2, n4]), (hf.cell (p := ⟨q, 1, none⟩) hq (by simp [n1, n3])).trans h.q1, h.n1, h.ln, fun j r hj => ?_⟩;obtain ⟨g3, e, h1, h2, h3, h4⟩ := h.row j r hj;exact ⟨g3, e, h1, h2, Nat.lt_of_lt_of_le h3 hf.size, (hf.cell (p := ⟨g3, j * 3, none⟩) h3 (by simp [h1, h2])).trans h4⟩
theorem Fr.no {S : Nat -> Prop} {w w' : World} (h : F0 w w') : Fr S w w' := h.mono (by simp)
