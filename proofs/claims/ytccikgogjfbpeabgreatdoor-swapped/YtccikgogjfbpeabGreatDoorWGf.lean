/- The tree: the place of a program. The tree: nodes in memory; what a node's growth leans on. -/
import Derived.Test.YtccikgogjfbpeabGreatDoorWHa
import Derived.Test.YtccikgogjfbpeabGreatDoorWGd
import Derived.Test.YtccikgogjfbpeabGreatDoorWZa
import Derived.Maps.OwnSet
import Derived.Maps.Views
namespace Go.Proofs.YtccikgogjfbpeabGreatDoor
open Go.RowKit Go.Maps
theorem ownsRow_avoid {w w' : World} {S : Nat -> Prop} {base : Nat} {e : TypeId} {size : Nat} {v : Value} {n : Nat} {xs : List Value} (h : w.ownsRow base e size v n xs) (hf : Fr S w w') (hS : ∀ k, v.ownBlock = some k -> ¬ S k) : w'.ownsRow base e size v n xs := by
 refine ⟨h.1, h.2.imp id ?_⟩
 rintro ⟨g, cap, cur, rfl, h2, h3, h4⟩
 exact ⟨g, cap, cur, rfl, h2, hf.whole h3 (hS g rfl), h4⟩
theorem own_ne_block {w : World} {b : Nat} {e t : TypeId} {s : Nat} {v : Value} {n g : Nat} {xs : List Value} {cs : Array Value} {f : Nat × Nat} (h : w.ownsRow b e s v n xs) (hg : w.heap[g]? = some (.cells cs t f)) (hne : e ≠ t) : v.ownBlock ≠ some g := by
 rcases h.2 with ⟨rfl, _⟩ | ⟨g', cap, cur, rfl, _, hg', _⟩
 ·simp [Value.ownBlock]
 ·intro e'
  simp [Value.ownBlock] at e'
  subst e'
  rw [hg] at hg'
  injection hg' with hg'
  injection hg' with _ hg' _
  exact hne hg'.symm
theorem own_ne_map {w : World} {b : Nat} {e : TypeId} {s : Nat} {v : Value} {n g : Nat} {xs : List Value} {es : Array MapEntry} {c : Nat} (h : w.ownsRow b e s v n xs) (hg : w.heap[g]? = some (.map es c)) : v.ownBlock ≠ some g := by
 rcases h.2 with ⟨rfl, _⟩ | ⟨g', cap, cur, rfl, _, hg', _⟩
 ·simp [Value.ownBlock]
 ·intro e'
  simp [Value.ownBlock] at e'
  subst e'
  rw [hg] at hg'
  injection hg' with hg'
  cases hg'
structure RuW (zb : Nat) (w0 : World) (S : Nat -> Prop) (v0 v1 : Value) (rls : List RuleM) (ord : Nat -> Nat) : Prop where
 zl : zb <= w0.heap.size
 rl : ∃ va c, v0 = .slice va rls.length c /\ ∀ i r, rls[i]? = some r -> ∃ g ma mc ca cc pa pc, va = some ⟨g, 0, none⟩ /\ g < w0.heap.size /\ ¬ S g /\
   (∀ o v, [Value.string r.name, .int .i64 r.rank, .int .i64 r.digits, .int .i64 r.lo, .int .i64 r.hi, .slice ma r.mcc.length mc, .bool r.am.isSome, .int .i64 (r.am.getD (0, 0)).1, .int .i64 (r.am.getD (0, 0)).2, .slice ca r.cur.length cc, .bool r.decline, .bool r.cheapest, .slice pa r.routes.length pc, .int .i64 r.ahead][o]? = some v -> w0.cell? ⟨g, i * 14 + o, none⟩ = some v) /\
   (w0.ownsRow zb 3 1 (.slice ma r.mcc.length mc) r.mcc.length (intRow r.mcc) /\ ∀ k, (Value.slice ma r.mcc.length mc).ownBlock = some k -> ¬ S k) /\ (w0.ownsRow zb 3 1 (.slice ca r.cur.length cc) r.cur.length (intRow r.cur) /\ ∀ k, (Value.slice ca r.cur.length cc).ownBlock = some k -> ¬ S k) /\ (w0.ownsRow zb 3 1 (.slice pa r.routes.length pc) r.routes.length (intRow r.routes) /\ ∀ k, (Value.slice pa r.routes.length pc).ownBlock = some k -> ¬ S k)
 od : ∃ oa oc, v1 = .slice oa rls.length oc /\ ∀ k, k < rls.length -> ∃ og, oa = some ⟨og, 0, none⟩ /\ og < w0.heap.size /\ ¬ S og /\ w0.cell? ⟨og, k, none⟩ = some (.int .i64 (ord k))
theorem RuW.at {zb : Nat} {w0 w : World} {S : Nat -> Prop} {v0 v1 : Value} {rls : List RuleM} {ord : Nat -> Nat} {G : Nat} (h : RuW zb w0 S v0 v1 rls ord) (hf : Fr S w0 w) (h0 : w.cell? ⟨G, 0, none⟩ = some v0) (h1 : w.cell? ⟨G, 1, none⟩ = some v1) : GrW zb w G rls ord := by
 obtain ⟨hz, ⟨va, c, rfl, h2⟩, oa, oc, rfl, h4⟩ := h
 refine ⟨Nat.le_trans hz hf.size, ⟨va, c, h0, fun i r hi => ?_⟩, oa, oc, h1, fun k hk => ?_⟩
 ·obtain ⟨g, ma, mc, ca, cc, pa, pc, e1, e2, eS, e3, e4, e5, e6⟩ := h2 i r hi
  exact ⟨g, ma, mc, ca, cc, pa, pc, e1, Nat.lt_of_lt_of_le e2 hf.size, fun o v ho => (hf.cell (p := ⟨g, i * 14 + o, none⟩) e2 eS).trans (e3 o v ho), ownsRow_avoid e4.1 hf e4.2, ownsRow_avoid e5.1 hf e5.2, ownsRow_avoid e6.1 hf e6.2⟩
 ·obtain ⟨og, e1, e2, eS, e3⟩ := h4 k hk
  exact ⟨og, e1, Nat.lt_of_lt_of_le e2 hf.size, (hf.cell (p := ⟨og, k, none⟩) e2 eS).trans e3⟩
structure PlD (D : DataW Unit) (ps : List Nat) : Prop where
 im : IsMap D
 at' : ∀ m : Nat, m < 256 -> Maps.has D (.int .u64 m) = decide (m ∈ ps) /\ (m ∈ ps -> ∀ z, D.atKey (.int .u64 m) z = .lit (.int .i64 (ps.idxOf m : Nat)))
theorem PlD.put {D : DataW Unit} {ps : List Nat} {met : Nat} (h : PlD D ps) (hn : met ∉ ps) : PlD (D.put (.int .u64 met) (.lit (.int .i64 (ps.length : Nat)))) (ps ++ [met]) := by
 refine ⟨h.im.put _ _, fun m hm => ?_⟩
 by_cases e : m = met
 ·subst e
  refine ⟨?_, fun _ z => ?_⟩
  ·rw [has_put_same h.im (by simp [WideAt.IsKeyLit])]
   simp
  ·rw [atKey_put_same h.im (by simp [WideAt.IsKeyLit]), List.idxOf_append, if_neg hn]
   simp
 ·have hne : Lit.int .u64 (m : Nat) ≠ Lit.int .u64 (met : Nat) := by
   intro e'
   injection e' with _ e'
   omega
  obtain ⟨h1, h2⟩ := h.at' m hm
  refine ⟨?_, fun hi z => ?_⟩
  ·rw [has_put_other hne, h1]
   simp [e]
  ·have hi' : m ∈ ps := by simpa [e] using hi
   rw [atKey_put_other hne, h2 hi' z, List.idxOf_append, if_pos hi']
theorem Tryz.lawSet : Keyed Tryz.prog 133 := int_keyed Tryz.underlying133
theorem Tryz.zero3 (w : World) : (zeroValue 3).run Tryz.prog w = .ok (.int .i64 0) w := by kernel_rfl
theorem keySet (m : Nat) (h : m < 256) : keyOf Tryz.prog 133 (.int .u64 m) = some (.int .u64 m) := keyOf_int_mk Tryz.underlying133 (WalkArith.wf_u64 (by omega))
theorem Tryz.infoSteps : (Tryz.prog.info? 101).map (fun i => (i.zero, i.size, i.bytes)) = some (some (.slice none 0 0), 1, 24) := by kernel_rfl
structure GrS (zb : Nat) (w0 w : World) (G M : Nat) (v0 v1 : Value) (R : List RuleM) (ord : Nat -> Nat) (ps : List Nat) (vp : Value) : Prop where
 ru : RuW zb w0 (fun k => k = G \/ k = M) v0 v1 R ord
 fr : Fr (fun k => k = G \/ k = M) w0 w
 bx : w.heap[G]? = some (.cells #[v0, v1, vp, .map (some M)] 128)
 mp : ∃ D : DataW Unit, w.ownsMap Tryz.prog 133 (plainElem Tryz.prog 3) M ps.length D /\ PlD D ps
 pg : ∃ xs, w.ownsRow w0.heap.size 101 1 vp ps.length xs /\ ∀ (j m : Nat), ps[j]? = some m -> ∃ vj, xs[j]? = some vj /\ StRow zb w zb vj (writeM R m (ordL R.length ord))
 nd : ps.Nodup
 lt : ∀ m, m ∈ ps -> m < 256
theorem stRow_keep {zb : Nat} {w w' : World} {S : Nat -> Prop} {v : Value} {l : List StepM} (h : StRow zb w zb v l) (hf : Fr S w w') (hS : ∀ e s v n xs, (e = 172 \/ e = 3) -> w.ownsRow zb e s v n xs -> ∀ k, v.ownBlock = some k -> ¬ S k) : StRow zb w' zb v l := by
 obtain ⟨xs, h1, h2⟩ := h
 exact ⟨xs, ownsRow_avoid h1 hf (hS _ _ _ _ _ (Or.inl rfl) h1), h2.keep (fun v n ys hv => ownsRow_avoid hv hf (hS _ _ _ _ _ (Or.inr rfl) hv))⟩
theorem own_apart {zb : Nat} {w : World} {G M b n : Nat} {cs : Array Value} {es : Array MapEntry} {ck : Nat} {vp : Value} {ys : List Value} (hg : w.heap[G]? = some (.cells cs 128)) (hm : w.heap[M]? = some (.map es ck)) (hp : w.ownsRow b 101 1 vp n ys) :
  ∀ e s v n xs, (e = 172 \/ e = 3) -> w.ownsRow zb e s v n xs -> ∀ k, v.ownBlock = some k -> ¬ (k = G \/ k = M \/ vp.ownBlock = some k) := by
 rintro e s v n xs he hr k hk (rfl | rfl | h)
 ·exact own_ne_block hr hg (by rcases he with rfl | rfl <;> decide) hk
 ·exact own_ne_map hr hm hk
 ·rcases own_ne hr hp (by rcases he with rfl | rfl <;> decide) with h' | h'
  ·rw [h'] at hk
   cases hk
  ·exact h' (hk.trans h.symm)
theorem GrS.more {zb : Nat} {w0 w w1 w6 w7 : World} {G M : Nat} {v0 v1 : Value} {R : List RuleM} {ord : Nat -> Nat} {ps : List Nat} {pa : Option Addr} {n pc met g cap : Nat} {xs : List Value} {D1 : DataW Unit} {u : Value}
  (h : GrS zb w0 w G M v0 v1 R ord ps (.slice pa n pc)) (hn : ps.length = n) (hin : met ∉ ps) (hm : met < 256) (hM : M < w0.heap.size) (hG : G < w0.heap.size)
  (hop : w.ownsRow w0.heap.size 101 1 (.slice pa n pc) n xs) (hpp : ∀ (j m : Nat), ps[j]? = some m -> ∃ vj, xs[j]? = some vj /\ StRow zb w zb vj (writeM R m (ordL R.length ord)))
  (hom : w1.ownsMap Tryz.prog 133 (plainElem Tryz.prog 3) M (n + 1) D1) (hD1 : PlD D1 (ps ++ [met])) (hf1 : Fr (fun k => k = M) w w1) (hf6 : F0 w1 w6) (hst : StRow zb w6 zb u (writeM R met (ordL R.length ord)))
  (hown : w7.ownsRow w0.heap.size 101 1 (.slice (some ⟨g, 0, none⟩) (n + 1) cap) (n + 1) (xs ++ [u])) (hgrow : w6.grownBy w7 (Value.slice pa n pc).ownBlock) :
  GrS zb w0 (w7.setCell ⟨G, 2, none⟩ (.slice (some ⟨g, 0, none⟩) (n + 1) cap)) G M v0 v1 R ord (ps ++ [met]) (.slice (some ⟨g, 0, none⟩) (n + 1) cap) /\ Fr (fun k => k = G \/ k = M \/ (Value.slice pa n pc).ownBlock = some k) w (w7.setCell ⟨G, 2, none⟩ (.slice (some ⟨g, 0, none⟩) (n + 1) cap)) /\ w7.cell? ⟨G, 2, none⟩ = some (.slice pa n pc) /\ w7.frozen? ⟨G, 2, none⟩ = false := by
 have hOB : ∀ k, (Value.slice pa n pc).ownBlock = some k -> w0.heap.size <= k := fun k hk => (hop.lt k hk).1
 obtain ⟨D, ⟨es0, ck0, hm0, _⟩, _⟩ := h.mp
 have hGM : G ≠ M := by
  rintro rfl
  rw [h.bx] at hm0
  cases hm0
 have bx1 := hf1.whole h.bx hGM
 have bx6 := hf6.whole bx1 (by simp)
 have F67 : Fr (fun k => (Value.slice pa n pc).ownBlock = some k) w6 w7 := (Fr.refl _ w6).grown hgrow (fun k hk => Or.inl hk)
 have bx7 := F67.whole bx6 (fun e => by have := hOB G e; omega)
 have F68 : Fr (fun k => k = G \/ k = M \/ (Value.slice pa n pc).ownBlock = some k) w6 (w7.setCell ⟨G, 2, none⟩ (.slice (some ⟨g, 0, none⟩) (n + 1) cap)) := Fr.setCell (S := fun k => k = G \/ k = M \/ (Value.slice pa n pc).ownBlock = some k) (F67.mono (fun k hk => Or.inr (Or.inr hk))) (p := ⟨G, 2, none⟩) (Or.inl (Or.inl rfl)) _
 have F16 : Fr (fun k => k = G \/ k = M \/ (Value.slice pa n pc).ownBlock = some k) w w6 := (hf1.mono (fun k hk => Or.inr (Or.inl hk))).trans (hf6.mono (by simp))
 have F := F16.trans F68
 have hop6 : w6.ownsRow w0.heap.size 101 1 (.slice pa n pc) n xs := ownsRow_fr (ownsRow_fr hop hf1 (fun k hk => by omega)) hf6 (by simp)
 obtain ⟨es, ck, hmb, hmr⟩ := hom
 have hm6 := hf6.whole hmb (by simp)
 refine ⟨⟨h.ru, h.fr.monoNew F ?_, ?_, ⟨D1, ⟨es, ck, ?_, ?_⟩, hD1⟩, ⟨xs ++ [u], ?_, ?_⟩, ?_, ?_⟩, F, block_cell bx7 2 _ rfl, block_frozen bx7 2⟩
 ·rintro k (rfl | rfl | hk)
  ·exact Or.inl (Or.inl rfl)
  ·exact Or.inl (Or.inr rfl)
  ·exact Or.inr (hOB k hk)
 ·have e := heap_setCell_same w7 G 2 _ _ (.slice (some ⟨g, 0, none⟩) (n + 1) cap) bx7
  simpa using e
 ·have hm7 := F67.whole hm6 (fun e => by have := hOB M e; omega)
  rw [heap_setCell_other w7 ⟨G, 2, none⟩ M _ (fun e => hGM e.symm)]
  exact hm7
 ·rw [List.length_append, hn]
  exact hmr
 ·rw [List.length_append, hn]
  exact ownsRow_setCell_other hown (a := ⟨G, 2, none⟩) (own_ne_block hown bx7 (by decide)) _
 ·intro j m hj
  have hxl : xs.length = n := by have := hop.1; omega
  rcases Nat.lt_or_ge j n with hlt | hge
  ·rw [List.getElem?_append_left (by omega)] at hj
   obtain ⟨vj, e1, e2⟩ := hpp j m hj
   exact ⟨vj, by rw [List.getElem?_append_left (by omega)]; exact e1, stRow_keep e2 F (own_apart h.bx hm0 hop)⟩
  ·rw [List.getElem?_append_right (by omega)] at hj
   have hj0 : j - ps.length = 0 := by
    have := (List.getElem?_eq_some_iff.1 hj).1
    simp at this
    omega
   rw [hj0] at hj
   simp at hj
   subst hj
   refine ⟨u, ?_, stRow_keep hst F68 (own_apart bx6 hm6 hop6)⟩
   rw [List.getElem?_append_right (by omega), show j - xs.length = 0 from by omega]
   rfl
 ·rw [List.nodup_append]
  refine ⟨h.nd, by simp, fun a ha b hb => ?_⟩
  simp at hb
  subst hb
  rintro rfl
  exact hin ha
 ·intro m hm'
  rcases List.mem_append.1 hm' with h' | h'
  ·exact h.lt m h'
  ·simp at h'
   subst h'
   exact hm
set_option maxRecDepth 30000 in
set_option maxHeartbeats 4000000 in
theorem gprogram_any {zb : Nat} (w0 w : World) (G M : Nat) (v0 v1 : Value) (R : List RuleM) (ord : Nat -> Nat) (ps : List Nat) (vp : Value) (met : Nat) (h : GrS zb w0 w G M v0 v1 R ord ps vp) (hM : M < w0.heap.size) (hG : G < w0.heap.size) (hps : ps.length <= 256) (hn : R.length <= 8) (hm : met < 256) (ho : ∀ k, k < R.length -> ord k < R.length) (hR : ∀ r, r ∈ R -> r.mcc.length <= 4000 /\ r.cur.length <= 4000) :
  Calls Tryz.prog 105 #[.pointer (some ⟨G, 0, none⟩), .int .u64 met] w fun e w' => e = .returned (.int .i64 (placeM ps met : Nat)) /\ (∃ vp', GrS zb w0 w' G M v0 v1 R ord (placedM ps met) vp' /\ (vp'.ownBlock = vp.ownBlock \/ ∀ k, vp'.ownBlock = some k -> w.heap.size <= k)) /\ Fr (fun k => k = G \/ k = M \/ vp.ownBlock = some k) w w' := by
 obtain ⟨ii, hi', hz0, hz1, hz2⟩ := info_parts Tryz.infoSteps
 have HS := hid h
 have HWR : Hid (∀ W, GrW zb W G R ord -> Calls Tryz.prog 138 #[.pointer (some ⟨G, 0, none⟩), .int .u64 met] W fun e w' => (∃ v, e = .returned v /\ StRow zb w' W.heap.size v (writeM R met (ordL R.length ord))) /\ F0 W w') := fun W hW => gwrite_any W G R ord met hW hn hm ho hR
 obtain ⟨D, hown, hD⟩ := h.mp
 have HOM := hid hown
 have HD := hid hD
 have HK := hid (keySet met hm)
 obtain ⟨xsp, hop, hpp⟩ := h.pg
 obtain ⟨pa, pc, e3⟩ := ownsRow_len hop
 subst e3
 obtain ⟨n, hnn⟩ : ∃ n, ps.length = n := ⟨_, rfl⟩
 have HN := hid hnn
 rw [hnn] at HOM HS hps hop ⊢
 have HOP : Hid (w.ownsRow w0.heap.size 101 1 (.slice pa n pc) n xsp /\ ∀ (j m : Nat), ps[j]? = some m -> ∃ vj, xsp[j]? = some vj /\ StRow zb w zb vj (writeM R m (ordL R.length ord))) := ⟨hop, hpp⟩
 have x2 : w.cell? ⟨G, 2, none⟩ = some (.slice pa n pc) := block_cell HS.o.bx 2 _ rfl
 have x3 : w.cell? ⟨G, 3, none⟩ = some (.map (some M)) := block_cell HS.o.bx 3 _ rfl
 have hhas := (hD.at' met hm).1
 clear h hown hD hop hpp ho hR hnn
 by_cases hin : met ∈ ps
 ·have hh : Maps.has D (.int .u64 met) = true := by rw [hhas]; simpa using hin
  clear hhas
  go_enter Tryz.func105, Tryz.ntmps105
  go_wp2_with (at_lookup; refine wpList_lookup_own_ok_int _ rfl (.tmp 11) (.tmp 12) 126 rfl 133 3 .i64 Tryz.lawSet Tryz.underlying126 Tryz.underlying3 (Tryz.zero3 _) M n D rfl HOM.o _ _ rfl HK.o ?h1; rw [hh])
  case h1 =>
   intro c hat hwc
   have hc : c = ((placeM ps met : Nat) : Int) := by
    rw [(HD.o.at' met hm).2 hin] at hat
    injection hat with hat
    injection hat with _ hat
    exact hat.symm
   subst hc
   clear hat hwc hh
   go_wp2_with fail
   go_ret
   refine ⟨rfl, ⟨.slice pa n pc, ?_, Or.inl rfl⟩, Fr.refl _ _⟩
   rw [show placedM ps met = ps from if_pos hin]
   exact HS.o
 ·have hh : Maps.has D (.int .u64 met) = false := by rw [hhas]; simpa using hin
  clear hhas
  go_enter Tryz.func105, Tryz.ntmps105
  go_wp2_with (at_lookup; refine wpList_lookup_own_ok_int _ rfl (.tmp 11) (.tmp 12) 126 rfl 133 3 .i64 Tryz.lawSet Tryz.underlying126 Tryz.underlying3 (Tryz.zero3 _) M n D rfl HOM.o _ _ rfl HK.o ?g1; rw [hh])
  case g1 =>
   intro c hat hwc
   clear hat hwc hh
   go_wp2_with (at_mapUpdate; refine wpList_mapUpdate_own _ rfl (.tmp 26) (.tmp 27) (.tmp 28) 126 rfl 133 3 Tryz.lawSet Tryz.underlying126 _ M n D rfl HOM.o ?k1 _ _ _ rfl rfl HK.o (.lit (.int .i64 (n : Nat))) [] ?k2 ?k3)
   case k1 => unfold maxLen; omega
   case k2 => exact plainElem_int Tryz.underlying3 (WalkArith.wf_i64 (by omega))
   case k3 =>
    intro w1 hown1 hgrow1
    have hf1 : Fr (fun k => k = M) w w1 := (Fr.refl _ w).grown hgrow1 (fun k hk => Or.inl (by injection hk with hk; exact hk.symm))
    have hGM : G ≠ M := by
     obtain ⟨es0, ck0, hm0, _⟩ := HOM.o
     rintro rfl
     rw [HS.o.bx] at hm0
     cases hm0
    have HF1 := hid hf1
    have HOM1 := hid hown1
    have HD1 : Hid (PlD (D.put (.int .u64 met) (.lit (.int .i64 (n : Nat)))) (ps ++ [met])) := by
     have e := HD.o.put hin
     rw [HN.o] at e
     exact e
    have hbx1 := hf1.whole HS.o.bx hGM
    have y2 : w1.cell? ⟨G, 2, none⟩ = some (.slice pa n pc) := block_cell hbx1 2 _ rfl
    have hop1 : w1.ownsRow w0.heap.size 101 1 (.slice pa n pc) n xsp := ownsRow_fr HOP.o.1 hf1 (fun k hk => by omega)
    have hsz1 : w0.heap.size <= w1.heap.size := Nat.le_trans HS.o.fr.size hf1.size
    have HCW : Hid (∀ W, F0 w1 W -> Calls Tryz.prog 138 #[.pointer (some ⟨G, 0, none⟩), .int .u64 met] W fun e w' => (∃ a b c, e = .returned (.slice a b c) /\ Hid (StRow zb w' zb (.slice a b c) (writeM R met (ordL R.length ord)))) /\ Hid (F0 w1 w' /\ w'.ownsRow w0.heap.size 101 1 (.slice pa n pc) n xsp /\ w0.heap.size <= w'.heap.size) /\ w'.cell? ⟨G, 2, none⟩ = some (.slice pa n pc)) := by
     intro W hW
     have hgr : GrW zb W G R ord := by
      have f0 : Fr (fun k => k = G \/ k = M) w0 w1 := HS.o.fr.trans (hf1.mono (fun k hk => Or.inr hk))
      have b := hW.whole hbx1 (by simp)
      exact HS.o.ru.at (f0.trans (hW.mono (by simp))) (block_cell b 0 _ rfl) (block_cell b 1 _ rfl)
     refine (HWR.o W hgr).mono ?_
     rintro e w' ⟨⟨v, rfl, hst⟩, hf⟩
     have f2 := hW.trans hf
     obtain ⟨ys, o1, o2⟩ := hst
     obtain ⟨a, c, e3⟩ := ownsRow_len o1
     subst e3
     exact ⟨⟨a, _, c, rfl, ⟨ys, ownsRow_base o1 hgr.zl, o2⟩⟩, ⟨f2, ownsRow_fr hop1 f2 (by simp), Nat.le_trans hsz1 f2.size⟩, block_cell (f2.whole hbx1 (by simp)) 2 _ rfl⟩
    have HPL : Hid (placeM ps met = n) := by
     unfold placeM
     rw [List.idxOf_eq_length hin]
     exact HN.o
    clear hown1 hgrow1 hf1 hop1 hbx1 x2 x3
    go_wp2_with fail
    refine wp_region_held_drew (S := fun _ => True) (by kernel_rfl) trivial (fun hH => ?_)
    refine htk 0 (v := ?v0z) ?y0z hH ?r0z
    case y0z => intro w hw; go_simp; with_reducible rfl
    try go_frame
    refine htk 1 (v := ?v1z) ?y1z hH ?r1z
    case y1z => intro w hw; go_simp; with_reducible rfl
    try go_frame
    refine htk 2 (v := ?v2z) ?y2z hH ?r2z
    case y2z => intro w hw; go_simp; with_reducible rfl
    try go_frame
    refine htk 3 (v := ?v3z) ?y3z hH ?r3z
    case y3z => intro w hw; go_simp; with_reducible rfl
    try go_frame
    refine htk 5 (v := ?v5z) ?y5z hH ?r5z
    case y5z => intro w hw; go_simp; with_reducible rfl
    try go_frame
    refine htk 6 (v := ?v6z) ?y6z hH ?r6z
    case y6z => intro w hw; go_simp; with_reducible rfl
    try go_frame
    refine wpAnyH_ready (rs := [4, 7]) (by kernel_rfl) (by simp) ?_
    refine held_cons rfl (fun K hK => ?_) ?_
    ·try rw [if_pos (by rfl)]
     go_simp
     refine hK.out _ _ hH (fun _ => ?_)
     clear hK K
     try go_frame
     refine wpAnyH_ready (rs := [7]) (by kernel_rfl) (by simp) ?_
     refine held_cons rfl (fun K hK => ?_) AllReadyH.nil
     go_simp
     refine (HCW.o _ (Fr.refl _ _).drew).mono ?_
     rintro e w5 ⟨⟨a1, b1, c1, rfl, HST⟩, HF5, z2⟩
     refine hK.out _ _ trivial (fun hH => ?_)
     clear hK K
     try go_frame
     refine wpAnyH_ready (rs := [8]) (by kernel_rfl) (by simp) ?_
     refine held_cons rfl (fun K hK => ?_) AllReadyH.nil
     try rw [if_pos (by rfl)]
     go_simp
     refine hK.out _ _ trivial (fun hH => ?_)
     clear hK K
     try go_frame
     refine wpAnyH_ready (rs := [9]) (by kernel_rfl) (by simp) ?_
     refine held_cons rfl (fun K hK => ?_) AllReadyH.nil
     refine step_append_lies _ rfl (.tmp 33) (.tmp 37) 87 rfl w0.heap.size 101 ii _ 1 24 Tryz.underlying87 hi' hz0 hz1 hz2 rfl (by decide) (.slice pa n pc) n xsp rfl ?h1A ⟨w5.heap.size, 0, none⟩ 1 1 [.slice a1 b1 c1] rfl rfl ?h2A ?h3A (by decide) ?h4A ?h5A ?h6A _ rfl ?h7A
     case h1A => exact HF5.o.2.1.alloc _
     case h2A => exact World.news_of_block (heap_alloc_new w5 _)
     case h3A => simp [Value.oneCell']
     case h4A => unfold maxLen; omega
     case h5A => omega
     case h6A => have := HF5.o.2.2; simp; omega
     case h7A =>
      intro g2 cap2 w8 hown hgrow hor _
      have hmore := GrS.more HS.o HN.o hin hm hM hG HOP.o.1 HOP.o.2 HOM1.o HD1.o HF1.o (HF5.o.1.alloc _) (stRow_fr HST.o ((Fr.refl _ _).alloc _)) hown hgrow
      have d2 := hmore.2.2.1
      have df := hmore.2.2.2
      have HOR : Hid ((Value.slice (some ⟨g2, 0, none⟩) (n + 1) cap2).ownBlock = (Value.slice pa n pc).ownBlock \/ ∀ k, (Value.slice (some ⟨g2, 0, none⟩) (n + 1) cap2).ownBlock = some k -> w.heap.size <= k) := by
       rcases hor with e | e
       ·exact Or.inl e.symm
       ·refine Or.inr fun k hk => ?_
        have e2 : g2 = k := by simpa [Value.ownBlock] using hk
        have := HF1.o.size
        have := HF5.o.1.size
        have e3 : g2 = w5.heap.size + 1 := by rw [e]; simp
        omega
      have HFIN : Hid (GrS zb w0 (w8.setCell ⟨G, 2, none⟩ (.slice (some ⟨g2, 0, none⟩) (n + 1) cap2)) G M v0 v1 R ord (ps ++ [met]) (.slice (some ⟨g2, 0, none⟩) (n + 1) cap2) /\ Fr (fun k => k = G \/ k = M \/ (Value.slice pa n pc).ownBlock = some k) w (w8.setCell ⟨G, 2, none⟩ (.slice (some ⟨g2, 0, none⟩) (n + 1) cap2))) := ⟨hmore.1, hmore.2.1⟩
      clear hmore hown hgrow hor
      refine hK.out _ _ trivial (fun hH => ?_)
      clear hK K
      try go_frame
      refine htk 10 (v := ?v10A) ?y10A hH ?r10A
      case y10A => intro w hw; go_simp; with_reducible rfl
      try go_frame
      refine htk 11 (v := ?v11A) ?y11A hH ?r11A
      case y11A => intro w hw; go_simp; with_reducible rfl
      try go_frame
      refine wpAnyH_ready (rs := [12]) (by kernel_rfl) (by simp) ?_
      refine held_cons rfl (fun K hK => ?_) AllReadyH.nil
      try rw [if_pos (by rfl)]
      go_simp
      refine hK.out _ _ trivial (fun _ => ?_)
      clear hK K
      try go_frame
      refine wpAnyH_done (by kernel_rfl) ?_ _
      go_wp2
      go_ret
      refine ⟨by rw [HPL.o]; rfl, ⟨_, ?_, HOR.o⟩, HFIN.o.2⟩
      rw [show placedM ps met = ps ++ [met] from if_neg hin]
      exact HFIN.o.1
    ·refine held_cons rfl (fun K hK => ?_) AllReadyH.nil
     go_simp
     refine (HCW.o _ (Fr.refl _ _).drew).mono ?_
     rintro e w5 ⟨⟨a1, b1, c1, rfl, HST⟩, HF5, z2⟩
     refine hK.out _ _ trivial (fun hH => ?_)
     clear hK K
     try go_frame
     refine wpAnyH_ready (rs := [4, 8]) (by kernel_rfl) (by simp) ?_
     refine held_cons rfl (fun K hK => ?_) ?_
     ·try rw [if_pos (by rfl)]
      go_simp
      refine hK.out _ _ hH (fun _ => ?_)
      clear hK K
      try go_frame
      refine wpAnyH_ready (rs := [8]) (by kernel_rfl) (by simp) ?_
      refine held_cons rfl (fun K hK => ?_) AllReadyH.nil
      try rw [if_pos (by rfl)]
      go_simp
      refine hK.out _ _ trivial (fun hH => ?_)
      clear hK K
      try go_frame
      refine wpAnyH_ready (rs := [9]) (by kernel_rfl) (by simp) ?_
      refine held_cons rfl (fun K hK => ?_) AllReadyH.nil
      refine step_append_lies _ rfl (.tmp 33) (.tmp 37) 87 rfl w0.heap.size 101 ii _ 1 24 Tryz.underlying87 hi' hz0 hz1 hz2 rfl (by decide) (.slice pa n pc) n xsp rfl ?h1B ⟨w5.heap.size, 0, none⟩ 1 1 [.slice a1 b1 c1] rfl rfl ?h2B ?h3B (by decide) ?h4B ?h5B ?h6B _ rfl ?h7B
      case h1B => exact HF5.o.2.1.alloc _
      case h2B => exact World.news_of_block (heap_alloc_new w5 _)
      case h3B => simp [Value.oneCell']
      case h4B => unfold maxLen; omega
      case h5B => omega
      case h6B => have := HF5.o.2.2; simp; omega
      case h7B =>
       intro g2 cap2 w8 hown hgrow hor _
       have hmore := GrS.more HS.o HN.o hin hm hM hG HOP.o.1 HOP.o.2 HOM1.o HD1.o HF1.o (HF5.o.1.alloc _) (stRow_fr HST.o ((Fr.refl _ _).alloc _)) hown hgrow
       have d2 := hmore.2.2.1
       have df := hmore.2.2.2
       have HOR : Hid ((Value.slice (some ⟨g2, 0, none⟩) (n + 1) cap2).ownBlock = (Value.slice pa n pc).ownBlock \/ ∀ k, (Value.slice (some ⟨g2, 0, none⟩) (n + 1) cap2).ownBlock = some k -> w.heap.size <= k) := by
        rcases hor with e | e
        ·exact Or.inl e.symm
        ·refine Or.inr fun k hk => ?_
         have e2 : g2 = k := by simpa [Value.ownBlock] using hk
         have := HF1.o.size
         have := HF5.o.1.size
         have e3 : g2 = w5.heap.size + 1 := by rw [e]; simp
         omega
       have HFIN : Hid (GrS zb w0 (w8.setCell ⟨G, 2, none⟩ (.slice (some ⟨g2, 0, none⟩) (n + 1) cap2)) G M v0 v1 R ord (ps ++ [met]) (.slice (some ⟨g2, 0, none⟩) (n + 1) cap2) /\ Fr (fun k => k = G \/ k = M \/ (Value.slice pa n pc).ownBlock = some k) w (w8.setCell ⟨G, 2, none⟩ (.slice (some ⟨g2, 0, none⟩) (n + 1) cap2))) := ⟨hmore.1, hmore.2.1⟩
       clear hmore hown hgrow hor
       refine hK.out _ _ trivial (fun hH => ?_)
       clear hK K
       try go_frame
       refine htk 10 (v := ?v10B) ?y10B hH ?r10B
       case y10B => intro w hw; go_simp; with_reducible rfl
       try go_frame
       refine htk 11 (v := ?v11B) ?y11B hH ?r11B
       case y11B => intro w hw; go_simp; with_reducible rfl
       try go_frame
       refine wpAnyH_ready (rs := [12]) (by kernel_rfl) (by simp) ?_
       refine held_cons rfl (fun K hK => ?_) AllReadyH.nil
       try rw [if_pos (by rfl)]
       go_simp
       refine hK.out _ _ trivial (fun _ => ?_)
       clear hK K
       try go_frame
       refine wpAnyH_done (by kernel_rfl) ?_ _
       go_wp2
       go_ret
       refine ⟨by rw [HPL.o]; rfl, ⟨_, ?_, HOR.o⟩, HFIN.o.2⟩
       rw [show placedM ps met = ps ++ [met] from if_neg hin]
       exact HFIN.o.1
     ·refine held_cons rfl (fun K hK => ?_) AllReadyH.nil
      try rw [if_pos (by rfl)]
      go_simp
      refine hK.out _ _ trivial (fun hH => ?_)
      clear hK K
      try go_frame
      refine wpAnyH_ready (rs := [4]) (by kernel_rfl) (by simp) ?_
      refine held_cons rfl (fun K hK => ?_) AllReadyH.nil
      try rw [if_pos (by rfl)]
      have z3 : (w5.alloc (.cells #[.slice a1 b1 c1] 101)).cell? ⟨G, 2, none⟩ = some (.slice pa n pc) := by rw [World.cell?_alloc_lt _ _ _ (World.block_lt_of_cell? w5 _ z2)]; exact z2
      go_simp
      refine hK.out _ _ hH (fun _ => ?_)
      clear hK K
      try go_frame
      refine wpAnyH_ready (rs := [9]) (by kernel_rfl) (by simp) ?_
      refine held_cons rfl (fun K hK => ?_) AllReadyH.nil
      refine step_append_lies _ rfl (.tmp 33) (.tmp 37) 87 rfl w0.heap.size 101 ii _ 1 24 Tryz.underlying87 hi' hz0 hz1 hz2 rfl (by decide) (.slice pa n pc) n xsp rfl ?h1C ⟨w5.heap.size, 0, none⟩ 1 1 [.slice a1 b1 c1] rfl rfl ?h2C ?h3C (by decide) ?h4C ?h5C ?h6C _ rfl ?h7C
      case h1C => exact HF5.o.2.1.alloc _
      case h2C => exact World.news_of_block (heap_alloc_new w5 _)
      case h3C => simp [Value.oneCell']
      case h4C => unfold maxLen; omega
      case h5C => omega
      case h6C => have := HF5.o.2.2; simp; omega
      case h7C =>
       intro g2 cap2 w8 hown hgrow hor _
       have hmore := GrS.more HS.o HN.o hin hm hM hG HOP.o.1 HOP.o.2 HOM1.o HD1.o HF1.o (HF5.o.1.alloc _) (stRow_fr HST.o ((Fr.refl _ _).alloc _)) hown hgrow
       have d2 := hmore.2.2.1
       have df := hmore.2.2.2
       have HOR : Hid ((Value.slice (some ⟨g2, 0, none⟩) (n + 1) cap2).ownBlock = (Value.slice pa n pc).ownBlock \/ ∀ k, (Value.slice (some ⟨g2, 0, none⟩) (n + 1) cap2).ownBlock = some k -> w.heap.size <= k) := by
        rcases hor with e | e
        ·exact Or.inl e.symm
        ·refine Or.inr fun k hk => ?_
         have e2 : g2 = k := by simpa [Value.ownBlock] using hk
         have := HF1.o.size
         have := HF5.o.1.size
         have e3 : g2 = w5.heap.size + 1 := by rw [e]; simp
         omega
       have HFIN : Hid (GrS zb w0 (w8.setCell ⟨G, 2, none⟩ (.slice (some ⟨g2, 0, none⟩) (n + 1) cap2)) G M v0 v1 R ord (ps ++ [met]) (.slice (some ⟨g2, 0, none⟩) (n + 1) cap2) /\ Fr (fun k => k = G \/ k = M \/ (Value.slice pa n pc).ownBlock = some k) w (w8.setCell ⟨G, 2, none⟩ (.slice (some ⟨g2, 0, none⟩) (n + 1) cap2))) := ⟨hmore.1, hmore.2.1⟩
       clear hmore hown hgrow hor
       refine hK.out _ _ trivial (fun hH => ?_)
       clear hK K
       try go_frame
       refine htk 10 (v := ?v10C) ?y10C hH ?r10C
       case y10C => intro w hw; go_simp; with_reducible rfl
       try go_frame
       refine htk 11 (v := ?v11C) ?y11C hH ?r11C
       case y11C => intro w hw; go_simp; with_reducible rfl
       try go_frame
       refine wpAnyH_ready (rs := [12]) (by kernel_rfl) (by simp) ?_
       refine held_cons rfl (fun K hK => ?_) AllReadyH.nil
       try rw [if_pos (by rfl)]
       go_simp
       refine hK.out _ _ trivial (fun _ => ?_)
       clear hK K
       try go_frame
       refine wpAnyH_done (by kernel_rfl) ?_ _
       go_wp2
       go_ret
       refine ⟨by rw [HPL.o]; rfl, ⟨_, ?_, HOR.o⟩, HFIN.o.2⟩
       rw [show placedM ps met = ps ++ [met] from if_neg hin]
       exact HFIN.o.1
end Go.Proofs.YtccikgogjfbpeabGreatDoor

namespace Go.Proofs.YtccikgogjfbpeabGreatDoor
open Go.RowKit Go.Maps
def TrAt (w : World) (lo : Nat) : Tr -> Value -> Prop
 | .leaf p, v => v = .agg #[.pointer none, .int .i64 p]
 | .node k, v => ∃ K cs, v = .agg #[.pointer (some ⟨K, 0, none⟩), .int .i64 0] /\ lo <= K /\ w.heap[K]? = some (.cells cs 195) /\ cs.size = 20 /\ ∀ d, d < 10 -> ∃ a b, cs[d * 2]? = some a /\ cs[d * 2 + 1]? = some b /\ TrAt w lo (k d) (.agg #[a, b])
theorem TrAt.keep {w w' : World} {S : Nat -> Prop} {lo : Nat} (hf : Fr S w w') (hS : ∀ K cs, lo <= K -> w.heap[K]? = some (.cells cs 195) -> ¬ S K) : ∀ (t : Tr) (v : Value), TrAt w lo t v -> TrAt w' lo t v
 | .leaf _, _, h => h
 | .node k, v, ⟨K, cs, h1, hl, h2, h3, h4⟩ => ⟨K, cs, h1, hl, hf.whole h2 (hS K cs hl h2), h3, fun d hd => by
   obtain ⟨a, b, e1, e2, e3⟩ := h4 d hd
   exact ⟨a, b, e1, e2, TrAt.keep hf hS (k d) _ e3⟩⟩
theorem TrAt.keep' {w w' : World} {S : Nat -> Prop} {lo : Nat} {t : Tr} {v : Value} (h : TrAt w lo t v) (hf : Fr S w w') (hS : ∀ K, lo <= K -> ¬ S K) : TrAt w' lo t v := TrAt.keep hf (fun K _ hl _ => hS K hl) t v h
theorem TrAt.low {w : World} {lo lo' : Nat} (hl' : lo' <= lo) : ∀ (t : Tr) (v : Value), TrAt w lo t v -> TrAt w lo' t v
 | .leaf _, _, h => h
 | .node k, v, ⟨K, cs, h1, hl, h2, h3, h4⟩ => ⟨K, cs, h1, Nat.le_trans hl' hl, h2, h3, fun d hd => by
   obtain ⟨a, b, e1, e2, e3⟩ := h4 d hd
   exact ⟨a, b, e1, e2, TrAt.low hl' (k d) _ e3⟩⟩
theorem GrS.keep {zb : Nat} {w0 w w' : World} {G M : Nat} {v0 v1 : Value} {R : List RuleM} {ord : Nat -> Nat} {ps : List Nat} {vp : Value} (h : GrS zb w0 w G M v0 v1 R ord ps vp) (hf : F0 w w') : GrS zb w0 w' G M v0 v1 R ord ps vp := by
 obtain ⟨D, ⟨es, ck, hm, hr⟩, hD⟩ := h.mp
 obtain ⟨xs, h1, h2⟩ := h.pg
 refine ⟨h.ru, h.fr.trans (hf.mono (by simp)), hf.whole h.bx (by simp), ⟨D, ⟨es, ck, hf.whole hm (by simp), hr⟩, hD⟩, ⟨xs, ownsRow_fr h1 hf (by simp), fun j m hj => ?_⟩, h.nd, h.lt⟩
 obtain ⟨vj, e1, e2⟩ := h2 j m hj
 exact ⟨vj, e1, stRow_fr e2 hf⟩
theorem GrS.wrote {zb : Nat} {w0 w w' : World} {S : Nat -> Prop} {G M : Nat} {v0 v1 : Value} {R : List RuleM} {ord : Nat -> Nat} {ps : List Nat} {vp : Value} (h : GrS zb w0 w G M v0 v1 R ord ps vp) (hf : Fr S w w') (hS : ∀ k, S k -> w0.heap.size <= k /\ ∃ cs t, w.heap[k]? = some (.cells cs t) /\ (t = 90 \/ t = 195)) : GrS zb w0 w' G M v0 v1 R ord ps vp := by
 obtain ⟨D, ⟨es, ck, hm, hr⟩, hD⟩ := h.mp
 obtain ⟨xs, h1, h2⟩ := h.pg
 have hrow : ∀ e s v n xs b, (e = 172 \/ e = 3 \/ e = 101) -> w.ownsRow b e s v n xs -> ∀ k, v.ownBlock = some k -> ¬ S k := by
  intro e s v n xs b he hr k hk hs
  obtain ⟨_, cs, t, hc, ht⟩ := hS k hs
  exact own_ne_block hr hc (by rcases he with rfl | rfl | rfl <;> rcases ht with rfl | rfl <;> decide) hk
 have hG : ¬ S G := fun hs => by
  obtain ⟨_, cs, t, hc, ht⟩ := hS G hs
  rw [h.bx] at hc
  injection hc with hc
  injection hc with _ hc _
  subst hc
  rcases ht with e | e <;> exact absurd e (by decide)
 have hMn : ¬ S M := fun hs => by
  obtain ⟨_, cs, t, hc, ht⟩ := hS M hs
  rw [hm] at hc
  cases hc
 refine ⟨h.ru, h.fr.monoNew hf (fun k hk => Or.inr (hS k hk).1), hf.whole h.bx hG, ⟨D, ⟨es, ck, hf.whole hm hMn, hr⟩, hD⟩, ⟨xs, ownsRow_avoid h1 hf (hrow _ _ _ _ _ _ (Or.inr (Or.inr rfl)) h1), fun j m hj => ?_⟩, h.nd, h.lt⟩
 obtain ⟨vj, e1, e2⟩ := h2 j m hj
 exact ⟨vj, e1, stRow_keep e2 hf (fun e s v n xs he hr => hrow e s v n xs zb (by rcases he with e | e <;> simp [e]) hr)⟩
theorem GrS.apart {zb : Nat} {w0 w : World} {G M : Nat} {v0 v1 : Value} {R : List RuleM} {ord : Nat -> Nat} {ps : List Nat} {vp : Value} (h : GrS zb w0 w G M v0 v1 R ord ps vp) : ∀ K cs, w.heap[K]? = some (.cells cs 195) -> ¬ (K = G \/ K = M \/ vp.ownBlock = some K) := by
 obtain ⟨D, ⟨es, ck, hm, _⟩, _⟩ := h.mp
 obtain ⟨xs, h1, _⟩ := h.pg
 rintro K cs hK (rfl | rfl | e)
 ·rw [h.bx] at hK
  injection hK with hK
  injection hK with _ hK _
  exact absurd hK (by decide)
 ·rw [hm] at hK
  cases hK
 ·exact own_ne_block h1 hK (by decide) e
theorem GrS.gr {zb : Nat} {w0 w : World} {G M : Nat} {v0 v1 : Value} {R : List RuleM} {ord : Nat -> Nat} {ps : List Nat} {vp : Value} (h : GrS zb w0 w G M v0 v1 R ord ps vp) : GrW zb w G R ord := h.ru.at h.fr (block_cell h.bx 0 _ rfl) (block_cell h.bx 1 _ rfl)
theorem GrS.few {zb : Nat} {w0 w : World} {G M : Nat} {v0 v1 : Value} {R : List RuleM} {ord : Nat -> Nat} {ps : List Nat} {vp : Value} (h : GrS zb w0 w G M v0 v1 R ord ps vp) : ps.length <= 256 := by
 have hs : ps ⊆ List.range 256 := fun m hm => List.mem_range.2 (h.lt m hm)
 have := List.Nodup.length_le_of_subset h.nd hs
 simpa using this
def siftStep (q : Part) (op i : Nat) (r : RuleM) (a : Nat × Nat) : Nat × Nat :=
 if op.testBit i then (if aboutL q (partsM r.digits r.lo r.hi) = 2 then (a.1 ||| 1 <<< i, a.2) else if aboutL q (partsM r.digits r.lo r.hi) = 1 then (a.1, a.2 ||| 1 <<< i) else a) else a
theorem sift_drop {q : Part} {op i : Nat} {R : List RuleM} {r : RuleM} {a : Nat × Nat} (h : R[i]? = some r) : siftM q op i (R.drop i) a = siftM q op (i + 1) (R.drop (i + 1)) (siftStep q op i r a) := by
 obtain ⟨hi, e⟩ := List.getElem?_eq_some_iff.1 h
 rw [List.drop_eq_getElem_cons hi, e]
 rfl
theorem sift_end {q : Part} {op : Nat} {R : List RuleM} {a : Nat × Nat} : siftM q op R.length (R.drop R.length) a = a := by
 rw [List.drop_of_length_le (Nat.le_refl _)]
 rfl
structure KdS (zb : Nat) (w0 W2 : World) (G M K : Nat) (v0 v1 : Value) (R : List RuleM) (ord : Nat -> Nat) (f : Nat -> List Nat -> Tr × List Nat) (ps : List Nat) (vp : Value) (d : Nat) (wx : World) : Prop where
 gs : ∃ vp', GrS zb w0 wx G M v0 v1 R ord (kidsM f d ps).2 vp' /\ (vp'.ownBlock = vp.ownBlock \/ ∀ k, vp'.ownBlock = some k -> W2.heap.size <= k)
 fr : Fr (fun k => k = G \/ k = M \/ vp.ownBlock = some k \/ k = K) W2 wx
 ar : ∃ cs, wx.heap[K]? = some (.cells cs 195) /\ cs.size = 20 /\ ∀ j, j < d -> ∃ a b, cs[j * 2]? = some a /\ cs[j * 2 + 1]? = some b /\ TrAt wx (K + 1) ((kidsM f d ps).1 j) (.agg #[a, b])
def GwPost (zb : Nat) (w0 w : World) (G M : Nat) (v0 v1 : Value) (R : List RuleM) (ord : Nat -> Nat) (T : Tr × List Nat) (vp : Value) (e : Ending) (w' : World) : Prop :=
 (∃ a b, e = .returned (.agg #[a, b]) /\ TrAt w' w.heap.size T.1 (.agg #[a, b])) /\ (∃ vp', GrS zb w0 w' G M v0 v1 R ord T.2 vp' /\ (vp'.ownBlock = vp.ownBlock \/ ∀ k, vp'.ownBlock = some k -> w.heap.size <= k)) /\ Fr (fun k => k = G \/ k = M \/ vp.ownBlock = some k) w w'
theorem KdS.step {zb : Nat} {w0 W2 wx wy w8 : World} {G M K : Nat} {v0 v1 : Value} {R : List RuleM} {ord : Nat -> Nat} {f : Nat -> List Nat -> Tr × List Nat} {ps : List Nat} {vp vp' : Value} {d : Nat} {a b : Value}
  (h : KdS zb w0 W2 G M K v0 v1 R ord f ps vp d wx) (hd : d < 10) (hK0 : w0.heap.size <= K) (hK2 : K < W2.heap.size) (hgs : GrS zb w0 wx G M v0 v1 R ord (kidsM f d ps).2 vp') (hor : vp'.ownBlock = vp.ownBlock \/ ∀ k, vp'.ownBlock = some k -> W2.heap.size <= k) (hfy : F0 wx wy)
  (hp : GwPost zb w0 wy G M v0 v1 R ord (f d (kidsM f d ps).2) vp' (.returned (.agg #[a, b])) w8) :
  KdS zb w0 W2 G M K v0 v1 R ord f ps vp (d + 1) ((w8.setCell ⟨K, d * 2, none⟩ a).setCell ⟨K, d * 2 + 1, none⟩ b) /\ (∃ u, w8.cell? ⟨K, d * 2, none⟩ = some u) /\ (∃ u, w8.cell? ⟨K, d * 2 + 1, none⟩ = some u) /\ (∀ j, w8.frozen? ⟨K, j, none⟩ = false) /\ Fr (fun k => k = G \/ k = M \/ vp.ownBlock = some k \/ k = K) W2 w8 := by
 obtain ⟨⟨a', b', he, ht⟩, ⟨vp2, hg2, hor2⟩, hf8⟩ := hp
 injection he with he
 injection he with he
 obtain ⟨rfl, rfl⟩ : a = a' /\ b = b' := by simpa using he
 obtain ⟨cs, hc, hcs, hk⟩ := h.ar
 have hcy := hfy.whole hc (by simp)
 have hgy := hgs.keep hfy
 have hc8 := hf8.whole hcy (hgy.apart K cs hcy)
 have f9 : Fr (fun k => k = K) w8 ((w8.setCell ⟨K, d * 2, none⟩ a).setCell ⟨K, d * 2 + 1, none⟩ b) := ((Fr.refl (fun k => k = K) w8).setCell (p := ⟨K, d * 2, none⟩) (Or.inl rfl) _).setCell (p := ⟨K, d * 2 + 1, none⟩) (Or.inl rfl) _
 have f8 : Fr (fun k => k = G \/ k = M \/ vp.ownBlock = some k \/ k = K) W2 w8 := by
  refine (h.fr.trans (hfy.mono (by simp))).monoNew hf8 ?_
  rintro k (rfl | rfl | e)
  ·exact Or.inl (Or.inl rfl)
  ·exact Or.inl (Or.inr (Or.inl rfl))
  ·rcases hor with e' | e'
   ·exact Or.inl (Or.inr (Or.inr (Or.inl (e' ▸ e))))
   ·exact Or.inr (e' k e)
 have hsy : W2.heap.size <= wy.heap.size := Nat.le_trans h.fr.size hfy.size
 have e1 := heap_setCell_same w8 K (d * 2) _ _ a hc8
 have e2 := heap_setCell_same _ K (d * 2 + 1) _ _ b e1
 have g1 : ∃ u, cs[d * 2]? = some u := ⟨_, Array.getElem?_eq_getElem (by omega)⟩
 have g2 : ∃ u, cs[d * 2 + 1]? = some u := ⟨_, Array.getElem?_eq_getElem (by omega)⟩
 refine ⟨⟨⟨vp2, hg2.wrote f9 ?_, ?_⟩, f8.trans (f9.mono (fun k hk => Or.inr (Or.inr (Or.inr hk)))), ⟨_, e2, by simpa using hcs, ?_⟩⟩, ?_, ?_, fun j => block_frozen hc8 j, f8⟩
 ·rintro k rfl
  exact ⟨hK0, cs, _, hc8, Or.inr rfl⟩
 ·rcases hor2 with e | e
  ·rw [e]
   exact hor
  ·exact Or.inr fun k hk => Nat.le_trans hsy (e k hk)
 ·intro j hj
  by_cases ej : j = d
  ·subst ej
   refine ⟨a, b, ?_, ?_, ?_⟩
   ·rw [Array.getElem?_setIfInBounds_ne (by omega), Array.getElem?_setIfInBounds_self_of_lt (by omega)]
   ·rw [Array.getElem?_setIfInBounds_self_of_lt (by simp; omega)]
   ·have e : (kidsM f (j + 1) ps).1 j = (f j (kidsM f j ps).2).1 := by simp [kidsM]
    rw [e]
    exact (TrAt.low (by omega) _ _ ht).keep' f9 (fun K' hl => by omega)
  ·obtain ⟨x, y, h1, h2, h3⟩ := hk j (by omega)
   refine ⟨x, y, ?_, ?_, ?_⟩
   ·rw [Array.getElem?_setIfInBounds_ne (by omega), Array.getElem?_setIfInBounds_ne (by omega)]
    exact h1
   ·rw [Array.getElem?_setIfInBounds_ne (by omega), Array.getElem?_setIfInBounds_ne (by omega)]
    exact h2
   ·have e : (kidsM f (d + 1) ps).1 j = (kidsM f d ps).1 j := by simp [kidsM, ej]
    rw [e]
    exact (TrAt.keep hf8 (fun K' cs' _ hc' => hgy.apart K' cs' hc') _ _ (TrAt.keep hfy (fun _ _ _ _ => by simp) _ _ h3)).keep' f9 (fun K' hl => by omega)
 ·obtain ⟨u, hu⟩ := g1
  exact ⟨u, block_cell hc8 _ _ hu⟩
 ·obtain ⟨u, hu⟩ := g2
  exact ⟨u, block_cell hc8 _ _ hu⟩
end Go.Proofs.YtccikgogjfbpeabGreatDoor
