import Derived.Test.YtccikgogjfbpeaaGreatDoorNa
namespace Go.Proofs.YtccikgogjfbpeaaGreatDoor
set_option maxRecDepth 30000
set_option maxHeartbeats 8000000
open Go.RowKit
theorem Tryz.infoStrN : (Tryz.prog.info? 9).map (fun i => (i.zero, i.size, i.bytes)) = some (some (.string ByteArray.empty), 1, 16) := by kernel_rfl
theorem Tryz.infoStrsN : (Tryz.prog.info? 28).map (fun i => (i.zero, i.size, i.bytes)) = some (some (.slice none 0 0), 1, 24) := by kernel_rfl
def MkS (w1 : World) (L A n c0 : Nat) (x : ByteArray) (i : Nat) (wr : World) : Prop :=
 ∃ zs, wr.ownsRow (L + 1) 9 1 (.slice (some ⟨A, 0, none⟩) n c0) n zs /\ (∀ k, k < i -> zs[k]? = some (.string x)) /\ Fr (fun k => k = A) w1 wr
theorem MkS.step {w1 wr : World} {L A n c0 : Nat} {x : ByteArray} {i : Nat} (h : MkS w1 L A n c0 x i wr) (hi : i < n) : MkS w1 L A n c0 x (i + 1) (wr.setCell ⟨A, i, none⟩ (.string x)) /\ (∃ u, wr.cell? ⟨A, i, none⟩ = some u) /\ wr.frozen? ⟨A, i, none⟩ = false := by
 obtain ⟨zs, h1, h2, h3⟩ := h;have hl := h1.1;obtain ⟨h4, _⟩ := h1.stored i (.string x);refine ⟨⟨_, h4, fun k hk => ?_, h3.setCell (p := ⟨A, i, none⟩) (Or.inl rfl) _⟩, ?_, h1.frozenAt i⟩
 ·by_cases e : k = i
  ·subst e
   rw [List.getElem?_set_self (by omega)]
  ·rw [List.getElem?_set_ne (by omega)]
   exact h2 k (by omega)
 ·rw [h1.cellAt i (by omega), gE (by omega)]
  exact ⟨_, rfl⟩
theorem takes_any (wS w : World) (L : Nat) (v : Value) (xs : List Value) (nv mv : Value) (cnt : Nat) (es : List NmE) (A n c0 : Nat) (ys : List Value) (h : DSt wS L v xs nv mv cnt es) (hf : F0 wS w) (hA : wS.heap.size <= A) (hl : w.ownsRow (L + 1) 9 1 (.slice (some ⟨A, 0, none⟩) n c0) n ys)
  (hc : cnt <= 4611686018427387904) (hE : (es.length + 4) * 24 <= 140737488355328) (hN : (n + 4) * 16 <= 140737488355328) :
  Calls Tryz.prog 84 #[.pointer (some ⟨L, 0, none⟩), .slice (some ⟨A, 0, none⟩) n c0] w fun e w' => e = .returned (.tuple #[]) /\ (∃ nv' mv' es', DSt w' L v xs nv' mv' (cnt + 1) es' /\ es'.length = es.length + 4 /\ ∀ e, e ∈ es' -> e ∈ es \/ e.n <= 8796093022208) /\ Fr (fun k => k = L \/ nv.ownBlock = some k \/ mv.ownBlock = some k) wS w' /\ Fr (fun k => k = L \/ nv.ownBlock = some k \/ mv.ownBlock = some k \/ k = A) w w' := by
 obtain ⟨ii, hi', hz0, hz1, hz2⟩ := info_parts Tryz.infoStrsN;obtain ⟨ij, hj', hy0, hy1, hy2⟩ := info_parts Tryz.infoStrN;have HS := hid h;have hLS : L < wS.heap.size := (iA.1 h.bx).1;have HMK := hid (mark_any w L v nv mv cnt (hf.whole h.bx (by simp)) hc);have HF := hid hf;have HL := hid hl;have HA : Hid (wS.heap.size <= A /\ L < wS.heap.size) := ⟨hA, hLS⟩;have HE := hid hE
 have hNi : n <= 8796093022204 := by omega
 have HNb := hid hN;clear h hf hA hl hc hE hN hLS;go_enter Tryz.func84, Tryz.ntmps84;go_wp2_with fail;refine HMK.o.mono ?_;rintro e w1 ⟨⟨x, rfl, _⟩, hbx1, hf1⟩;have HB1 := hid hbx1;have HF1 := hid hf1;have HM0 : Hid (MkS w1 L A n c0 x 0 w1) := ⟨ys, oF HL.o hf1 (fun k hk => by omega), fun k hk => by omega, Fr.refl _ _⟩;clear hbx1 hf1 HMK;go_wp2_with fail
 go_loopg [5] n (fun m kv wr => ∃ i, i <= n /\ m = n - i /\ kv = .int .i64 (i : Nat) /\ Hid (MkS w1 L A n c0 x i wr))
 case atStart => exact ⟨0, Nat.zero_le _, rfl, rfl, HM0⟩
 case round =>
  obtain ⟨i, hi, rfl, rfl, HM⟩ := hrel;by_cases hlt : i < n
  ·have hki : (i : Int) < (n : Int) := by omega
   obtain ⟨hst, ⟨u, hu⟩, huf⟩ := HM.o.step hlt;have HM2 := hid hst;clear hst;go_wp2_with fail;go_roundg (n - (i + 1))
   case measure => omega
   case rel => exact ⟨i + 1, by omega, rfl, by go_num, HM2⟩
  ·have hki : ¬ (i : Int) < (n : Int) := by omega
   have hin : i = n := by omega
   subst hin
   have HT0 : Hid (TkS w A L v nv mv cnt i x 0 es [] nv mv (.slice (some ⟨A, 0, none⟩) i c0) wr) := by
    obtain ⟨zs, z1, z2, z3⟩ := HM.o;obtain ⟨hA, hLS⟩ := HA.o;have hF1 : Fr (fun k => k = L) wS w1 := (HF.o.mono (by simp)).trans HF1.o;have hF : Fr (fun k => k = L) wS wr := hF1.monoNew z3 (fun k hk => Or.inr (by omega));have hs := HS.o;refine ⟨z3.whole HB1.o (by omega), ?_, oF hs.ma hF (fun k hk => by omega), fun e he => ?_, ((HF1.o.mono (fun k hk => Or.inl hk)).trans (z3.mono (fun k hk => Or.inr (Or.inr (Or.inr hk))))), Or.inl rfl, Or.inl rfl, ⟨A, c0, zs, rfl, z1, fun z hz => ?_, Or.inl rfl, fun e => by have := (hs.ma.lt A e).2; omega, fun e he k hk ha => ?_⟩⟩
    ·rw [List.append_nil]
     exact oF hs.nm hF (fun k hk => by omega)
    ·rw [List.append_nil] at he
     exact (hs.el e he).fr hF (fun g cs hc hm => ⟨fun e => blk_ne hc hs.bx (by decide) e, hm⟩)
    ·obtain ⟨k, hk, e⟩ := List.getElem_of_mem hz
     have hl := z1.1;have := z2 k (by omega);rw [gE hk, e] at this;injection this
    ·rw [List.append_nil] at he
     obtain ⟨g, e1, _, cs, e3, _⟩ := hs.el e he k hk;rw [e1] at ha;injection ha with ha;injection ha with ha _ _;subst ha;have := (iA.1 e3).1;omega
   clear HM HM0 HF1 HB1;go_wp2_with fail
   go_loopg [1, 6] 4 (fun m lv kv wr => ∃ j es' nv' mv', j <= 4 /\ m = 4 - j /\ kv = .int .i64 (j : Nat) /\ Hid (TkS w A L v nv mv cnt i x j es' [] nv' mv' lv wr) /\ Hid (es'.length = es.length + j /\ ∀ e, e ∈ es' -> e ∈ es \/ e.n <= 8796093022208))
   case atStart => exact ⟨0, es, nv, mv, by omega, rfl, rfl, HT0, rfl, fun e he => Or.inl he⟩
   case round =>
    obtain ⟨j, es', nv', mv', hj, rfl, rfl, HT, HLN⟩ := hrel;by_cases hj4 : j < 4
    ·have hji : (j : Int) < 4 := by omega
     obtain ⟨g, cap, zs, rfl, hlr, hzs, _, _, _⟩ := HT.o.li;have hnm := HT.o.nm;rw [List.append_nil] at hnm;obtain ⟨na, nc, en⟩ := oL hnm;subst en;obtain ⟨ma, mc, em⟩ := oL HT.o.ma;subst em;have HNM := hid hnm;have HZ := hid hzs
     have hEl : (es'.length + 1) * 24 <= 140737488355328 := by have := HE.o; have := HLN.o.1; omega
     obtain ⟨q, hq⟩ : ∃ q, es'.length = q := ⟨_, rfl⟩;have HQ := hid hq
     have c2 : wr.cell? ⟨L, 2, none⟩ = some (.slice na q nc) := by rw [<- hq]; exact bC HT.o.bx 2 _ rfl
     have hLr : L + 1 <= wr.heap.size := (iA.1 HT.o.bx).1
     have hqb : q <= 5864062014805 := by omega
     rw [hq] at hEl;clear hlr hzs hnm hq
     go_wp2_with (at_builtin; refine wpList_append_lies _ rfl (.tmp 27) (.tmp 29) 55 rfl (L + 1) 28 ii _ 1 24 Tryz.underlying55 hi' hz0 hz1 hz2 rfl (by decide) (.slice na q nc) q (es'.map NmE.val) rfl ?h1 ⟨wr.heap.size, 0, none⟩ 1 1 [.slice (some ⟨g, 0, none⟩) (i + j) cap] rfl rfl ?h2 ?h3 (by decide) ?h4 ?h5 ?h6 _ rfl ?h7)
     case h1 => rw [<- HQ.o]; exact HNM.o.alloc _
     case h2 => exact World.news_of_block (aN wr _)
     case h3 => simp [Value.oneCell']
     case h4 => unfold maxLen; omega
     case h5 => omega
     case h6 => simp; omega
     case h7 =>
      intro g2 cap2 w2 hown hgrow hor _;rw [<- HQ.o] at hown hgrow hor;obtain ⟨ht1, d2, df2⟩ := HT.o.step1 hgrow hown (by rcases hor with h | h; exact Or.inl h; exact Or.inr (by rw [h]; simp));rw [HQ.o] at ht1 d2
      have HT1 : Hid (TkS w A L v nv mv cnt i x j es' [⟨some ⟨g, 0, none⟩, i + j, cap, x⟩] (.slice (some ⟨g2, 0, none⟩) (q + 1) cap2) (.slice ma es'.length mc) (.slice (some ⟨g, 0, none⟩) (i + j) cap) (w2.setCell ⟨L, 2, none⟩ (.slice (some ⟨g2, 0, none⟩) (q + 1) cap2))) := by rw [HQ.o]; exact ht1
      clear ht1 hown hgrow hor c2;go_upto_region 9 with fail;generalize w2.setCell ⟨L, 2, none⟩ (.slice (some ⟨g2, 0, none⟩) (q + 1) cap2) = W3 at *
      have c4 : W3.cell? ⟨L, 4, none⟩ = some (.slice ma q mc) := by rw [<- HQ.o]; exact bC HT1.o.bx 4 _ rfl
      have hL3 : L + 1 <= W3.heap.size := (iA.1 HT1.o.bx).1;clear d2 df2
      go_wp2_with (at_builtin; refine wpList_append_lies _ rfl (.tmp 37) (.tmp 39) 28 rfl (L + 1) 9 ij _ 1 16 Tryz.underlying28 hj' hy0 hy1 hy2 rfl (by decide) (.slice ma q mc) q (es'.map fun e => Value.string e.m) rfl ?k1 ⟨W3.heap.size, 0, none⟩ 1 1 [.string x] rfl rfl ?k2 ?k3 (by decide) ?k4 ?k5 ?k6 _ rfl ?k7)
      case k1 => rw [<- HQ.o]; exact HT1.o.ma.alloc _
      case k2 => exact World.news_of_block (aN W3 _)
      case k3 => simp [Value.oneCell']
      case k4 => unfold maxLen; omega
      case k5 => omega
      case k6 => simp; omega
      case k7 =>
       intro g5 cap5 w5 hown hgrow hor _;rw [<- HQ.o] at hown hgrow hor;obtain ⟨ht2, d4, df4⟩ := HT1.o.step2 rfl hgrow hown (by rcases hor with h | h; exact Or.inl h; exact Or.inr (by rw [h]; simp));rw [HQ.o] at ht2 d4;have HT2 := hid ht2;clear ht2 hown hgrow hor c4;go_upto_region 10 with fail;generalize w5.setCell ⟨L, 4, none⟩ (.slice (some ⟨g5, 0, none⟩) (q + 1) cap5) = W6 at *;have hL6 : L + 1 <= W6.heap.size := (iA.1 HT2.o.bx).1;obtain ⟨g', cap', zs', el, hlr, hzs, _, _, _⟩ := HT2.o.li;injection el with el1 el2 el3;injection el1 with el1;injection el1 with el1 _ _;subst el1 el3;have HLR : Hid (W6.ownsRow (L + 1) 9 1 (.slice (some ⟨g, 0, none⟩) (i + j) cap) (i + j) zs' /\ ∀ z, z ∈ zs' -> z = .string x) := ⟨hlr, hzs⟩
       have hijb : (i + j + 1) * 16 <= 140737488355328 := by have := HNb.o; omega
       clear d4 df4 hlr hzs el2
       go_wp2_with (at_builtin; refine wpList_append_two rfl (.tmp 43) (.tmp 45) 28 rfl (L + 1) 9 ij _ 1 16 Tryz.underlying28 hj' hy0 hy1 hy2 rfl g (i + j) cap zs' rfl ?q1 ⟨W6.heap.size, 0, none⟩ 1 1 [.string x] rfl rfl ?q2 ?q3 ?q4 ?q5 ?q6 _ rfl ?q7)
       case q1 => exact HLR.o.1.alloc _
       try case q2 => exact World.news_of_block (aN W6 _)
       case q3 => simp [Value.oneCell']
       case q4 => unfold maxLen; omega
       try case q5 => omega
       case q6 => first | omega | (simp; omega)
       case q7 =>
        intro g8 cap8 w8 hown hor;have HT3 := hid (HT2.o.step3 HLR.o.2 hown (by rcases hor with h | h; exact Or.inl h; exact Or.inr ⟨by rw [h.1]; simp, h.2⟩));clear hown hor;go_wp2_with fail;go_roundg (4 - (j + 1))
        case measure => omega
        case rel => exact ⟨j + 1, _, _, _, by omega, rfl, by go_num, HT3, by rw [List.length_append, HLN.o.1]; simp; omega, fun e he => (List.mem_append.1 he).elim (HLN.o.2 e) (fun h => by rw [List.mem_singleton.1 h]; exact Or.inr (by show i + j <= _; omega))⟩
    ·have hji : ¬ (j : Int) < 4 := by omega
     have hj4' : j = 4 := by omega
     subst hj4'
     have HFIN : Hid ((∃ nv' mv' es', DSt wr L v xs nv' mv' (cnt + 1) es' /\ es'.length = es.length + 4 /\ ∀ e, e ∈ es' -> e ∈ es \/ e.n <= 8796093022208) /\ Fr (fun k => k = L \/ nv.ownBlock = some k \/ mv.ownBlock = some k) wS wr /\ Fr (fun k => k = L \/ nv.ownBlock = some k \/ mv.ownBlock = some k \/ k = A) w wr) := by
      have ht := HT.o
      have hfS : Fr (fun k => k = L \/ nv.ownBlock = some k \/ mv.ownBlock = some k) wS wr := (HF.o.mono (by simp)).monoNew ht.fr (fun k hk => by
       rcases hk with e | e | e | e
       ·exact Or.inl (Or.inl e)
       ·exact Or.inl (Or.inr (Or.inl e))
       ·exact Or.inl (Or.inr (Or.inr e))
       ·exact Or.inr (by have := HA.o.1; omega))
      have hsz := HF.o.size;have hs := HS.o;have hnm := ht.nm;rw [List.append_nil] at hnm;refine ⟨⟨nv', mv', es', ⟨ht.bx, ?_, hs.few, fun y hy => ?_, hnm, ht.ma, fun e he => ht.el e (by rw [List.append_nil]; exact he)⟩, HLN.o.1, HLN.o.2⟩, hfS, ht.fr⟩
      ·refine oA hs.own hfS (fun k hk => ?_)
       rintro (e | e | e)
       ·have := (hs.own.lt k hk).1
        omega
       ·rcases own_ne hs.own hs.nm (by decide) with e' | e'
        ·rw [e'] at hk; cases hk
        ·exact e' (hk.trans e.symm)
       ·rcases own_ne hs.own hs.ma (by decide) with e' | e'
        ·rw [e'] at hk; cases hk
        ·exact e' (hk.trans e.symm)
      ·refine (hs.en y hy).fr hfS (fun k hk => ?_) (fun g hg => ?_)
       ·rcases hk with e | e | e
        ·exact Or.inl e
        ·exact Or.inr (Or.inr (Or.inl e))
        ·exact Or.inr (Or.inr (Or.inr e))
       ·rcases hg with e | e | e
        ·exact Or.inl (Or.inl e)
        ·rcases ht.ln with e' | e'
         ·exact Or.inl (Or.inr (Or.inl (e' ▸ e)))
         ·exact Or.inr (Nat.le_trans hsz (e' g e))
        ·rcases ht.lm with e' | e'
         ·exact Or.inl (Or.inr (Or.inr (e' ▸ e)))
         ·exact Or.inr (Nat.le_trans hsz (e' g e))
     go_wp2_with fail
     go_end0
     exact ⟨rfl, HFIN.o.1, HFIN.o.2.1, HFIN.o.2.2⟩
theorem still_any (w : World) (L : Nat) (v : Value) (xs : List Value) (nv mv : Value) (cnt : Nat) (es : List NmE) (h : DSt w L v xs nv mv cnt es) (hE : es.length <= 8796093022208) (hn : ∀ e, e ∈ es -> e.n <= maxLen) :
  Calls Tryz.prog 29 #[.pointer (some ⟨L, 0, none⟩)] w fun e w' => e = .returned (.bool true) /\ F0 w w' := by
 have HS : Hid (DSt w L v xs nv mv cnt es) := h;have HNL : Hid (∀ e, e ∈ es -> e.n <= maxLen) := hn;obtain ⟨na, nc, en⟩ := oL h.nm;subst en;obtain ⟨ma, mc, em⟩ := oL h.ma;subst em;obtain ⟨q, hq⟩ : ∃ q, es.length = q := ⟨_, rfl⟩;have HQ : Hid (es.length = q) := hq
 have HC : Hid (∀ W, F0 w W -> W.cell? ⟨L, 2, none⟩ = some (.slice na q nc) /\ W.cell? ⟨L, 4, none⟩ = some (.slice ma q mc) /\ W.cell? ⟨L, 3, none⟩ = some (.slice none 0 0)) := fun W hf => by
  have b := hf.whole h.bx (by simp);rw [<- hq];exact ⟨bC b 2 _ rfl, bC b 4 _ rfl, bC b 3 _ rfl⟩
 have HR : Hid (∀ W, F0 w W -> ∀ i e, es[i]? = some e -> ∃ gn gm, na = some ⟨gn, 0, none⟩ /\ ma = some ⟨gm, 0, none⟩ /\ W.cell? ⟨gn, i, none⟩ = some (.slice e.a e.n e.c) /\ W.cell? ⟨gm, i, none⟩ = some (.string e.m) /\ ∀ k, k < e.n -> ∃ g, e.a = some ⟨g, 0, none⟩ /\ W.cell? ⟨g, k, none⟩ = some (.string e.m)) := by
  intro W hf i e hi;have hs := h.fr hf;have hl := (iG.1 hi).1;obtain ⟨gn, _, e1, _, _⟩ := hs.nm.form (by omega);obtain ⟨gm, _, e2, _, _⟩ := hs.ma.form (by omega);injection e1 with e1 _ _;injection e2 with e2 _ _;subst e1 e2;refine ⟨gn, gm, rfl, rfl, ?_, ?_, fun k hk => ?_⟩
  ·have := hs.nm.cells (g := gn) rfl i _ (by rw [List.getElem?_map, hi]; rfl)
   rw [addr_add', Nat.zero_add] at this;exact this
  ·have := hs.ma.cells (g := gm) rfl i _ (by rw [List.getElem?_map, hi]; rfl)
   rw [addr_add', Nat.zero_add] at this;exact this
  ·obtain ⟨g, a1, _, cs, a3, a4⟩ := hs.el e (mG hi) k hk
   exact ⟨g, a1, bC a3 k _ a4⟩
 rw [hq] at hE;clear h hn hq;go_enter Tryz.func29, Tryz.ntmps29;go_wp2_with fail
 go_loopg [3, 4] q (fun m iv _ wr => ∃ i, i <= q /\ m = q - i /\ iv = .int .i64 (i : Nat) /\ Hid (F0 w wr))
 case atStart => exact ⟨0, Nat.zero_le _, rfl, rfl, Fr.refl _ _⟩
 case round =>
  obtain ⟨i, hi, rfl, rfl, HF⟩ := hrel;obtain ⟨c2, c4, c3⟩ := HC.o wr HF.o;by_cases hlt : i < q
  ·have hki : (i : Int) < (q : Int) := by omega
   obtain ⟨e, he⟩ : ∃ e, es[i]? = some e := ⟨_, gE (by have := HQ.o; omega)⟩;have HEi : Hid (es[i]? = some e) := he;have hen := HNL.o e (mG he);unfold maxLen at hen
   have heni : (e.n : Int) <= 9223372036854775807 := by omega
   clear he c4 c3 hen;go_wp2_with fail
   go_loopg [4] e.n (fun m kv wr => ∃ k, k <= e.n /\ m = e.n - k /\ kv = .int .i64 (k : Nat) /\ Hid (F0 w wr))
   case atStart => exact ⟨0, Nat.zero_le _, rfl, rfl, HF⟩
   case round =>
    obtain ⟨k, hk, rfl, rfl, HFk⟩ := hrel;obtain ⟨d2, d4, _⟩ := HC.o wr HFk.o;obtain ⟨gn, gm, rfl, rfl, r1, r2, r3⟩ := HR.o wr HFk.o i e HEi.o;by_cases hkl : k < e.n
    ·have hkk : (k : Int) < (e.n : Int) := by omega
     obtain ⟨g, ea, r4⟩ := r3 k hkl;rw [ea] at r1;clear r3;go_upto_region 7 with fail
     go_quiet (fail)
     have HF2 : Hid (F0 w (wr.drewN nq)) := HFk.o.trans ⟨rfl, rfl, rfl, Nat.le_refl _, fun _ _ _ => rfl⟩;go_wp2_with fail;go_roundg (e.n - (k + 1))
     case measure => omega
     case rel => exact ⟨k + 1, by omega, rfl, by go_num, HF2⟩
    ·have hkk : ¬ (k : Int) < (e.n : Int) := by omega
     clear r3 r2;go_wp2_with fail;go_roundg (q - (i + 1))
     case measure => omega
     case rel => exact ⟨i + 1, by omega, rfl, by go_num, HFk⟩
  ·have hki : ¬ (i : Int) < (q : Int) := by omega
   clear c4;go_wp2_with fail
   go_loopg [5, 6] 0 (fun _ iv _ wr2 => iv = .int .i64 0 /\ Hid (wr2 = wr))
   case atStart => exact ⟨rfl, rfl⟩
   case round =>
    obtain ⟨rfl, HW⟩ := hrel;have e := HW.o;subst e;go_wp2_with fail;go_ret;exact ⟨rfl, HF.o⟩
