import Derived.Test.YtccikgogjfbpeaaGreatDoorNd
namespace Go.Proofs.YtccikgogjfbpeaaGreatDoor
set_option maxRecDepth 30000
set_option maxHeartbeats 8000000
open Go.RowKit
theorem DSt.more {w w0 w5 : World} {L a X g cap : Nat} {v : Value} {xs : List Value} {nv mv : Value} {cnt : Nat} {es : List NmE} (h : DSt w L v xs nv mv cnt es) (h0 : F0 w w0) (hL : L < a) (hv : ∀ k, (v.ownBlock = some k \/ nv.ownBlock = some k \/ mv.ownBlock = some k) -> k < a) (ht : TabAt w0 a X) (o : Obj)
  (hg : (w0.alloc o).grownBy w5 v.ownBlock) (ho : w5.ownsRow (L + 1) 93 1 (.slice (some ⟨g, 0, none⟩) (xs.length + 1) cap) (xs.length + 1) (xs ++ [.pointer (some ⟨X, 0, none⟩)])) (hw : v.ownBlock = some g \/ g = (w0.alloc o).heap.size) (h20 : xs.length < 20) :
  w5.cell? ⟨L, 0, none⟩ = some v /\ (∀ o, w5.frozen? ⟨L, o, none⟩ = false) /\ DSt (w5.setCell ⟨L, 0, none⟩ (.slice (some ⟨g, 0, none⟩) (xs.length + 1) cap)) L (.slice (some ⟨g, 0, none⟩) (xs.length + 1) cap) (xs ++ [.pointer (some ⟨X, 0, none⟩)]) nv mv cnt es /\
   Fr (fun k => L <= k) w (w5.setCell ⟨L, 0, none⟩ (.slice (some ⟨g, 0, none⟩) (xs.length + 1) cap)) := by
 have hl : L < w.heap.size := (iA.1 h.bx).1
 have hvL : ∀ k, v.ownBlock = some k -> L + 1 <= k := fun k hk => (h.own.lt k hk).1
 have hF0 : Fr (fun k => v.ownBlock = some k) w0 w5 := ((Fr.refl _ w0).alloc o).grown hg (fun k hk => Or.inl hk);have hF : Fr (fun k => v.ownBlock = some k) w w5 := (h0.mono (by simp)).trans hF0
 have hn : ¬ v.ownBlock = some L := fun e => by have := hvL L e; omega
 have bx5 := hF.whole h.bx hn;have hS5 : Fr (fun k => k = L) w5 (w5.setCell ⟨L, 0, none⟩ (.slice (some ⟨g, 0, none⟩) (xs.length + 1) cap)) := (Fr.refl (fun k => k = L) w5).setCell (p := ⟨L, 0, none⟩) (Or.inl rfl) _;have hS : Fr (fun k => k = L \/ v.ownBlock = some k) w (w5.setCell ⟨L, 0, none⟩ (.slice (some ⟨g, 0, none⟩) (xs.length + 1) cap)) := (hF.mono (fun k hk => Or.inr hk)).trans (hS5.mono (fun k hk => Or.inl hk));have hz : w.heap.size <= w0.heap.size := h0.size
 have hgo : ∀ k, (Value.slice (some ⟨g, 0, none⟩) (xs.length + 1) cap).ownBlock = some k -> k = g := fun k hk => by simpa [Value.ownBlock] using hk.symm
 have hza : (w0.alloc o).heap.size = w0.heap.size + 1 := by simp
 refine ⟨bC bx5 0 _ rfl, bF bx5, ⟨?_, ?_, by simp; omega, fun x hx => ?_, ?_, ?_, fun e he => ?_⟩, ?_⟩
 ·have e := heap_setCell_same w5 L 0 _ _ (.slice (some ⟨g, 0, none⟩) (xs.length + 1) cap) bx5
  simpa [lwO] using e
 ·rw [lA]
  exact oB ho (by simp) _
 ·rcases List.mem_append.1 hx with hx | hx
  ·refine (h.en x hx).fr hS (fun k hk => ?_) (fun k hk => ?_)
   ·rcases hk with e | e
    ·exact Or.inl e
    ·exact Or.inr (Or.inl e)
   ·rcases hk with e | e
    ·have := hgo k e
     subst this;rcases hw with e | e
     ·exact Or.inl (Or.inl e)
     ·exact Or.inr (by omega)
    ·exact Or.inl (Or.inr e)
  ·simp at hx
   refine ⟨w0, a, X, hx, hL, ht, ((Fr.refl _ w0).monoNew hF0 (fun k hk => Or.inl (hv k (Or.inl hk)))).monoNew hS5 (fun k hk => Or.inl (by omega)), fun k hk => ?_⟩;rcases hk with e | e
   ·have := hgo k e
    subst this;rcases hw with e | e
    ·exact Or.inl (hv _ (Or.inl e))
    ·exact Or.inr (by omega)
   ·exact Or.inl (hv k (Or.inr e))
 ·refine oA h.nm hS (fun k hk => ?_)
  rintro (e | e)
  ·have := (h.nm.lt k hk).1
   omega
  ·rcases own_ne h.nm h.own (by decide) with e' | e'
   ·rw [e'] at hk; cases hk
   ·exact e' (hk.trans e.symm)
 ·refine oA h.ma hS (fun k hk => ?_)
  rintro (e | e)
  ·have := (h.ma.lt k hk).1
   omega
  ·rcases own_ne h.ma h.own (by decide) with e' | e'
   ·rw [e'] at hk; cases hk
   ·exact e' (hk.trans e.symm)
 ·refine (h.el e he).fr hS (fun g' cs hc hm => ⟨?_, hm⟩)
  rintro (e | e)
  ·exact blk_ne hc h.bx (by decide) e
  ·exact oN h.own hc (by decide) e
 ·refine hS.mono (fun k hk => ?_)
  rcases hk with e | e
  ·omega
  ·have := hvL k e
   omega
theorem compiles_d (w : World) (L : Nat) (v : Value) (xs : List Value) (nv mv : Value) (cnt : Nat) (es : List NmE) (s : ByteArray) (h : DSt w L v xs nv mv cnt es) :
  Calls Tryz.prog 25 #[.pointer (some ⟨L, 0, none⟩), .string s] w fun e w' => e = .returned (.bool true) /\ (∃ v' xs', DSt w' L v' xs' nv mv cnt es) /\ Fr (fun k => L <= k) w w' := by
 have HL := hid h;obtain ⟨ii, hi, hz0, hz1, hz2⟩ := info_parts Tryz.infoPltable;clear h;go_enter Tryz.func25, Tryz.ntmps25;go_wp2_with fail;refine (Compile_any s w).mono ?_;intro e w1 hT;have HN := hid (New_any s w1)
 cases hR : readM s with
 | error f =>
  rw [hR] at HN;obtain ⟨rfl, hf⟩ := (CPost.err hR).1 hT;have HF : Hid (F0 w w1) := Fr.of_below hf;clear hT hf hR;obtain ⟨f1, f2⟩ := f
  as_aux_lemma =>
  go_wp2_with fail;refine HN.o.mono ?_;intro e w2 hT;obtain ⟨rfl, hf⟩ := (NwPost.err rfl).1 hT;have HF2 := hid (HF.o.trans hf);clear hT hf;go_wp2;go_ret;exact ⟨rfl, ⟨v, xs, HL.o.fr HF2.o⟩, HF2.o.mono (by simp)⟩
 | ok p =>
  rw [hR] at HN;have HBO := hid (readM_book hR);obtain ⟨⟨T, Bb, TT, vr, vl, ys, rfl, hTb, hTc, hTc1, hBb, hBk, hTr⟩, hf⟩ := (CPost.ok hR).1 hT;have HF : Hid (F0 w w1) := Fr.of_below hf;have HTB : Hid (w.heap.size <= T /\ w1.cell? ⟨T, 0, none⟩ = some (.pointer (some ⟨Bb, 0, none⟩)) /\ w.heap.size <= Bb /\ Bk w1 Bb vr vl p.1 p.2 ys) := ⟨hTb, hTc, hBb, hBk⟩;have HTR : Hid (w1.cell? ⟨T, 1, none⟩ = some (.pointer (some ⟨TT, 0, none⟩)) /\ TreeAt w.heap.size w1 TT vr p.2 (stageF (rankF p.2) p.2.length)) := ⟨hTc1, hTr⟩;clear hT hf hR hTb hTc hBb hBk hTc1 hTr
  as_aux_lemma =>
  go_wp2_with fail;refine HN.o.mono ?_;intro e w2 hT;obtain ⟨⟨q, body, rfl, hq⟩, hf⟩ := (NwPost.ok rfl).1 hT;have HF2 := hid (HF.o.trans hf);have HQ := hid (hq.less HF.o.size);have HTB2 : Hid (w2.cell? ⟨T, 0, none⟩ = some (.pointer (some ⟨Bb, 0, none⟩)) /\ Bk w2 Bb vr vl p.1 p.2 ys) := ⟨(hf.cell (p := ⟨T, 0, none⟩) (bL w1 _ HTB.o.2.1) (by simp)).trans HTB.o.2.1, HTB.o.2.2.2.fr hf (by simp)⟩;have HTR2 : Hid (w2.cell? ⟨T, 1, none⟩ = some (.pointer (some ⟨TT, 0, none⟩)) /\ TreeAt w.heap.size w2 TT vr p.2 (stageF (rankF p.2) p.2.length)) := ⟨(hf.cell (p := ⟨T, 1, none⟩) (bL w1 _ HTR.o.1) (by simp)).trans HTR.o.1, HTR.o.2.fr hf (by simp)⟩;have HL2 := hid (HL.o.fr HF2.o);clear hT hf hq;obtain ⟨va, vc, hv⟩ := oL HL2.o.own;subst hv;have c0 := bC HL2.o.bx 0 _ rfl;have fz := bF HL2.o.bx;obtain ⟨n, hn⟩ : ∃ n, xs.length = n := ⟨_, rfl⟩;have HN := hid hn;rw [hn] at c0 HL2
  have hn20 : n <= 20 := by have := HL2.o.few; omega
  clear hn
  have HVB : Hid (∀ k, ((Value.slice va n vc).ownBlock = some k \/ nv.ownBlock = some k \/ mv.ownBlock = some k) -> k < w.heap.size) := fun k hk => by
   have e := HL.o.own;rw [HN.o] at e;rcases hk with hk | hk | hk
   ·exact (e.lt k hk).2
   ·exact (HL.o.nm.lt k hk).2
   ·exact (HL.o.ma.lt k hk).2
  have HLW := hid ((iA.1 HL.o.bx).1);by_cases hlt : n < 20
  ·have hlt' : (n : Int) < 20 := by omega
   have hLs : L + 1 <= w2.heap.size := by have := HLW.o; have := HF2.o.size; omega
   as_aux_lemma =>
   go_wp2_with (at_builtin; refine wpList_append_lies _ rfl (.tmp 52) (.tmp 57) 53 rfl (L + 1) 93 ii _ 1 8 Tryz.underlying53 hi hz0 hz1 hz2 rfl (by decide) (.slice va n vc) n xs rfl ?h1 ⟨w2.heap.size + 1, 0, none⟩ 1 1 [.pointer (some ⟨w2.heap.size, 0, none⟩)] rfl rfl ?h2 ?h3 (by decide) ?h4 ?h5 ?h6 _ rfl ?h7)
   case h1 => have e := HL2.o.own; rw [HN.o] at e; exact (e.alloc _).alloc _
   case h2 => exact World.news_of_block (by have e := aN (w2.alloc (.cells #[.pointer (some ⟨T, 0, none⟩), .pointer (some ⟨q, 0, none⟩), .bool false, .bool false, .slice none 0 0, .slice none 0 0] 97)) (.cells #[.pointer (some ⟨w2.heap.size, 0, none⟩)] 93); simpa using e)
   case h3 => simp [Value.oneCell']
   case h4 => unfold maxLen; omega
   case h5 => omega
   case h6 => simp; omega
   case h7 =>
    intro g2 cap2 w8 hown hgrow hor _;have hL2 := HL2.o
    have hTab : TabAt (w2.alloc (.cells #[.pointer (some ⟨T, 0, none⟩), .pointer (some ⟨q, 0, none⟩), .bool false, .bool false, .slice none 0 0, .slice none 0 0] 97)) w.heap.size w2.heap.size := by
     have hf : F0 w2 (w2.alloc (.cells #[.pointer (some ⟨T, 0, none⟩), .pointer (some ⟨q, 0, none⟩), .bool false, .bool false, .slice none 0 0, .slice none 0 0] 97)) := (Fr.refl _ _).alloc _;exact ⟨T, q, Bb, TT, vr, vl, p.1, p.2, ys, body, HF2.o.size, aN w2 _, HTB.o.1, (hf.cell (p := ⟨T, 0, none⟩) (bL w2 _ HTB2.o.1) (by simp)).trans HTB2.o.1, (hf.cell (p := ⟨T, 1, none⟩) (bL w2 _ HTR2.o.1) (by simp)).trans HTR2.o.1, HTB.o.2.2.1, HTB2.o.2.fr hf (by simp), HTR2.o.2.fr hf (by simp), HBO.o, HQ.o.fr hf⟩
    have hn := HN.o;subst hn;obtain ⟨e1, ef, hfin⟩ := hL2.more (w0 := w2.alloc (.cells #[.pointer (some ⟨T, 0, none⟩), .pointer (some ⟨q, 0, none⟩), .bool false, .bool false, .slice none 0 0, .slice none 0 0] 97)) (a := w.heap.size) ((Fr.refl _ _).alloc _) HLW.o HVB.o hTab _ hgrow hown (by rcases hor with h | h; exact Or.inl h; exact Or.inr (by rw [h]; simp)) hlt;have HFIN := hid hfin;clear hfin hgrow hown hTab hL2 hor c0 fz;go_wp2;go_ret;exact ⟨rfl, ⟨_, _, HFIN.o.1⟩, (HF2.o.mono (by simp)).trans HFIN.o.2⟩
  ·have hlt' : ¬ (n : Int) < 20 := by omega
   as_aux_lemma =>
   go_wp2;go_ret;exact ⟨rfl, ⟨_, _, HL2.o⟩, HF2.o.mono (by simp)⟩
theorem dstep_compile (w : World) (L : Nat) (v : Value) (xs : List Value) (nv mv : Value) (cnt : Nat) (es : List NmE) (on : Int) (s pan : ByteArray) (mcc am cur : Int) (da : Option Addr) (dn dc : Nat) (up : Bool) (h : DSt w L v xs nv mv cnt es) :
  Calls Tryz.prog 26 #[.pointer (some ⟨L, 0, none⟩), opV 1 on s pan mcc am cur da dn dc up] w fun e w' => e = .returned (.bool true) /\ (∃ v' xs', DSt w' L v' xs' nv mv cnt es) /\ Fr (fun k => L <= k) w w' := by
 unfold opV;have HL := hid h;clear h;go_enter Tryz.func26, Tryz.ntmps26;go_wp2_with fail;have HF : Hid (F0 w (w.alloc (opCells 1 on s pan mcc am cur da dn dc up))) := (Fr.refl _ _).alloc _;unfold opCells at HF;refine (compiles_d _ L v xs nv mv cnt es s (HL.o.fr HF.o)).mono ?_;rintro e w1 ⟨rfl, ⟨v', xs', h1⟩, hf⟩;have H1 := hid h1;have HF1 := hid ((HF.o.mono (by simp)).trans hf);clear h1 hf;go_wp2;go_ret;exact ⟨rfl, ⟨_, _, H1.o⟩, HF1.o⟩
theorem dstep_none (w : World) (L : Nat) (xs : List Value) (nv mv : Value) (cnt : Nat) (es : List NmE) (va : Option Addr) (vc : Nat) (k on : Int) (s pan : ByteArray) (mcc am cur : Int) (da : Option Addr) (dn dc : Nat) (up : Bool) (h : DSt w L (.slice va 0 vc) xs nv mv cnt es) (hk : k <= 3) (hk1 : k ≠ 1) :
  Calls Tryz.prog 26 #[.pointer (some ⟨L, 0, none⟩), opV k on s pan mcc am cur da dn dc up] w fun e w' => e = .returned (.bool true) /\ (∃ v' xs', DSt w' L v' xs' nv mv cnt es) /\ Fr (fun k => L <= k) w w' := by
 have HL := hid h;clear h
 have e1 : (k == 1) = false := by simp; omega
 have e7 : (k == 7) = false := by simp; omega
 have e9 : (k == 9) = false := by simp; omega
 have e10 : (k == 10) = false := by simp; omega
 have HF : Hid (F0 w (w.alloc (opCells k on s pan mcc am cur da dn dc up))) := (Fr.refl _ _).alloc _;have c0 := bC (HL.o.fr HF.o).bx 0 _ rfl;unfold opCells at HF c0;clear hk hk1;unfold opV;go_enter Tryz.func26, Tryz.ntmps26;go_wp2;go_ret;exact ⟨rfl, ⟨_, _, HL.o.fr HF.o⟩, HF.o.mono (by simp)⟩
theorem DSt.pick {w : World} {L : Nat} {v : Value} {xs : List Value} {nv mv : Value} {cnt : Nat} {es : List NmE} (h : DSt w L v xs nv mv cnt es) (k : Nat) (hk : k < xs.length) :
  ∃ g c X, v = .slice (some ⟨g, 0, none⟩) xs.length c /\ g < w.heap.size /\ w.cell? ⟨g, k, none⟩ = some (.pointer (some ⟨X, 0, none⟩)) /\ ∃ a, L < a /\ TabAt w a X := by
 obtain ⟨g, c, e, hb, hl⟩ := h.own.form (by omega);subst e;have hx := gE hk;obtain ⟨w0, a, X, h1, h2, h3, h4, h5⟩ := h.en xs[k] (List.getElem_mem hk);have hc := h.own.cells (g := g) rfl _ _ hx;rw [addr_add, Nat.zero_add] at hc;exact ⟨g, c, X, rfl, hl, by rw [hc, h1], a, h2, h3.fr h4 (fun k hk => hk)⟩
theorem dstep_some (w : World) (L : Nat) (v : Value) (xs : List Value) (nv mv : Value) (cnt : Nat) (es : List NmE) (k on : Int) (s pan : ByteArray) (mcc am cur : Int) (da : Option Addr) (dn dc : Nat) (up : Bool) (dl : List ByteArray) (h : DSt w L v xs nv mv cnt es) (h0 : 0 < xs.length) (hk : k <= 3) (hk1 : k ≠ 1) (ho1 : -9223372036854775808 <= on) (ho2 : on <= 9223372036854775807)
  (ht : ∀ w', Fr (fun k => L <= k) w w' -> Tab w') (hdl : dl.length = dn) (hd : StrsAt w da dl) (hs : pan.size <= maxLen) (hc : cnt <= 4611686018427387904) (hE : (es.length + 4) * 24 <= 140737488355328) (hN : (dn + 6) * 16 <= 140737488355328) :
  Calls Tryz.prog 26 #[.pointer (some ⟨L, 0, none⟩), opV k on s pan mcc am cur da dn dc up] w fun e w' => e = .returned (.bool true) /\ (∃ nv' mv' cnt' es', DSt w' L v xs nv' mv' cnt' es' /\ cnt' <= cnt + 1 /\ es'.length <= es.length + 4 /\ ∀ e, e ∈ es' -> e ∈ es \/ e.n <= 8796093022208) /\ Fr (fun k => L <= k) w w' := by
 have e1 : (k == 1) = false := by simp; omega
 have e7 : (k == 7) = false := by simp; omega
 have e9 : (k == 9) = false := by simp; omega
 have e10 : (k == 10) = false := by simp; omega
 have HF : Hid (F0 w (w.alloc (opCells k on s pan mcc am cur da dn dc up))) := (Fr.refl _ _).alloc _;have HT := hid ht;have HL := hid (h.fr HF.o);have hy := aN w (opCells k on s pan mcc am cur da dn dc up);have y0 := bC hy 0 _ rfl;have y1 := bC hy 1 _ rfl;have HY := hid hy;have HDD : Hid (dl.length = dn /\ StrsAt w da dl /\ pan.size <= maxLen /\ cnt <= 4611686018427387904 /\ (es.length + 4) * 24 <= 140737488355328 /\ (dn + 6) * 16 <= 140737488355328) := ⟨hdl, hd, hs, hc, hE, hN⟩;unfold opCells at HF HL HY y0 y1;obtain ⟨n, hn⟩ : ∃ n, xs.length = n := ⟨_, rfl⟩;have HN := hid hn
 have hn0 : 0 < n := by omega
 have hn20 : n <= 20 := by have := h.few; omega
 have hp : pickM on n < n := pickM_lt on n hn0
 have hpI : (pickM on n : Int) < (n : Int) := by omega
 have hne : ((n : Int) == 0) = false := by simp; omega
 obtain ⟨g, c, X, hv, hgl, hgc, HTA⟩ := HL.o.pick (pickM on n) (by omega);have HTA' := hid HTA;subst hv;rw [hn] at HL;have c0 := bC HL.o.bx 0 _ rfl
 have HPK : Hid (∀ W, Calls Tryz.prog 44 #[.int .i64 on, .int .i64 n] W fun e w' => e = .returned (.int .i64 (pickM on n)) /\ w' = W) := fun W => pick_any on n W ho1 ho2 hn0 (by omega)
 clear h ht h0 hk1 hn hy HTA hn0 hn20 ho1 ho2 hdl hd hs hc hE hN;unfold opV;go_enter Tryz.func26, Tryz.ntmps26;go_wp2_with fail
 go_quiet ((go_at_call 44; exact Calls.quiet_of_same (HPK.o _)))
 have HD : Hid (F0 (w.alloc (.cells #[.int .i64 k, .int .i64 on, .string s, .string pan, .int .i64 mcc, .int .i64 am, .int .i64 cur, .slice da dn dc, .bool up] 62)) ((w.alloc (.cells #[.int .i64 k, .int .i64 on, .string s, .string pan, .int .i64 mcc, .int .i64 am, .int .i64 cur, .slice da dn dc, .bool up] 62)).drewN nq)) := ⟨rfl, rfl, rfl, Nat.le_refl _, fun _ _ _ => rfl⟩;have z0 := (HD.o.cell (p := ⟨w.heap.size, 0, none⟩) (bL _ _ y0) (by simp)).trans y0;have HL2 := HL.o.fr HD.o;have HY2 := hid (HD.o.whole HY.o (by simp));obtain ⟨a, hLa, hTA⟩ := HTA'.o;have hTA2 := hTA.fr HD.o (by simp);have HF2 := hid (HF.o.trans HD.o);generalize (w.alloc (.cells #[.int .i64 k, .int .i64 on, .string s, .string pan, .int .i64 mcc, .int .i64 am, .int .i64 cur, .slice da dn dc, .bool up] 62)).drewN nq = W at *;have HL3 := hid HL2;have HTA3 := hid hTA2;obtain ⟨T, q, Bb, TT, vr, vl, rts, rls, zs, body, h1, h2, h3, h4, k4, h5, h6, k6, h7, h8⟩ := hTA2;clear HL2 hTA y0 y1 c0 hgc hgl hLa hp hpI hne e1 e7 e9 e10;by_cases hk2 : k = 2
 ·subst hk2
  have HTX := hid (TText_any W T Bb vr vl rts rls zs h4 h6 h7 (HT.o W (HF2.o.mono (by simp))));have HRA := hid h8;have HX := hid h2;have x0 := bC h2 0 _ rfl;clear h1 h2 h3 h4 k4 h5 h6 k6 h7 h8;go_wp2_with fail;refine HTX.o.mono ?_;rintro e w5 ⟨rfl, hf⟩;have HF5 := hid hf;have x1 := bC (hf.whole HX.o (by simp)) 1 _ rfl;have x2 := bC (hf.whole HX.o (by simp)) 2 _ rfl
  have HRT : Hid (Calls Tryz.prog 45 #[.pointer (some ⟨q, 0, none⟩)] w5 fun e w' => e = .returned (.string (strB (bookJ rts rls))) /\ w' = w5) := by
   have hr := HRA.o.fr hf;obtain ⟨⟨a', c', k1, k2⟩, _, ⟨k3, k4⟩, k5, _⟩ := hr;refine (RText_any w5 q a' c' body k1 (fun h => by obtain ⟨g', e, _, _, r⟩ := k2 h; exact ⟨g', e, r⟩) k3 k4).mono ?_;rintro e w' ⟨⟨t, rfl, ht⟩, rfl⟩;refine ⟨?_, rfl⟩;rw [<- k5] at ht
   have : t = strB (bookJ rts rls) := by
    unfold strB;rw [<- ht]
   rw [this]
  clear hf x0 z0;go_wp2_with fail;refine HRT.o.mono ?_;rintro e w6 ⟨rfl, hw⟩;replace hw := hw.symm;subst hw;go_wp2;go_ret;rw [HN.o];exact ⟨rfl, ⟨nv, mv, cnt, es, HL3.o.fr HF5.o, by omega, by omega, fun e he => Or.inl he⟩, (HF2.o.trans HF5.o).mono (by simp)⟩
 ·clear h1 h2 h3 h4 k4 h5 h6 k6 h7 h8
  by_cases hk3 : k = 3
  ·subst hk3
   have HDE : Hid (Calls Tryz.prog 46 #[.pointer (some ⟨L, 0, none⟩), .pointer (some ⟨X, 0, none⟩), .agg #[.int .i64 3, .int .i64 on, .string s, .string pan, .int .i64 mcc, .int .i64 am, .int .i64 cur, .slice da dn dc, .bool up]] W fun e w' => e = .returned (.bool true) /\ (∃ nv' mv' es', DSt w' L (.slice (some ⟨g, 0, none⟩) n c) xs nv' mv' (cnt + 1) es' /\ es'.length = es.length + 4 /\ ∀ e, e ∈ es' -> e ∈ es \/ e.n <= 8796093022208) /\ Fr (fun k => L <= k) W w') := by
    obtain ⟨d1, d2, d3, d4, d5, d6⟩ := HDD.o;have e := decides_any W L (.slice (some ⟨g, 0, none⟩) n c) xs nv mv cnt es X a 3 on s ⟨pan, mcc, am, cur⟩ da dl dc up HL3.o HTA3.o (d2.fr HF2.o (by simp)) d3 d4 d5 (by omega);rw [d1] at e;refine e.mono ?_;rintro e w' ⟨r1, r2, r3⟩;refine ⟨r1, r2, r3.mono (fun k hk => ?_)⟩;rcases hk with e | e | e
    ·omega
    ·have := (HL3.o.nm.lt k e).1; omega
    ·have := (HL3.o.ma.lt k e).1; omega
   have z1 : W.cell? ⟨w.heap.size, 1, none⟩ = some (.int .i64 on) := bC HY2.o 1 _ rfl;have z2 : W.cell? ⟨w.heap.size, 2, none⟩ = some (.string s) := bC HY2.o 2 _ rfl;have z3 : W.cell? ⟨w.heap.size, 3, none⟩ = some (.string pan) := bC HY2.o 3 _ rfl;have z4 : W.cell? ⟨w.heap.size, 4, none⟩ = some (.int .i64 mcc) := bC HY2.o 4 _ rfl;have z5 : W.cell? ⟨w.heap.size, 5, none⟩ = some (.int .i64 am) := bC HY2.o 5 _ rfl;have z6 : W.cell? ⟨w.heap.size, 6, none⟩ = some (.int .i64 cur) := bC HY2.o 6 _ rfl;have z7 : W.cell? ⟨w.heap.size, 7, none⟩ = some (.slice da dn dc) := bC HY2.o 7 _ rfl;have z8 : W.cell? ⟨w.heap.size, 8, none⟩ = some (.bool up) := bC HY2.o 8 _ rfl;go_wp2_with fail;refine HDE.o.mono ?_;rintro e w5 ⟨rfl, hd5, hf5⟩;have HD5 := hid hd5;have HF5 := hid ((HF2.o.mono (by simp)).trans hf5);clear hd5 hf5 z0 z1 z2 z3 z4 z5 z6 z7 z8;go_wp2;go_ret;obtain ⟨nv', mv', es', r1, r2, r3⟩ := HD5.o;rw [HN.o];exact ⟨rfl, ⟨nv', mv', cnt + 1, es', r1, by omega, by omega, r3⟩, HF5.o⟩
  ·have f2 : (k == 2) = false := by simp; omega
   have f3 : (k == 3) = false := by simp; omega
   have f4 : (k == 4) = false := by simp; omega
   have f5 : (k == 5) = false := by simp; omega
   have f6 : (k == 6) = false := by simp; omega
   have f8 : (k == 8) = false := by simp; omega
   clear hk hk2 hk3;go_wp2;go_ret;rw [HN.o];exact ⟨rfl, ⟨nv, mv, cnt, es, HL3.o, by omega, by omega, fun e he => Or.inl he⟩, HF2.o.mono (by simp)⟩
def DAll (w : World) (L m : Nat) : Prop := ∃ v xs nv mv cnt es, DSt w L v xs nv mv cnt es /\ cnt <= m /\ es.length <= 4 * m /\ ∀ e, e ∈ es -> e.n <= 8796093022208
theorem dstep_any (w : World) (L m : Nat) (k on : Int) (s pan : ByteArray) (mcc am cur : Int) (da : Option Addr) (dn dc : Nat) (up : Bool) (dl : List ByteArray) (h : DAll w L m) (hk : k <= 3) (ho1 : -9223372036854775808 <= on) (ho2 : on <= 9223372036854775807)
  (ht : ∀ w', Fr (fun k => L <= k) w w' -> Tab w') (hdl : dl.length = dn) (hd : StrsAt w da dl) (hs : pan.size <= maxLen) (hm : 96 * m + 96 <= 140737488355328) (hN : (dn + 6) * 16 <= 140737488355328) :
  Calls Tryz.prog 26 #[.pointer (some ⟨L, 0, none⟩), opV k on s pan mcc am cur da dn dc up] w fun e w' => e = .returned (.bool true) /\ DAll w' L (m + 1) /\ Fr (fun k => L <= k) w w' := by
 obtain ⟨v, xs, nv, mv, cnt, es, h1, h2, h3, h4⟩ := h;by_cases hk1 : k = 1
 ·subst hk1
  refine (dstep_compile w L v xs nv mv cnt es on s pan mcc am cur da dn dc up h1).mono ?_;rintro e w' ⟨r1, ⟨v', xs', r2⟩, r3⟩;exact ⟨r1, ⟨v', xs', nv, mv, cnt, es, r2, by omega, by omega, h4⟩, r3⟩
 ·rcases Nat.eq_zero_or_pos xs.length with h0 | h0
  ·obtain ⟨va, vc, e⟩ := oL h1.own
   rw [h0] at e;subst e;refine (dstep_none w L xs nv mv cnt es va vc k on s pan mcc am cur da dn dc up h1 hk hk1).mono ?_;rintro e w' ⟨r1, ⟨v', xs', r2⟩, r3⟩;exact ⟨r1, ⟨v', xs', nv, mv, cnt, es, r2, by omega, by omega, h4⟩, r3⟩
  ·refine (dstep_some w L v xs nv mv cnt es k on s pan mcc am cur da dn dc up dl h1 h0 hk hk1 ho1 ho2 ht hdl hd hs (by omega) (by omega) hN).mono ?_
   rintro e w' ⟨r1, ⟨nv', mv', cnt', es', r2, r3, r4, r5⟩, r6⟩;exact ⟨r1, ⟨v, xs, nv', mv', cnt', es', r2, by omega, by omega, fun e he => (r5 e he).elim (h4 e) id⟩, r6⟩
def OpAtD (w : World) (b o : Nat) : Prop :=
 ∃ (k on : Int) (s pan : ByteArray) (mcc am cur : Int) (da : Option Addr) (dn dc : Nat) (up : Bool) (dl : List ByteArray), (-9223372036854775808 <= on /\ on <= 9223372036854775807 /\ dl.length = dn /\ StrsAt w da dl /\ pan.size <= maxLen /\ (dn + 6) * 16 <= 140737488355328) /\
  w.cell? ⟨b, o, none⟩ = some (.int .i64 k) /\ w.cell? ⟨b, o + 1, none⟩ = some (.int .i64 on) /\ w.cell? ⟨b, o + 2, none⟩ = some (.string s) /\ w.cell? ⟨b, o + 3, none⟩ = some (.string pan) /\ w.cell? ⟨b, o + 4, none⟩ = some (.int .i64 mcc) /\
  w.cell? ⟨b, o + 5, none⟩ = some (.int .i64 am) /\ w.cell? ⟨b, o + 6, none⟩ = some (.int .i64 cur) /\ w.cell? ⟨b, o + 7, none⟩ = some (.slice da dn dc) /\ w.cell? ⟨b, o + 8, none⟩ = some (.bool up)
theorem StrsAt.frL {w w' : World} {L : Nat} {a : Option Addr} {l : List ByteArray} (h : StrsAt w a l) (hf : Fr (fun k => L <= k) w w') (hL : w.heap.size <= L) : StrsAt w' a l := by
 intro k s hs;obtain ⟨g, o, e1, e2⟩ := h k s hs;have hg : g < w.heap.size := bL w _ e2;exact ⟨g, o, e1, (hf.cell (p := ⟨g, o + k, none⟩) hg (by show ¬ L <= g; omega)).trans e2⟩
theorem OpAtD.fr {w w' : World} {b o L : Nat} (h : OpAtD w b o) (hf : Fr (fun k => L <= k) w w') (hb : b < w.heap.size) (hL : w.heap.size <= L) : OpAtD w' b o := by
 obtain ⟨k, on, s, pan, mcc, am, cur, da, dn, dc, up, dl, ⟨h1, h2, h3, h4, h5⟩, c0, c1, c2, c3, c4, c5, c6, c7, c8⟩ := h
 have g : ∀ j u, w.cell? ⟨b, o + j, none⟩ = some u -> w'.cell? ⟨b, o + j, none⟩ = some u := fun j u e => (hf.cell (p := ⟨b, o + j, none⟩) hb (by show ¬ L <= b; omega)).trans e
 exact ⟨k, on, s, pan, mcc, am, cur, da, dn, dc, up, dl, ⟨h1, h2, h3, h4.frL hf hL, h5⟩, g 0 _ c0, g 1 _ c1, g 2 _ c2, g 3 _ c3, g 4 _ c4, g 5 _ c5, g 6 _ c6, g 7 _ c7, g 8 _ c8⟩
theorem DAll.fr {w w' : World} {L m : Nat} (h : DAll w L m) (hf : F0 w w') : DAll w' L m := by
 obtain ⟨v, xs, nv, mv, cnt, es, h1, h2⟩ := h;exact ⟨v, xs, nv, mv, cnt, es, h1.fr hf, h2⟩
theorem DAll.up {w : World} {L m : Nat} (h : DAll w L m) : DAll w L (m + 1) := by
 obtain ⟨v, xs, nv, mv, cnt, es, h1, h2, h3, h4⟩ := h;exact ⟨v, xs, nv, mv, cnt, es, h1, by omega, by omega, h4⟩
theorem DAll.still {w : World} {L m : Nat} (h : DAll w L m) (hm : 4 * m <= 8796093022208) : Calls Tryz.prog 29 #[.pointer (some ⟨L, 0, none⟩)] w fun e w' => e = .returned (.bool true) /\ F0 w w' := by
 obtain ⟨v, xs, nv, mv, cnt, es, h1, h2, h3, h4⟩ := h;exact still_any w L v xs nv mv cnt es h1 (by omega) (fun e he => Nat.le_trans (h4 e he) (by unfold maxLen; omega))
theorem played_d (w : World) (sa : Option Addr) (n c : Nat) (hn : 96 * n + 192 <= 140737488355328) (hs : ∀ i, i < n -> ∃ b o, sa = some ⟨b, o, none⟩ /\ b < w.heap.size /\ OpAtD w b (o + i * 9)) (ht : ∀ w', Below w.heap.size w w' -> Tab w') :
  Calls Tryz.prog 11 #[.slice sa n c, .int .i64 3] w fun e w' => e = .returned (.bool true) /\ Below w.heap.size w w' := by
 have HS := hid hs;have HT := hid ht
 have hnI : (n : Int) <= 9223372036854775807 := by omega
 clear hs ht;go_enter Tryz.func11, Tryz.ntmps11;go_wp2_with fail;have hL0 := aN w (.cells #[.slice none 0 0, .slice none 0 0, .slice none 0 0, .slice none 0 0, .slice none 0 0, .slice none 0 0, .int .i64 0] 58);have HF0 : Hid (F0 w (w.alloc (.cells #[.slice none 0 0, .slice none 0 0, .slice none 0 0, .slice none 0 0, .slice none 0 0, .slice none 0 0, .int .i64 0] 58))) := (Fr.refl _ _).alloc _
 have HL : Hid (DSt (w.alloc (.cells #[.slice none 0 0, .slice none 0 0, .slice none 0 0, .slice none 0 0, .slice none 0 0, .slice none 0 0, .int .i64 0] 58)) w.heap.size (.slice none 0 0) [] (.slice none 0 0) (.slice none 0 0) 0 []) :=
  ⟨hL0, oZ _ _ _ _, by simp, fun x hx => (by cases hx), oZ _ _ _ _, oZ _ _ _ _, fun x hx => by cases hx⟩
 clear hL0;refine (compiles_d _ w.heap.size _ [] _ _ _ [] _ HL.o).mono ?_;rintro e w1 ⟨rfl, ⟨v1, xs1, hl1⟩, hf1⟩;have HL1 : Hid (DAll w1 w.heap.size 0) := ⟨v1, xs1, _, _, 0, [], hl1, by omega, by simp, fun x hx => by cases hx⟩;have HF1 := hid ((HF0.o.mono (by simp)).trans hf1);clear hl1 hf1 HL HF0;obtain ⟨L, hL⟩ : ∃ L, w.heap.size = L := ⟨_, rfl⟩;rw [hL] at HL1 HF1;have HLE := hid hL;rw [hL];clear hL
 have HST : Hid (Calls Tryz.prog 26 #[.pointer (some ⟨L, 0, none⟩), opV 3 0 ⟨#[]⟩ ⟨#[52, 49, 50, 51, 52, 53]⟩ 0 0 0 none 0 0 false] w1 fun e w' => e = .returned (.bool true) /\ DAll w' L (0 + 1) /\ Fr (fun k => L <= k) w1 w') :=
  dstep_any w1 L 0 3 0 ⟨#[]⟩ ⟨#[52, 49, 50, 51, 52, 53]⟩ 0 0 0 none 0 0 false [] HL1.o (by omega) (by omega) (by omega) (fun w' hw => HT.o w' ((HF1.o.trans hw).below (Nat.le_refl _) (fun k hk => by have := HLE.o; omega))) rfl (fun k s hs => by simp at hs) (by decide) (by omega) (by omega)
 unfold opV at HST;go_wp2_with fail;refine HST.o.mono ?_;rintro e w2 ⟨rfl, hl2, hf2⟩;have HL2 := hid hl2;have HF2 := hid (HF1.o.trans hf2);clear hl2 hf2 HST HL1 HF1;go_wp2_with fail
 go_loopg [6, 8] 0 (fun _ ok kk wr => ok = .bool true /\ kk = .int .i64 0 /\ Hid (wr = w2))
 case atStart => exact ⟨rfl, rfl, rfl⟩
 case round =>
  obtain ⟨rfl, rfl, HW⟩ := hrel;have e := HW.o;subst e;go_wp2_with fail
  go_loopg [6, 14] n (fun m ok ii wr => ∃ i, i <= n /\ m = n - i /\ ok = .bool true /\ ii = .int .i64 (i : Nat) /\ Hid (DAll wr L (i + 1)) /\ Hid (Fr (fun k => L <= k) w wr))
  case atStart => exact ⟨0, Nat.zero_le _, rfl, rfl, rfl, HL2, HF2⟩
  case round =>
   obtain ⟨i, hi, rfl, rfl, rfl, HLi, HFi⟩ := hrel;by_cases hlt : i < n
   ·have hki : (i : Int) < (n : Int) := by omega
    obtain ⟨b, o, rfl, hb, hop⟩ := HS.o i hlt;obtain ⟨k, on, s, pan, mcc, am, cur, da, dn, dc, up, dl, hD, c0, c1, c2, c3, c4, c5, c6, c7, c8⟩ := hop.fr HFi.o hb (Nat.le_of_eq HLE.o);have HON := hid hD;clear hop hD;by_cases hk : 3 < k
    ·go_wp2
     go_roundg (n - (i + 1))
     case measure => omega
     case rel => exact ⟨i + 1, by omega, rfl, rfl, by go_num, HLi.o.up, HFi⟩
    ·have hk2 : k <= 3 := by omega
     have HST : Hid (Calls Tryz.prog 26 #[.pointer (some ⟨L, 0, none⟩), opV k on s pan mcc am cur da dn dc up] wr fun e w' => e = .returned (.bool true) /\ DAll w' L (i + 1 + 1) /\ Fr (fun k => L <= k) wr w') := by
      obtain ⟨d1, d2, d3, d4, d5, d6⟩ := HON.o;exact dstep_any wr L (i + 1) k on s pan mcc am cur da dn dc up dl HLi.o hk2 d1 d2 (fun w' hw => HT.o w' ((HFi.o.trans hw).below (Nat.le_refl _) (fun k hk => by have := HLE.o; omega))) d3 d4 d5 (by omega) d6
     unfold opV at HST;clear hk2;go_wp2_with fail;refine HST.o.mono ?_;rintro e w4 ⟨rfl, hl4, hf4⟩;have HL4 := hid hl4;have HF4 := hid (HFi.o.trans hf4);clear hl4 hf4 c0 c1 c2 c3 c4 c5 c6 c7 c8;have HSL := hid (HL4.o.still (by omega));go_wp2_with fail;refine HSL.o.mono ?_;rintro e w5 ⟨rfl, hf5⟩;have HL5 := hid (HL4.o.fr hf5);have HF5 := hid (HF4.o.trans (hf5.mono (by simp)));clear hf5;go_wp2;go_roundg (n - (i + 1))
     case measure => omega
     case rel => exact ⟨i + 1, by omega, rfl, rfl, by go_num, HL5, HF5⟩
   ·have hki : ¬ (i : Int) < (n : Int) := by omega
    go_wp2;go_ret;exact ⟨rfl, HFi.o.below (Nat.le_refl _) (fun k hk => by have := HLE.o; omega)⟩
theorem Decides_any (w : World) (sa : Option Addr) (n c : Nat) (hn : 96 * n + 192 <= 140737488355328) (hs : ∀ i, i < n -> ∃ b o, sa = some ⟨b, o, none⟩ /\ b < w.heap.size /\ OpAtD w b (o + i * 9)) (ht : ∀ w', Below w.heap.size w w' -> Tab w') :
  Calls Tryz.prog 4 #[.slice sa n c] w fun e w' => e = .returned (.bool true) /\ Below w.heap.size w w' := by
 have HP := hid (played_d w sa n c hn hs ht);clear hn hs ht;go_enter Tryz.func4, Tryz.ntmps4;go_wp2_with fail;refine HP.o.mono ?_;rintro e w1 ⟨rfl, hb⟩;have HB := hid hb;clear hb;go_wp2;go_ret;exact ⟨rfl, HB.o⟩
