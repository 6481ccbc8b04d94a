import Derived.Test.YtccikgogjfbpeaaGreatDoorZi
import Derived.Test.YtccikgogjfbpeaaGreatDoorEb
import Derived.Laws.IdiomStrings
import Derived.Laws.OwnMore
namespace Go.Proofs.YtccikgogjfbpeaaGreatDoor
set_option maxRecDepth 30000
set_option maxHeartbeats 8000000
open Go.RowKit
def lwO (v nv mv : Value) (cnt : Nat) : Obj := .cells #[v, .slice none 0 0, nv, .slice none 0 0, mv, .slice none 0 0, .int .i64 (cnt : Nat)] 58
theorem wrap_letter (m : Nat) (h : m < 16) : IntKind.u8.wrap (97 + (m : Int)) = (97 + (m : Int)) := by
 have : m = 0 \/ m = 1 \/ m = 2 \/ m = 3 \/ m = 4 \/ m = 5 \/ m = 6 \/ m = 7 \/ m = 8 \/ m = 9 \/ m = 10 \/ m = 11 \/ m = 12 \/ m = 13 \/ m = 14 \/ m = 15 := by omega
 rcases this with rfl | rfl | rfl | rfl | rfl | rfl | rfl | rfl | rfl | rfl | rfl | rfl | rfl | rfl | rfl | rfl <;> decide
theorem mark_any (w : World) (L : Nat) (v nv mv : Value) (cnt : Nat) (h : w.heap[L]? = some (lwO v nv mv cnt)) (hc : cnt <= 4611686018427387904) :
  Calls Tryz.prog 136 #[.pointer (some ⟨L, 0, none⟩)] w fun e w' => (∃ s : ByteArray, e = .returned (.string s) /\ s.size <= 10) /\ w'.heap[L]? = some (lwO v nv mv (cnt + 1)) /\ Fr (fun k => k = L) w w' := by
 have c6 : w.cell? ⟨L, 6, none⟩ = some (.int .i64 (cnt : Nat)) := bC h 6 _ rfl;have f6 := bF h 6
 have HB : Hid ((w.setCell ⟨L, 6, none⟩ (.int .i64 ((cnt : Int) + 1))).heap[L]? = some (lwO v nv mv (cnt + 1))) := by
  have e := heap_setCell_same w L 6 _ _ (.int .i64 ((cnt : Int) + 1)) h
  show _ = _
  simpa [lwO] using e
 have HF : Hid (Fr (fun k => k = L) w (w.setCell ⟨L, 6, none⟩ (.int .i64 ((cnt : Int) + 1)))) := (Fr.refl (fun k => k = L) w).setCell (p := ⟨L, 6, none⟩) (Or.inl rfl) _
 have hci : (cnt : Int) <= 4611686018427387904 := by omega
 clear h;go_enter Tryz.func136, Tryz.ntmps136;go_wp2_with fail;generalize w.setCell ⟨L, 6, none⟩ (.int .i64 ((cnt : Int) + 1)) = W at *
 go_loopg [3, 4, 5] 9 (fun m t n i wr => ∃ k s c, k <= 9 /\ m = 9 - k /\ t = .string s /\ s.size <= 1 + k /\ n = .int .i64 (c : Nat) /\ c <= 4611686018427387905 /\ i = .int .i64 (k : Nat) /\ Hid (F0 W wr))
 case atStart => exact ⟨0, ⟨#[35]⟩, cnt + 1, by omega, rfl, rfl, by decide, by simp, by omega, rfl, Fr.refl _ _⟩
 case round =>
  obtain ⟨k, s, c, hk, rfl, rfl, hs, rfl, hcc, rfl, HFr⟩ := hrel;by_cases hlt : k < 9
  ·have hki : (k : Int) < 9 := by omega
   obtain ⟨m, hm⟩ : ∃ m, c % 16 = m := ⟨_, rfl⟩
   have hm16 : m < 16 := by omega
   have hmi : (c : Int).tmod 16 = (m : Int) := by rw [Int.tmod_eq_emod_of_nonneg (by omega)]; omega
   obtain ⟨b8, hb8⟩ : ∃ b8 : UInt8, b8 = UInt8.ofNat (97 + m) := ⟨_, rfl⟩
   have hbn : (b8.toNat : Int) = (97 + (m : Int)) := by rw [hb8, UInt8.toNat_ofNat']; omega
   have hwr := wrap_letter m hm16;have HFa : Hid (F0 W (wr.alloc (.cells #[.int .u8 (97 + (m : Int))] 5))) := HFr.o.alloc _
   have hcv : (convert 50 9 (.slice (some ⟨wr.heap.size, 0, none⟩) 1 1)).run Tryz.prog (wr.alloc (.cells #[.int .u8 (97 + (m : Int))] 5)) = .ok (.string ⟨#[b8]⟩) (wr.alloc (.cells #[.int .u8 (97 + (m : Int))] 5)) := by
    have e := run_convert_bytes_back (P := Tryz.prog) (wr.alloc (.cells #[.int .u8 (97 + (m : Int))] 5)) 50 9 5 ⟨wr.heap.size, 0, none⟩ 1 [b8] Tryz.underlying50 Tryz.underlying5 Tryz.underlying9 (by
     intro j hj
     have : j = 0 := by simpa using hj
     subst this;rw [addr_add']
     exact bC (heap_alloc_new wr _) 0 _ (by simp [hbn]))
    simpa using e
   clear hm hb8 hbn;go_wp2_with fail;go_roundg (9 - (k + 1))
   case measure => omega
   case rel => exact ⟨k + 1, s ++ ⟨#[b8]⟩, c / 16, by omega, rfl, rfl, by rw [ByteArray.size_append]; show s.size + 1 <= _; omega, by congr 1, by omega, by go_num, HFa⟩
  ·have hki : ¬ (k : Int) < 9 := by omega
   go_wp2_with fail;go_ret;exact ⟨⟨s, rfl, by omega⟩, HFr.o.whole HB.o (by simp), HF.o.trans (HFr.o.mono (by simp))⟩
theorem wpList_append_two {P : Program} {w : World} {ops : Array Oper} {rest : List Oper} {o : Oper} {a : Act} {Q : Exit -> Act -> World -> Prop} (hgd : o.guard = none) (s x : Operand) (t : TypeId)
  (ho : o.op = .call { callee := .builtin .append, args := #[s, x], argTypes := #[t, t] })
  (base : Nat) (e : TypeId) (i : TypeInfo) (z : Value) (size bytes : Nat) (ht : P.underlying t = some (.slice e)) (hi : P.info? e = some i) (hz : i.zero = some z)
  (hsize : i.size = size) (hby : i.bytes = bytes) (hzs : z.cells.size = size)
  (g0 n cap0 : Nat) (xs : List Value) (hs : a.eval s = .slice (some ⟨g0, 0, none⟩) n cap0) (hown : w.ownsRow base e size (.slice (some ⟨g0, 0, none⟩) n cap0) n xs)
  (ad : Addr) (m c : Nat) (news : List Value) (hx : a.eval x = .slice (some ad) m c) (hl : news.length = m * size) (hnews : ∀ j u, news[j]? = some u -> w.cell? (ad.add j) = some u) (h1 : ∀ u ∈ news, u.oneCell' = true)
  (h63 : n + m <= maxLen) (hbytes : (n + m) * bytes <= 140737488355328) (hbase : base <= w.heap.size) (H : Nat) (hH : w.heap.size = H)
  (h : ∀ g cap w', w'.ownsRow base e size (.slice (some ⟨g, 0, none⟩) (n + m) cap) (n + m) (xs ++ news) -> ((g = g0 /\ w.grownBy w' (some g0)) \/ (g = H /\ w.grownBy w' none)) -> wpList P ops Q rest (a.put o.dst (.slice (some ⟨g, 0, none⟩) (n + m) cap)) w') : wpList P ops Q (o :: rest) a w := by
 subst hsize hby hH
 have key : ∃ g cap w', (Builtin.append_ #[t, t] o.type #[.slice (some ⟨g0, 0, none⟩) n cap0, .slice (some ad) m c]).run P w = .ok (.slice (some ⟨g, 0, none⟩) (n + m) cap) w' /\ w'.ownsRow base e i.size (.slice (some ⟨g, 0, none⟩) (n + m) cap) (n + m) (xs ++ news) /\ ((g = g0 /\ w.grownBy w' (some g0)) \/ (g = w.heap.size /\ w.grownBy w' none)) := by
  by_cases hroom : n + m <= cap0
  ·obtain ⟨w', r1, r2, r3⟩ := run_append_fits w base t o.type e i i.size ht hi rfl g0 n cap0 xs hown ad m c news hl hnews h1 hroom
   exact ⟨g0, cap0, w', r1, r2, Or.inl ⟨rfl, r3⟩⟩
  ·have hlen : (xs ++ news).length = (n + m) * i.size := by rw [lA, hown.1, hl, Nat.add_mul]
   have hr := run_append_grow (P := P) w t o.type e i z ht hi hz ⟨g0, 0, none⟩ n cap0 xs hown.1 (hown.cells (g := g0) rfl) ad m c news hl hnews (by omega) (by simp only [maxLen] at h63; omega) (growslice_fits (by omega) hbytes);have hge := grownCap_ge w (n + m) cap0 e;refine ⟨_, _, _, hr, ⟨hlen, .inr ⟨w.heap.size, _, _, rfl, hbase, aN w.drew _, hge, grownCap_le_maxLen w (n + m) cap0 e h63, ?_, ?_⟩⟩, Or.inr ⟨rfl, ⟨rfl, rfl, rfl, by simp, fun k hk _ => heap_alloc_old w.drew _ hk⟩⟩⟩
   ·simp only [Array.size_append, List.size_toArray, size_zeroCells, hzs, hown.1, hl, <- Nat.add_mul]
    congr 1
    omega
   ·simp only [Array.toList_append, List.append_assoc]
    rw [<- List.append_assoc, <- hlen];exact List.take_left
 obtain ⟨g, cap, w', hr, h2, h3⟩ := key
 refine wpList_plain hgd fun K hK => ?_
 unfold Oper.wp execOp;simp only [ho, resolve, invoke, builtin, Sem.run_bind, Sem.run_pure, Result.andThen_ok, List.map_toArray, List.map_cons, List.map_nil, hs, hx, hr];exact hK _ _ (h g cap w' h2 h3)
structure NmE where
 a : Option Addr
 n : Nat
 c : Nat
 m : ByteArray
def NmE.val (e : NmE) : Value := .slice e.a e.n e.c
def NmOk (w : World) (mo : Option Nat) (e : NmE) : Prop :=
 ∀ k, k < e.n -> ∃ g, e.a = some ⟨g, 0, none⟩ /\ mo ≠ some g /\ ∃ cs, w.heap[g]? = some (.cells cs 9) /\ cs[k]? = some (.string e.m)
def DEnt (w : World) (L : Nat) (v nv mv x : Value) : Prop :=
 ∃ w0 a X, x = .pointer (some ⟨X, 0, none⟩) /\ L < a /\ TabAt w0 a X /\ Fr (fun k => k < a) w0 w /\ ∀ g, (v.ownBlock = some g \/ nv.ownBlock = some g \/ mv.ownBlock = some g) -> g < a \/ w0.heap.size <= g
structure DSt (w : World) (L : Nat) (v : Value) (xs : List Value) (nv mv : Value) (cnt : Nat) (es : List NmE) : Prop where
 bx : w.heap[L]? = some (lwO v nv mv cnt)
 own : w.ownsRow (L + 1) 93 1 v xs.length xs
 few : xs.length <= 20
 en : ∀ x, x ∈ xs -> DEnt w L v nv mv x
 nm : w.ownsRow (L + 1) 28 1 nv es.length (es.map NmE.val)
 ma : w.ownsRow (L + 1) 9 1 mv es.length (es.map fun e => Value.string e.m)
 el : ∀ e, e ∈ es -> NmOk w mv.ownBlock e
theorem NmOk.fr {w w' : World} {S : Nat -> Prop} {mo mo' : Option Nat} {e : NmE} (h : NmOk w mo e) (hf : Fr S w w') (hS : ∀ g cs, w.heap[g]? = some (.cells cs 9) -> mo ≠ some g -> ¬ S g /\ mo' ≠ some g) : NmOk w' mo' e := by
 intro k hk;obtain ⟨g, e1, e2, cs, e3, e4⟩ := h k hk;exact ⟨g, e1, (hS g cs e3 e2).2, cs, hf.whole e3 (hS g cs e3 e2).1, e4⟩
theorem DEnt.fr {w w' : World} {L : Nat} {v nv mv v' nv' mv' x : Value} {S : Nat -> Prop} (h : DEnt w L v nv mv x) (hf : Fr S w w') (hS : ∀ k, S k -> k = L \/ v.ownBlock = some k \/ nv.ownBlock = some k \/ mv.ownBlock = some k)
  (hn : ∀ g, (v'.ownBlock = some g \/ nv'.ownBlock = some g \/ mv'.ownBlock = some g) -> (v.ownBlock = some g \/ nv.ownBlock = some g \/ mv.ownBlock = some g) \/ w.heap.size <= g) : DEnt w' L v' nv' mv' x := by
 obtain ⟨w0, a, X, h1, h2, h3, h4, h5⟩ := h;refine ⟨w0, a, X, h1, h2, h3, h4.monoNew hf (fun k hk => ?_), fun g hg => ?_⟩
 ·rcases hS k hk with e | e
  ·exact Or.inl (by omega)
  ·exact h5 k e
 ·rcases hn g hg with e | e
  ·exact h5 g e
  ·exact Or.inr (Nat.le_trans h4.size e)
theorem DSt.fr {w w' : World} {L : Nat} {v : Value} {xs : List Value} {nv mv : Value} {cnt : Nat} {es : List NmE} (h : DSt w L v xs nv mv cnt es) (hf : F0 w w') : DSt w' L v xs nv mv cnt es :=
 ⟨hf.whole h.bx (by simp), oF h.own hf (by simp), h.few, fun x hx => (h.en x hx).fr hf (by simp) (fun g hg => Or.inl hg), oF h.nm hf (by simp), oF h.ma hf (by simp), fun e he => (h.el e he).fr hf (fun g cs _ hg => ⟨by simp, hg⟩)⟩
structure TkS (wS : World) (A L : Nat) (v nv mv : Value) (cnt n : Nat) (x : ByteArray) (j : Nat) (es' pend : List NmE) (nv' mv' lv : Value) (wr : World) : Prop where
 bx : wr.heap[L]? = some (lwO v nv' mv' (cnt + 1))
 nm : wr.ownsRow (L + 1) 28 1 nv' (es' ++ pend).length ((es' ++ pend).map NmE.val)
 ma : wr.ownsRow (L + 1) 9 1 mv' es'.length (es'.map fun e => Value.string e.m)
 el : ∀ e, e ∈ es' ++ pend -> NmOk wr mv'.ownBlock e
 fr : Fr (fun k => k = L \/ nv.ownBlock = some k \/ mv.ownBlock = some k \/ k = A) wS wr
 ln : nv'.ownBlock = nv.ownBlock \/ ∀ k, nv'.ownBlock = some k -> wS.heap.size <= k
 lm : mv'.ownBlock = mv.ownBlock \/ ∀ k, mv'.ownBlock = some k -> wS.heap.size <= k
 li : ∃ g cap zs, lv = .slice (some ⟨g, 0, none⟩) (n + j) cap /\ wr.ownsRow (L + 1) 9 1 lv (n + j) zs /\ (∀ z, z ∈ zs -> z = .string x) /\ (g = A \/ wS.heap.size <= g) /\ mv'.ownBlock ≠ some g /\ ∀ e, e ∈ es' ++ pend -> ∀ k, k < e.n -> e.a = some ⟨g, 0, none⟩ -> e.m = x /\ e.n <= n + j
theorem blk_ne {w : World} {g L : Nat} {cs cs' : Array Value} {t t' : TypeId} (h1 : w.heap[g]? = some (.cells cs t)) (h2 : w.heap[L]? = some (.cells cs' t')) (ht : t ≠ t') : g ≠ L := by
 rintro rfl;rw [h1] at h2;injection h2 with h2;injection h2 with _ h2 _;exact ht h2
theorem ownsRow_blk {w : World} {base n c g : Nat} {e : TypeId} {zs : List Value} (h : w.ownsRow base e 1 (.slice (some ⟨g, 0, none⟩) n c) n zs) : ∃ cur, w.heap[g]? = some (.cells cur e) /\ ∀ k, k < n -> cur[k]? = zs[k]? := by
 rcases h.2 with ⟨h', _⟩ | ⟨g', cap', cur, h', _, hg, _, _, hcs, htake⟩
 ·simp at h'
 ·simp only [Value.slice.injEq, Option.some.injEq, Addr.mk.injEq, and_true, true_and] at h'
  obtain ⟨rfl, rfl⟩ := h';refine ⟨cur, hg, fun k hk => ?_⟩;rw [<- htake, List.getElem?_take, if_pos (by omega)];simp
theorem TkS.step1 {wS wr w2 : World} {A L : Nat} {v nv mv : Value} {cnt n : Nat} {x : ByteArray} {j : Nat} {es' : List NmE} {nv' mv' : Value} {g cap g2 cap2 : Nat} {o : Obj}
  (h : TkS wS A L v nv mv cnt n x j es' [] nv' mv' (.slice (some ⟨g, 0, none⟩) (n + j) cap) wr)
  (hg : (wr.alloc o).grownBy w2 nv'.ownBlock) (ho : w2.ownsRow (L + 1) 28 1 (.slice (some ⟨g2, 0, none⟩) (es'.length + 1) cap2) (es'.length + 1) (es'.map NmE.val ++ [.slice (some ⟨g, 0, none⟩) (n + j) cap])) (hor : nv'.ownBlock = some g2 \/ g2 = (wr.alloc o).heap.size) :
  TkS wS A L v nv mv cnt n x j es' [⟨some ⟨g, 0, none⟩, n + j, cap, x⟩] (.slice (some ⟨g2, 0, none⟩) (es'.length + 1) cap2) mv' (.slice (some ⟨g, 0, none⟩) (n + j) cap) (w2.setCell ⟨L, 2, none⟩ (.slice (some ⟨g2, 0, none⟩) (es'.length + 1) cap2)) /\ w2.cell? ⟨L, 2, none⟩ = some nv' /\ w2.frozen? ⟨L, 2, none⟩ = false := by
 have nm := h.nm;rw [List.append_nil] at nm
 have hnl : ∀ k, nv'.ownBlock = some k -> L + 1 <= k /\ k < wr.heap.size := fun k hk => nm.lt k hk
 have f2 : Fr (fun k => nv'.ownBlock = some k) wr w2 := ((Fr.refl _ wr).alloc o).grown hg (fun k hk => Or.inl hk);have bx2 := f2.whole h.bx (fun e => by have := hnl L e; omega);have f3 : Fr (fun k => k = L \/ nv'.ownBlock = some k) wr (w2.setCell ⟨L, 2, none⟩ (.slice (some ⟨g2, 0, none⟩) (es'.length + 1) cap2)) := Fr.setCell (S := fun k => k = L \/ nv'.ownBlock = some k) (f2.mono (fun k hk => Or.inr hk)) (p := ⟨L, 2, none⟩) (Or.inl (Or.inl rfl)) _
 have hfresh : ∀ k, (Value.slice (some ⟨g2, 0, none⟩) (es'.length + 1) cap2).ownBlock = some k -> nv'.ownBlock = some k \/ wr.heap.size <= k := fun k hk => by
  have e : k = g2 := by simpa [Value.ownBlock] using hk.symm
  subst e;rcases hor with e | e
  ·exact Or.inl e
  ·exact Or.inr (by rw [e]; simp)
 have savoid : ∀ g' cs, wr.heap[g']? = some (.cells cs 9) -> ¬ (g' = L \/ nv'.ownBlock = some g') := fun g' cs hc => by
  rintro (e | e)
  ·exact blk_ne hc h.bx (by decide) e
  ·exact oN nm hc (by decide) e
 obtain ⟨g', cap', zs, el, hlr, hz, hgS, hmg, hsh⟩ := h.li;injection el with el1 el2 el3;injection el1 with el1;injection el1 with el1 _ _;subst el1 el3;obtain ⟨cur, hcur, hck⟩ := ownsRow_blk hlr;refine ⟨⟨?_, ?_, ?_, ?_, ?_, ?_, h.lm, ?_⟩, bC bx2 2 _ rfl, bF bx2 2⟩
 ·have e := heap_setCell_same w2 L 2 _ _ (.slice (some ⟨g2, 0, none⟩) (es'.length + 1) cap2) bx2
  simpa [lwO] using e
 ·rw [lA, List.map_append]
  exact oB ho (by simp) _
 ·exact oA h.ma f3 (fun k hk => by
   rintro (e | e)
   ·have := (h.ma.lt k hk).1; omega
   ·rcases own_ne h.ma nm (by decide) with e' | e'
    ·rw [e'] at hk; cases hk
    ·exact e' (hk.trans e.symm))
 ·intro e he
  rcases List.mem_append.1 he with he | he
  ·exact (h.el e (by simp [he])).fr f3 (fun g' cs hc hm => ⟨savoid g' cs hc, hm⟩)
  ·simp at he
   subst he;intro k hk;refine ⟨g, rfl, hmg, cur, f3.whole hcur (savoid g cur hcur), ?_⟩
   have hk' : k < zs.length := by have := hlr.1; simp at this; show k < zs.length; have hk2 : k < n + j := hk; omega
   rw [hck k hk, gE hk', hz _ (List.getElem_mem hk')]
 ·refine h.fr.monoNew f3 ?_
  rintro k (e | e)
  ·exact Or.inl (Or.inl e)
  ·rcases h.ln with e' | e'
   ·exact Or.inl (Or.inr (Or.inl (e' ▸ e)))
   ·exact Or.inr (e' k e)
 ·by_cases hc : nv'.ownBlock = some g2
  ·rcases h.ln with e' | e'
   ·exact Or.inl (by show some g2 = _; rw [<- e', hc])
   ·exact Or.inr (fun k hk => e' k (by rw [hc]; exact hk))
  ·refine Or.inr (fun k hk => ?_)
   have e : k = g2 := by simpa [Value.ownBlock] using hk.symm
   subst e;rcases hfresh k hk with e' | e'
   ·exact absurd e' hc
   ·exact Nat.le_trans h.fr.size e'
 ·refine ⟨g, cap, zs, rfl, oA hlr f3 (fun k hk => ?_), hz, hgS, hmg, fun e he k hk ha => ?_⟩
  ·have e : k = g := by simpa [Value.ownBlock] using hk.symm
   subst e;exact savoid k cur hcur
  ·rcases List.mem_append.1 he with he | he
   ·exact hsh e (by simp [he]) k hk ha
   ·simp at he
    subst he;exact ⟨rfl, Nat.le_refl _⟩
theorem TkS.step2 {wS wr w2 : World} {A L : Nat} {v nv mv : Value} {cnt n : Nat} {x : ByteArray} {j : Nat} {es' : List NmE} {e0 : NmE} {nv' mv' lv : Value} {g2 cap2 : Nat} {o : Obj}
  (h : TkS wS A L v nv mv cnt n x j es' [e0] nv' mv' lv wr) (he0 : e0.m = x)
  (hg : (wr.alloc o).grownBy w2 mv'.ownBlock) (ho : w2.ownsRow (L + 1) 9 1 (.slice (some ⟨g2, 0, none⟩) (es'.length + 1) cap2) (es'.length + 1) ((es'.map fun e => Value.string e.m) ++ [.string x])) (hor : mv'.ownBlock = some g2 \/ g2 = (wr.alloc o).heap.size) :
  TkS wS A L v nv mv cnt n x j (es' ++ [e0]) [] nv' (.slice (some ⟨g2, 0, none⟩) (es'.length + 1) cap2) lv (w2.setCell ⟨L, 4, none⟩ (.slice (some ⟨g2, 0, none⟩) (es'.length + 1) cap2)) /\ w2.cell? ⟨L, 4, none⟩ = some mv' /\ w2.frozen? ⟨L, 4, none⟩ = false := by
 have hml : ∀ k, mv'.ownBlock = some k -> L + 1 <= k /\ k < wr.heap.size := fun k hk => h.ma.lt k hk
 have f2 : Fr (fun k => mv'.ownBlock = some k) wr w2 := ((Fr.refl _ wr).alloc o).grown hg (fun k hk => Or.inl hk);have bx2 := f2.whole h.bx (fun e => by have := hml L e; omega);have f3 : Fr (fun k => k = L \/ mv'.ownBlock = some k) wr (w2.setCell ⟨L, 4, none⟩ (.slice (some ⟨g2, 0, none⟩) (es'.length + 1) cap2)) := Fr.setCell (S := fun k => k = L \/ mv'.ownBlock = some k) (f2.mono (fun k hk => Or.inr hk)) (p := ⟨L, 4, none⟩) (Or.inl (Or.inl rfl)) _
 have hfresh : ∀ k, (Value.slice (some ⟨g2, 0, none⟩) (es'.length + 1) cap2).ownBlock = some k -> mv'.ownBlock = some k \/ wr.heap.size <= k := fun k hk => by
  have e : k = g2 := by simpa [Value.ownBlock] using hk.symm
  subst e;rcases hor with e | e
  ·exact Or.inl e
  ·exact Or.inr (by rw [e]; simp)
 have savoid : ∀ g' cs, wr.heap[g']? = some (.cells cs 9) -> mv'.ownBlock ≠ some g' -> ¬ (g' = L \/ mv'.ownBlock = some g') /\ (Value.slice (some ⟨g2, 0, none⟩) (es'.length + 1) cap2).ownBlock ≠ some g' := fun g' cs hc hm => by
  refine ⟨?_, fun e => ?_⟩
  ·rintro (e | e)
   ·exact blk_ne hc h.bx (by decide) e
   ·exact hm e
  ·rcases hfresh g' e with e' | e'
   ·exact hm e'
   ·have := (iA.1 hc).1
    omega
 have eapp : (es' ++ [e0]) ++ [] = es' ++ [e0] := List.append_nil _;obtain ⟨g, cap, zs, el, hlr, hz, hgS, hmg, hsh⟩ := h.li;subst el;obtain ⟨cur, hcur, hck⟩ := ownsRow_blk hlr;refine ⟨⟨?_, ?_, ?_, ?_, ?_, h.ln, ?_, ?_⟩, bC bx2 4 _ rfl, bF bx2 4⟩
 ·have e := heap_setCell_same w2 L 4 _ _ (.slice (some ⟨g2, 0, none⟩) (es'.length + 1) cap2) bx2
  simpa [lwO] using e
 ·rw [eapp]
  exact oA h.nm f3 (fun k hk => by
   rintro (e | e)
   ·have := (h.nm.lt k hk).1; omega
   ·rcases own_ne h.nm h.ma (by decide) with e' | e'
    ·rw [e'] at hk; cases hk
    ·exact e' (hk.trans e.symm))
 ·rw [lA, List.map_append]
  have e : [e0].map (fun e => Value.string e.m) = [.string x] := by simp [he0]
  rw [e];exact oB ho (by simp) _
 ·intro e he
  rw [eapp] at he;exact (h.el e he).fr f3 (fun g' cs hc hm => savoid g' cs hc hm)
 ·refine h.fr.monoNew f3 ?_
  rintro k (e | e)
  ·exact Or.inl (Or.inl e)
  ·rcases h.lm with e' | e'
   ·exact Or.inl (Or.inr (Or.inr (Or.inl (e' ▸ e))))
   ·exact Or.inr (e' k e)
 ·by_cases hc : mv'.ownBlock = some g2
  ·rcases h.lm with e' | e'
   ·exact Or.inl (by show some g2 = _; rw [<- e', hc])
   ·exact Or.inr (fun k hk => e' k (by rw [hc]; exact hk))
  ·refine Or.inr (fun k hk => ?_)
   have e : k = g2 := by simpa [Value.ownBlock] using hk.symm
   subst e;rcases hfresh k hk with e' | e'
   ·exact absurd e' hc
   ·exact Nat.le_trans h.fr.size e'
 ·refine ⟨g, cap, zs, rfl, oA hlr f3 (fun k hk => ?_), hz, hgS, (savoid g cur hcur hmg).2, fun e he k hk ha => ?_⟩
  ·have e : k = g := by simpa [Value.ownBlock] using hk.symm
   subst e;exact (savoid k cur hcur hmg).1
  ·rw [eapp] at he
   exact hsh e he k hk ha
theorem TkS.step3 {wS wr w2 : World} {A L : Nat} {v nv mv : Value} {cnt n : Nat} {x : ByteArray} {j : Nat} {es' : List NmE} {nv' mv' : Value} {g cap g2 cap2 : Nat} {zs : List Value} {o : Obj}
  (h : TkS wS A L v nv mv cnt n x j es' [] nv' mv' (.slice (some ⟨g, 0, none⟩) (n + j) cap) wr) (hz : ∀ z, z ∈ zs -> z = .string x)
  (ho : w2.ownsRow (L + 1) 9 1 (.slice (some ⟨g2, 0, none⟩) (n + j + 1) cap2) (n + j + 1) (zs ++ [.string x])) (hor : (g2 = g /\ (wr.alloc o).grownBy w2 (some g)) \/ (g2 = (wr.alloc o).heap.size /\ (wr.alloc o).grownBy w2 none)) :
  TkS wS A L v nv mv cnt n x (j + 1) es' [] nv' mv' (.slice (some ⟨g2, 0, none⟩) (n + (j + 1)) cap2) w2 := by
 obtain ⟨g', cap', zs', el, hlr, _, hgS, hmg, hsh⟩ := h.li;injection el with el1 el2 el3;injection el1 with el1;injection el1 with el1 _ _;subst el1 el3;obtain ⟨cur, hcur, hck⟩ := ownsRow_blk hlr;obtain ⟨cur2, hcur2, hck2⟩ := ownsRow_blk ho;have hgl : g < wr.heap.size := (iA.1 hcur).1
 have hzz : ∀ z, z ∈ zs ++ [Value.string x] -> z = .string x := fun z hz' => by
  rcases List.mem_append.1 hz' with e | e
  ·exact hz z e
  ·simpa using e
 have hlen2 : (zs ++ [Value.string x]).length = n + j + 1 := by have := ho.1; omega
 have f2 : Fr (fun k => k = g /\ g2 = g) wr w2 := by
  rcases hor with ⟨e, hg⟩ | ⟨e, hg⟩
  ·exact ((Fr.refl _ wr).alloc o).grown hg (fun k hk => Or.inl ⟨by injection hk with hk; exact hk.symm, e⟩)
  ·exact ((Fr.refl _ wr).alloc o).grown hg (fun k hk => by cases hk)
 have hg2 : g2 = g \/ wr.heap.size <= g2 := by
  rcases hor with ⟨e, _⟩ | ⟨e, _⟩
  ·exact Or.inl e
  ·exact Or.inr (by rw [e]; simp)
 refine ⟨f2.whole h.bx (fun e => blk_ne hcur h.bx (by decide) e.1.symm), ?_, ?_, ?_, ?_, h.ln, h.lm, ?_⟩
 ·exact oA h.nm f2 (fun k hk e => oN h.nm hcur (by decide) (by rw [hk, e.1]))
 ·exact oA h.ma f2 (fun k hk e => hmg (by rw [hk, e.1]))
 ·intro e he k hk
  obtain ⟨ge, e1, e2, cs, e3, e4⟩ := h.el e he k hk;by_cases hge : ge = g /\ g2 = g
  ·obtain ⟨rfl, rfl⟩ := hge
   obtain ⟨hm, hn⟩ := hsh e he k hk e1;refine ⟨g2, e1, e2, cur2, hcur2, ?_⟩
   have hk2 : k < (zs ++ [Value.string x]).length := by omega
   rw [hck2 k (by omega), gE hk2, hzz _ (List.getElem_mem hk2), hm]
  ·exact ⟨ge, e1, e2, cs, f2.whole e3 (fun e => hge ⟨e.1, e.2⟩), e4⟩
 ·refine h.fr.monoNew f2 (fun k hk => ?_)
  rcases hgS with e | e
  ·exact Or.inl (Or.inr (Or.inr (Or.inr (by omega))))
  ·exact Or.inr (by omega)
 ·refine ⟨g2, cap2, zs ++ [.string x], rfl, ho, hzz, ?_, ?_, fun e he k hk ha => ?_⟩
  ·have := h.fr.size
   rcases hg2 with e | e
   ·rw [e]; exact hgS
   ·exact Or.inr (by omega)
  ·intro e
   rcases hg2 with e' | e'
   ·rw [e'] at e; exact hmg e
   ·have := (h.ma.lt g2 e).2
    omega
  ·rcases hg2 with e' | e'
   ·subst e'
    obtain ⟨h1, h2⟩ := hsh e he k hk ha;exact ⟨h1, by omega⟩
   ·obtain ⟨ge, e1, _, cs, e3, _⟩ := h.el e he k hk
    rw [e1] at ha;injection ha with ha;injection ha with ha _ _;subst ha;have := (iA.1 e3).1;omega
