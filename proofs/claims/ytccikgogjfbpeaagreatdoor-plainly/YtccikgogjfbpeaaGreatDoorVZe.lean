/- The plain text of a book: Plain. -/
import Derived.Test.YtccikgogjfbpeaaGreatDoorVHa
import Derived.Test.YtccikgogjfbpeaaGreatDoorVZd
namespace Go.Proofs.YtccikgogjfbpeaaGreatDoor
open Go.RowKit

theorem RuVs.get {base : Nat} {w : World} : ∀ {rs : List RuleM} {xs : List Value} {j : Nat} {r : RuleM}, RuVs base w rs xs → rs[j]? = some r → ∃ c, RuV base w r c ∧ c.length = 14 ∧ ∀ o v, c[o]? = some v → xs[j * 14 + o]? = some v
 | [], _, j, _, _, hj => by simp at hj
 | r :: rs, xs, 0, r', ⟨c, rest, e, h1, h2⟩, hj => by
  simp at hj
  subst hj
  have l : c.length = 14 := by obtain ⟨vm, vc, vp, e1, _⟩ := h1; rw [e1]; rfl
  refine ⟨c, h1, l, fun o v ho => ?_⟩
  have := (List.getElem?_eq_some_iff.1 ho).1
  rw [e, Nat.zero_mul, Nat.zero_add, List.getElem?_append_left this]
  exact ho
 | r :: rs, xs, j + 1, r', ⟨c, rest, e, h1, h2⟩, hj => by
  obtain ⟨c', a1, a2, a3⟩ := RuVs.get h2 (j := j) (r := r') (by simpa using hj)
  have l : c.length = 14 := by obtain ⟨vm, vc, vp, e1, _⟩ := h1; rw [e1]; rfl
  refine ⟨c', a1, a2, fun o v ho => ?_⟩
  rw [e, List.getElem?_append_right (by omega), l, show (j + 1) * 14 + o - 14 = j * 14 + o from by omega]
  exact a3 o v ho
theorem ownsRow_le {w : World} {base : Nat} {e : TypeId} {size : Nat} {a : Option Addr} {n m c : Nat} {xs : List Value} (h : w.ownsRow base e size (.slice a n c) m xs) : m ≤ c := by
 rcases h.2 with ⟨e1, e2⟩ | ⟨g, cap, cur, e1, _, _, e4, _⟩
 ·omega
 ·injection e1 with _ _ e3; omega
theorem gJ_len (kw : Bs) (l : List Nat) (hk : kw.length ≤ 10) (hl : l.length ≤ 4000) (hx : ∀ x, x ∈ l → x < 1000000000) : (gJ kw l).length ≤ 93000 := by
 have h1 := comma_len (l.map decN) 21 (fun x hx' => by obtain ⟨y, hy, rfl⟩ := List.mem_map.1 hx'; exact decN_len y (hx y hy))
 rw [List.length_map] at h1
 unfold gJ
 split
 ·simp
 ·simp only [List.length_cons, List.length_append]; omega
theorem plRl_len {rts : List RouteM} {r : RuleM} (h : RlOk rts.length r) (hrt : ∀ t, t ∈ rts → t.name.size ≤ 3000) : (plRl rts r).length ≤ 12300000 := by
 rw [plRl_parts]
 have g1 := gJ_len [109, 99, 99] r.mcc (by simp) h.mc.1 h.mc.2
 have g2 := gJ_len [99, 117, 114] r.cur (by simp) h.cu.1 h.cu.2
 have n1 : r.name.data.toList.length = r.name.size := by simp
 have n2 := h.nm
 have d1 := decN_len _ h.rk
 have p1 := padL_len _ _ h.lo.2
 have p2 := padL_len _ _ h.hi.2
 have dg := h.dg
 have t4 : (tx4 r.am.isSome (r.am.getD (0, 0)).1 (r.am.getD (0, 0)).2).length ≤ 60 := by
  cases ha : r.am with
  | none => simp [tx4]
  | some ab =>
   have a1 := decN_len _ (h.am ab ha).1
   have a2 := decN_len _ (h.am ab ha).2
   simp [tx4]
   omega
 have t6 : (tx6 r.decline r.cheapest (r.routes.map (nameAt rts))).length ≤ 12010000 := by
  have h1 := comma_len (r.routes.map (nameAt rts)) 3000 (fun x hx => by
   obtain ⟨p, hp, rfl⟩ := List.mem_map.1 hx
   unfold nameAt
   cases hq : rts[p]? with
   | none => simp
   | some t => have := hrt t (List.mem_of_getElem? hq); simpa using this)
  rw [List.length_map] at h1
  have h2 : r.routes.length * (3000 + 2) ≤ 4000 * 3002 := Nat.mul_le_mul h.pl.1 (by omega)
  unfold tx6 actB
  cases r.decline <;> cases r.cheapest <;> simp <;> omega
 unfold tx1 tx2
 simp only [List.length_cons, List.length_append, List.length_nil]
 omega
theorem rtSl_of {w W : World} {Bb tl ah rc : Nat} {ra : Option Addr} {rts : List RouteM} (ho : w.ownsRow (Bb + 1) 148 3 (.slice ra rts.length rc) rts.length (rtRow rts)) (hW : Below w.heap.size w W) (h : ah ≤ rts.length) :
  RtSl W w.heap.size (if rc = tl then ra else Option.map (fun x => x.add (tl * 3)) ra) ((rts.take ah).drop tl) := by
 intro j t hj
 rw [List.getElem?_drop, List.getElem?_take] at hj
 split at hj
 ·rename_i hlt
  have hrc := ownsRow_le ho
  obtain ⟨g, cap, e, hb, hl, _⟩ := ownsRow_cap ho (by omega)
  injection e with e1 _ e3
  subst e1
  obtain ⟨a1, a2, a3⟩ := rtRow_get rts (tl + j) t hj
  have c1 := ho.cells (g := g) rfl _ _ a1
  have c2 := ho.cells (g := g) rfl _ _ a2
  have c3 := ho.cells (g := g) rfl _ _ a3
  rw [addrT, Nat.zero_add] at c1 c2 c3
  have hF : Fr (fun _ => False) w W := Fr.of_below hW
  have ej : tl * 3 + j * 3 = (tl + j) * 3 := by omega
  refine ⟨g, tl * 3, ?_, hl, ?_, ?_, ?_⟩
  ·rw [if_neg (by omega)]
   simp [addrT]
  ·rw [ej]; exact (hF.cell (p := ⟨g, (tl + j) * 3, none⟩) hl (by simp)).trans c1
  ·rw [ej]; exact (hF.cell (p := ⟨g, (tl + j) * 3 + 1, none⟩) hl (by simp)).trans c2
  ·rw [ej]; exact (hF.cell (p := ⟨g, (tl + j) * 3 + 2, none⟩) hl (by simp)).trans c3
 ·cases hj
theorem Wr.routes {w0 : World} {B b : Nat} {l : List UInt8} {X : Nat} {cs : Array Value} {T : TypeId} {W : World} (h : Wr w0 B b l X (.cells cs T) W) (ht : ∀ w', Below B w0 w' → Tab w') (a : Option Addr) (n c : Nat) (rts : List RouteM) (hn : n = rts.length) (hr : RtSl W B a rts) (hok : ∀ t, t ∈ rts → RtOk t) (hn6 : rts.length ≤ 6) (hl0 : l.length ≤ 100000000) (hX : X ≠ b) (hT : T ≠ 5) :
  Calls Tryz.prog 59 #[.pointer (some ⟨b, 0, none⟩), .slice a n c] W fun e w' => e = .returned (.tuple #[]) ∧ Wr w0 B b (l ++ rts.flatMap plRt) X (.cells cs T) w' := by
 subst hn
 exact (plainRoutes_any W B b l a c rts h.le h.bd (fun w' hw => ht w' (h.be.trans hw)) hr hok hn6 hl0).mono fun e w' ⟨he, hb, hB, hk⟩ => ⟨he, hb, h.be.trans hB, Nat.le_trans h.le hB.size, hk X _ h.ob (by simpa using hX) (fun c fz e => by injection e with _ e2; exact hT e2), h.ok.trans hk⟩
set_option maxRecDepth 30000 in
set_option maxHeartbeats 20000000 in
theorem Plain_any (w : World) (Bb : Nat) (vr vl : Value) (rts : List RouteM) (rls : List RuleM) (xs : List Value) (hk : Bk w Bb vr vl rts rls xs) (ho : BookOk rts rls) (ht : Tab w) :
    Calls Tryz.prog 33 #[.pointer (some ⟨Bb, 0, none⟩)] w fun e w' => e = .returned (.string (strB (bookJ rts rls))) ∧ Fr (fun _ => False) w w' := by
  have HTB : Hid (∀ w', Below w.heap.size w w' → Tab w') := fun w' h => ht.below (Nat.le_refl _) h
  have HK := hid hk
  have HO := hid ho
  obtain ⟨la, lc, hvl⟩ := ownsRow_len hk.lo
  obtain ⟨ra, rc, hvr⟩ := ownsRow_len hk.ro
  subst hvl hvr
  have HBl := hid (World.block_lt_of_cell? w _ hk.c0)
  obtain ⟨n, hn⟩ : ∃ n, rls.length = n := ⟨_, rfl⟩
  have HN := hid hn
  obtain ⟨nr, hnr⟩ : ∃ nr, rts.length = nr := ⟨_, rfl⟩
  have HNR := hid hnr
  have c0 := hk.c0
  have c1 := hk.c1
  rw [hnr] at c0
  rw [hn] at c1
  have hn8 : n ≤ 8 := by have := hk.l8; omega
  have hn6 : nr ≤ 6 := by have := hk.r6; omega
  clear hk ho ht hn hnr
  go_enter Tryz.func33, Tryz.ntmps33
  go_upto_region 2 with fail
  have HF0 : Hid (Fr (fun _ => False) w (w.alloc (.cells #[.pointer none, .slice none 0 0] 116))) := (Fr.refl _ _).alloc _
  have HB0 : Hid (Bd (w.alloc (.cells #[.pointer none, .slice none 0 0] 116)) w.heap.size w.heap.size []) := .inl ⟨Nat.le_refl _, .slice none 0 0, heap_alloc_new w _, World.ownsRowF_nil _ _ _ _, by simp [Value.ownBlock]⟩
  generalize w.alloc (.cells #[.pointer none, .slice none 0 0] 116) = W0 at *
  have HBE0 := hid (HF0.out.below (Nat.le_refl _) (by simp))
  obtain ⟨b, hb⟩ : ∃ b, w.heap.size = b := ⟨_, rfl⟩
  have HB1 : Hid (Bd W0 w.heap.size b []) := by rw [← hb]; exact HB0.out
  rw [hb]
  clear HB0 hb
  have HC0 : Hid (∀ W, Below w.heap.size w W → W.cell? ⟨Bb, 0, none⟩ = some (.slice ra nr rc)) := fun W hW => (Fr.cell (S := fun _ => False) (Fr.of_below hW) (p := ⟨Bb, 0, none⟩) HBl.out (by simp)).trans c0
  have d1 : W0.cell? ⟨Bb, 1, none⟩ = some (.slice la n lc) := (HF0.out.cell (p := ⟨Bb, 1, none⟩) HBl.out (by simp)).trans c1
  clear c0 c1
  go_wp2_with fail
  go_loopg [4, 6, 12] n (fun m td _ ix wr => ∃ k tl l, k ≤ n ∧ m = n - k ∧ ix = .int .i64 (k : Nat) ∧ td = .int .i64 (tl : Nat) ∧ tl ≤ nr ∧ l.length ≤ k * 12400000 ∧ Hid (Bd wr w.heap.size b l) ∧ Hid (Below w.heap.size w wr) ∧ Hid (bookJ rts rls = l ++ bookFrom rts tl (rls.drop k)) ∧ Hid (AhOk tl (rls.drop k)))
  case atStart => exact ⟨0, 0, [], Nat.zero_le _, rfl, rfl, rfl, Nat.zero_le _, by simp, HB1, HBE0, rfl, HO.out.ah⟩
  case round =>
    obtain ⟨k, tl, l, hk, rfl, rfl, rfl, htl, hl, HBd, HBE, HEQ, HAH⟩ := hrel
    have c0 := HC0.out wr HBE.out
    by_cases hlt : k < n
    · obtain ⟨r, hrk⟩ : ∃ r, rls[k]? = some r := ⟨_, List.getElem?_eq_getElem (by have := HN.out; omega)⟩
      have HOr := hid (HO.out.rl r (List.mem_of_getElem? hrk))
      have HDR : Hid (rls.drop k = r :: rls.drop (k + 1)) := by
        show _ = _
        have hk' := (List.getElem?_eq_some_iff.1 hrk)
        rw [List.drop_eq_getElem_cons hk'.1, hk'.2]
      obtain ⟨cs, ⟨vm, vc, vp, ecs, hm, hc, hp⟩, hcl, hcg⟩ := HK.out.ru.get hrk
      obtain ⟨gl, capl, el, hgb, hgl, _⟩ := ownsRow_cap HK.out.lo (by have := HN.out; omega)
      injection el with el1 el2 el3
      subst el1 el3
      obtain ⟨ma, mc, e1⟩ := ownsRow_len hm
      obtain ⟨ca, cc, e2⟩ := ownsRow_len hc
      obtain ⟨pa, pc, e3⟩ := ownsRow_len hp
      subst e1 e2 e3
      have hcell : ∀ o v, cs[o]? = some v → wr.cell? ⟨gl, k * 14 + o, none⟩ = some v := fun o v ho => by
        have := HK.out.lo.cells (g := gl) rfl _ _ (hcg o v ho)
        rw [addrT, Nat.zero_add] at this
        exact (Fr.cell (S := fun _ => False) (Fr.of_below HBE.out) (p := ⟨gl, k * 14 + o, none⟩) hgl (by simp)).trans this
      rw [ecs] at hcell
      have v0 := hcell 0 _ rfl
      have v1 := hcell 1 _ rfl
      have v2 := hcell 2 _ rfl
      have v3 := hcell 3 _ rfl
      have v4 := hcell 4 _ rfl
      have v5 := hcell 5 _ rfl
      have v6 := hcell 6 _ rfl
      have v7 := hcell 7 _ rfl
      have v8 := hcell 8 _ rfl
      have v9 := hcell 9 _ rfl
      have v10 := hcell 10 _ rfl
      have v11 := hcell 11 _ rfl
      have v12 := hcell 12 _ rfl
      have v13 := hcell 13 _ rfl
      rw [Nat.add_zero] at v0
      have hki : (k : Int) < (n : Int) := by omega
      clear hcell hcg hcl ecs hrk
      go_upto_region 6 with fail
      have HLE := hid HBE.out.size
      have HZ : Hid (Wr w w.heap.size b l wr.heap.size (.cells #[.string r.name, .int .i64 r.rank, .int .i64 r.digits, .int .i64 r.lo, .int .i64 r.hi, .slice ma r.mcc.length mc, .bool r.am.isSome, .int .i64 (r.am.getD (0, 0)).1, .int .i64 (r.am.getD (0, 0)).2, .slice ca r.cur.length cc, .bool r.decline, .bool r.cheapest, .slice pa r.routes.length pc, .int .i64 r.ahead] 120) (wr.alloc (.cells #[.string r.name, .int .i64 r.rank, .int .i64 r.digits, .int .i64 r.lo, .int .i64 r.hi, .slice ma r.mcc.length mc, .bool r.am.isSome, .int .i64 (r.am.getD (0, 0)).1, .int .i64 (r.am.getD (0, 0)).2, .slice ca r.cur.length cc, .bool r.decline, .bool r.cheapest, .slice pa r.routes.length pc, .int .i64 r.ahead] 120))) :=
        ⟨HBd.out.fr ((Fr.refl _ _).alloc _), HBE.out.trans (((Fr.refl (fun _ => False) wr).alloc _).below HLE.out (by simp)), Nat.le_trans HLE.out (by simp), heap_alloc_new wr _, ok_fr (ok_below HBE.out) ((Fr.refl _ _).alloc _)⟩
      have HXb : Hid (wr.heap.size ≠ b) := by have := HBd.out.lt.2; show _ ≠ _; omega
      have HAG : Hid (ruAgg r.name r.rank r.digits r.lo r.hi ma r.mcc.length mc r.am.isSome (r.am.getD (0, 0)).1 (r.am.getD (0, 0)).2 ca r.cur.length cc r.decline r.cheapest pa r.routes.length pc r.ahead = .agg #[.string r.name, .int .i64 r.rank, .int .i64 r.digits, .int .i64 r.lo, .int .i64 r.hi, .slice ma r.mcc.length mc, .bool r.am.isSome, .int .i64 (r.am.getD (0, 0)).1, .int .i64 (r.am.getD (0, 0)).2, .slice ca r.cur.length cc, .bool r.decline, .bool r.cheapest, .slice pa r.routes.length pc, .int .i64 r.ahead]) := rfl
      obtain ⟨ah, hah⟩ : ∃ ah, ah = r.ahead := ⟨_, rfl⟩
      have HAE := hid hah
      have ha1 : tl ≤ ah := by have := HAH.out; rw [HDR.out] at this; rw [hah]; exact this.1
      have ha2 : ah ≤ nr := by have := HOr.out.ah; have := HNR.out; omega
      have ha3 : nr ≤ rc := by have := ownsRow_le HK.out.ro; have := HNR.out; omega
      have i1 : (0 : Int) ≤ (tl : Int) := by omega
      have i2 : (tl : Int) ≤ (ah : Int) := by omega
      have i3 : (ah : Int) ≤ (rc : Int) := by omega
      generalize wr.alloc (.cells #[.string r.name, .int .i64 r.rank, .int .i64 r.digits, .int .i64 r.lo, .int .i64 r.hi, .slice ma r.mcc.length mc, .bool r.am.isSome, .int .i64 (r.am.getD (0, 0)).1, .int .i64 (r.am.getD (0, 0)).2, .slice ca r.cur.length cc, .bool r.decline, .bool r.cheapest, .slice pa r.routes.length pc, .int .i64 r.ahead] 120) = W1 at *
      generalize wr.heap.size = X at *
      have x13 : W1.cell? ⟨X, 13, none⟩ = some (.int .i64 (ah : Nat)) := by rw [hah]; exact block_cell HZ.out.ob 13 _ rfl
      have y0 := HC0.out W1 HZ.out.be
      clear v0 v1 v2 v3 v4 v5 v6 v7 v8 v9 v10 v11 v12 v13 c0 hah
      have HL6 : Hid (((rts.take ah).drop tl).length = ah - tl) := by have := HNR.out; show _ = _; rw [List.length_drop, List.length_take]; omega
      have HOKr : Hid (∀ t, t ∈ (rts.take ah).drop tl → RtOk t) := fun t ht => HO.out.rt t (List.mem_of_mem_take (List.mem_of_mem_drop ht))
      obtain ⟨aa, haa⟩ : ∃ aa, (if rc = tl then ra else Option.map (fun x => x.add (tl * 3)) ra) = aa := ⟨_, rfl⟩
      have HRS : Hid (∀ W, Below w.heap.size w W → RtSl W w.heap.size aa ((rts.take ah).drop tl)) := fun W hW => by rw [← haa]; exact rtSl_of HK.out.ro hW (by have := HNR.out; omega)
      have HPR : Hid (∀ W, Hid (Wr w w.heap.size b l X (.cells #[.string r.name, .int .i64 r.rank, .int .i64 r.digits, .int .i64 r.lo, .int .i64 r.hi, .slice ma r.mcc.length mc, .bool r.am.isSome, .int .i64 (r.am.getD (0, 0)).1, .int .i64 (r.am.getD (0, 0)).2, .slice ca r.cur.length cc, .bool r.decline, .bool r.cheapest, .slice pa r.routes.length pc, .int .i64 r.ahead] 120) W) →
          Calls Tryz.prog 59 #[.pointer (some ⟨b, 0, none⟩), .slice aa (ah - tl) (rc - tl)] W fun e w' => e = .returned (.tuple #[]) ∧ Hid (Wr w w.heap.size b (l ++ ((rts.take ah).drop tl).flatMap plRt) X (.cells #[.string r.name, .int .i64 r.rank, .int .i64 r.digits, .int .i64 r.lo, .int .i64 r.hi, .slice ma r.mcc.length mc, .bool r.am.isSome, .int .i64 (r.am.getD (0, 0)).1, .int .i64 (r.am.getD (0, 0)).2, .slice ca r.cur.length cc, .bool r.decline, .bool r.cheapest, .slice pa r.routes.length pc, .int .i64 r.ahead] 120) w') ∧ (w'.cell? ⟨Bb, 0, none⟩ = some (.slice ra nr rc) ∧ w'.cell? ⟨X, 13, none⟩ = some (.int .i64 (ah : Nat)))) := fun W hZ =>
        (hZ.out.routes HTB.out _ _ _ _ HL6.out.symm (HRS.out W hZ.out.be) HOKr.out (by have := HL6.out; omega) (by omega) HXb.out (by decide)).mono fun e w' ⟨he, hz⟩ => ⟨he, hz, HC0.out _ hz.be, by rw [HAE.out]; exact block_cell hz.ob 13 _ rfl⟩
      have HZd := hid (HZ.out.fr (Fr.refl _ _).drew)
      clear HZ
      go_region_held3 (fun W => W.cell? ⟨Bb, 0, none⟩ = some (.slice ra nr rc) ∧ W.cell? ⟨X, 13, none⟩ = some (.int .i64 (ah : Nat))) (first | assumption | go_keep) (first
        | (go_at_call 59; refine (HPR.out _ (by assumption)).mono ?_; rintro e w7 ⟨rfl, HZE, hS7⟩))
      have x0 := block_cell HZE.out.ob 0 _ rfl
      have x1 := block_cell HZE.out.ob 1 _ rfl
      have x2 := block_cell HZE.out.ob 2 _ rfl
      have x3 := block_cell HZE.out.ob 3 _ rfl
      have x4 := block_cell HZE.out.ob 4 _ rfl
      have x5 := block_cell HZE.out.ob 5 _ rfl
      have x6 := block_cell HZE.out.ob 6 _ rfl
      have x7 := block_cell HZE.out.ob 7 _ rfl
      have x8 := block_cell HZE.out.ob 8 _ rfl
      have x9 := block_cell HZE.out.ob 9 _ rfl
      have x10 := block_cell HZE.out.ob 10 _ rfl
      have x11 := block_cell HZE.out.ob 11 _ rfl
      have x12 := block_cell HZE.out.ob 12 _ rfl
      obtain ⟨_, x13'⟩ := hS7
      have HLN : Hid (l.length + (((rts.take ah).drop tl).flatMap plRt).length + (plRl rts r).length ≤ (k + 1) * 12400000) := by
        have h1 := rts_len ((rts.take ah).drop tl) HOKr.out
        have h2 := HL6.out
        have h3 := plRl_len HOr.out (fun t ht => (HO.out.rt t ht).1)
        have h4 : ((rts.take ah).drop tl).length * 3060 ≤ 6 * 3060 := Nat.mul_le_mul (by omega) (Nat.le_refl _)
        show _ ≤ _
        omega
      have HRU : Hid (Calls Tryz.prog 60 #[.pointer (some ⟨Bb, 0, none⟩), .pointer (some ⟨b, 0, none⟩), .agg #[.string r.name, .int .i64 r.rank, .int .i64 r.digits, .int .i64 r.lo, .int .i64 r.hi, .slice ma r.mcc.length mc, .bool r.am.isSome, .int .i64 (r.am.getD (0, 0)).1, .int .i64 (r.am.getD (0, 0)).2, .slice ca r.cur.length cc, .bool r.decline, .bool r.cheapest, .slice pa r.routes.length pc, .int .i64 (ah : Nat)]] w7 fun e w' => e = .returned (.tuple #[]) ∧ Bd w' w.heap.size b ((l ++ ((rts.take ah).drop tl).flatMap plRt) ++ plRl rts r) ∧ Below w.heap.size w w') := by
        have h := plainRule_any w w7 b Bb (l ++ ((rts.take ah).drop tl).flatMap plRt) (.slice ra rts.length rc) rts r.name r.rank r.digits r.lo r.hi r.mcc r.cur r.routes r.am.isSome (r.am.getD (0, 0)).1 (r.am.getD (0, 0)).2 r.decline r.cheapest ah ma ca pa mc cc pc HZE.out.bd HZE.out.be HTB.out HK.out.c0 HK.out.ro HK.out.r6 (fun t ht => (HO.out.rt t ht).1) hm hc hp HOr.out.nm HOr.out.rk HOr.out.dg HOr.out.lo HOr.out.hi HOr.out.mc HOr.out.cu
          (by cases ha : r.am with
            | none => simp
            | some ab => simpa using HOr.out.am ab ha) HOr.out.pl (by rw [List.length_append]; have := HLN.out; omega)
        rw [← plRl_parts] at h
        exact h
      clear haa i1 i2 i3 hm hc hp x13 y0
      go_wp2_with fail
      refine HRU.out.mono ?_
      rintro e w9 ⟨rfl, hb9, hB9⟩
      have HB9 := hid hb9
      have HE9 := hid hB9
      clear hb9 hB9 x0 x1 x2 x3 x4 x5 x6 x7 x8 x9 x10 x11 x12 x13'
      go_wp2
      go_roundg (n - (k + 1))
      case measure => omega
      case rel =>
        refine ⟨k + 1, ah, (l ++ ((rts.take ah).drop tl).flatMap plRt) ++ plRl rts r, by omega, rfl, by go_num, rfl, by omega, by (have := HLN.out; rw [List.length_append, List.length_append]; omega), HB9, HE9, ?_, ?_⟩
        · show _ = _
          rw [HEQ.out, HDR.out, bookFrom, ← HAE.out]
          simp only [List.append_assoc]
        · have e := HAH.out
          rw [HDR.out] at e
          show AhOk _ _
          rw [HAE.out]
          exact e.2
    · have hki : ¬ (k : Int) < (n : Int) := by omega
      have ek : k = n := by omega
      obtain ⟨aa, haa⟩ : ∃ aa, (if rc = tl then ra else Option.map (fun x => x.add (tl * 3)) ra) = aa := ⟨_, rfl⟩
      have HL6 : Hid (((rts.take nr).drop tl).length = nr - tl) := by have := HNR.out; show _ = _; rw [List.length_drop, List.length_take]; omega
      have HOKr : Hid (∀ t, t ∈ (rts.take nr).drop tl → RtOk t) := fun t ht => HO.out.rt t (List.mem_of_mem_take (List.mem_of_mem_drop ht))
      have HRS : Hid (RtSl wr w.heap.size aa ((rts.take nr).drop tl)) := by show RtSl _ _ _ _; rw [← haa]; exact rtSl_of HK.out.ro HBE.out (by have := HNR.out; omega)
      have HPR : Hid (Calls Tryz.prog 59 #[.pointer (some ⟨b, 0, none⟩), .slice aa (nr - tl) (rc - tl)] wr fun e w' => e = .returned (.tuple #[]) ∧ Bd w' w.heap.size b (l ++ ((rts.take nr).drop tl).flatMap plRt) ∧ Below w.heap.size wr w' ∧ Lib.OthersKept 5 (some b) wr w') := by
        have h := plainRoutes_any wr w.heap.size b l aa (rc - tl) ((rts.take nr).drop tl) HBE.out.size HBd.out (fun w' hw => HTB.out w' (HBE.out.trans hw)) HRS.out HOKr.out (by have := HL6.out; omega) (by omega)
        rw [HL6.out] at h
        exact h
      have HEQ' : Hid (bookJ rts rls = l ++ ((rts.take nr).drop tl).flatMap plRt) := by
        have e := HEQ.out
        rw [List.drop_of_length_le (by have := HN.out; omega)] at e
        show _ = _
        rw [e, List.take_of_length_le (by have := HNR.out; omega)]
        rfl
      have ha3 : nr ≤ rc := by have := ownsRow_le HK.out.ro; have := HNR.out; omega
      have i1 : (0 : Int) ≤ (tl : Int) := by omega
      have i2 : (tl : Int) ≤ (nr : Int) := by omega
      have i3 : (nr : Int) ≤ (rc : Int) := by omega
      clear ek
      go_wp2_with fail
      refine HPR.out.mono ?_
      rintro e w9 ⟨rfl, hb9, hB9, _⟩
      have HB9 : Hid (Bd w9 w.heap.size b (bookJ rts rls)) := by rw [← HEQ'.out] at hb9; exact hb9
      have HE9 := hid (HBE.out.trans hB9)
      clear hb9 hB9 haa c0
      go_wp2_with fail
      refine (bString_any w.heap.size b (bookJ rts rls) w9 HB9.out HE9.out.size).mono ?_
      rintro e w10 ⟨rfl, hB10⟩
      have HE10 : Hid (Fr (fun _ => False) w w10) := Fr.of_below (HE9.out.trans hB10)
      clear hB10
      go_wp2
      go_ret
      exact ⟨rfl, HE10.out⟩
end Go.Proofs.YtccikgogjfbpeaaGreatDoor
