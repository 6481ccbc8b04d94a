/- The reader of images: all of a tree. The seal: sums and words. -/
import Derived.Test.YtccikgogjfbpeabGreatDoorWHa
import Derived.Test.YtccikgogjfbpeabGreatDoorWIe
import Derived.Lib.LaidTab
import Derived.Lib.AppendIntMem
namespace Go.Proofs.YtccikgogjfbpeabGreatDoor
open Go.RowKit
def readB (b : List UInt8) : Option (TrD × Nat) := match manyR b 0 6 (routeR b) 0 with
 | none => none
 | some (rts, i) => match manyR b 0 8 (nameR b) i with
  | none => none
  | some (nms, j) => if differB (rts.map RouteM.name) && differB nms then (match manyR b 1 255 (progR b rts.length nms.length) j with
   | none => none
   | some (prs, k) => match nodeR b prs.length 7 k with
    | none => none
    | some (t, l) => some (⟨rts, nms, prs, t⟩, l)) else none
theorem readR_eq (b : List UInt8) : readR b = match readB b with | none => none | some (t, l) => if l = b.length then some t else none := by
 unfold readR readB
 cases manyR b 0 6 (routeR b) 0 with
 | none => rfl
 | some p =>
  dsimp only
  cases manyR b 0 8 (nameR b) p.2 with
  | none => rfl
  | some q =>
   dsimp only
   cases (differB (p.1.map RouteM.name) && differB q.1) with
   | false => rfl
   | true =>
    simp only [if_true]
    cases manyR b 1 255 (progR b p.1.length q.1.length) q.2 with
    | none => rfl
    | some r =>
     dsimp only
     cases nodeR b r.1.length 7 r.2 <;> rfl
structure RgS (w wx : World) (B : Nat) (s : ByteArray) (j TT : Nat) (c0 c1 c2 c3 c4 : Value) : Prop where
 rd : RdAt wx B s j TT
 bx : wx.heap[TT]? = some (.cells #[c0, c1, c2, c3, c4] 92)
 fr : Fr (fun k => k = B \/ k = TT) w wx
 lB : B < w.heap.size
 lT : TT < w.heap.size
 ne : TT ≠ B
theorem RgS.call {w wx wy : World} {B j j' TT : Nat} {s : ByteArray} {c0 c1 c2 c3 c4 : Value} (h : RgS w wx B s j TT c0 c1 c2 c3 c4) (hr : RdAt wy B s j' TT) (hf : Fr (fun k => k = B) wx wy) : RgS w wy B s j' TT c0 c1 c2 c3 c4 :=
 ⟨hr, hf.whole h.bx h.ne, h.fr.trans (hf.mono (fun _ hk => .inl hk)), h.lB, h.lT, h.ne⟩
theorem RgS.look {w wx wy : World} {B j TT : Nat} {s : ByteArray} {c0 c1 c2 c3 c4 : Value} (h : RgS w wx B s j TT c0 c1 c2 c3 c4) (hf : F0 wx wy) : RgS w wy B s j TT c0 c1 c2 c3 c4 :=
 ⟨h.rd.fr hf (by simp), hf.whole h.bx (by simp), h.fr.trans (hf.mono (by simp)), h.lB, h.lT, h.ne⟩
theorem RgS.set {w wx : World} {B j TT : Nat} {s : ByteArray} {c0 c1 c2 c3 c4 d0 d1 d2 d3 d4 : Value} (h : RgS w wx B s j TT c0 c1 c2 c3 c4) (o : Nat) (v : Value) (e : (#[c0, c1, c2, c3, c4] : Array Value).setIfInBounds o v = #[d0, d1, d2, d3, d4]) : RgS w (wx.setCell ⟨TT, o, none⟩ v) B s j TT d0 d1 d2 d3 d4 := by
 have f : Fr (fun k => k = TT) wx (wx.setCell ⟨TT, o, none⟩ v) := (Fr.refl (fun k => k = TT) wx).setCell (p := ⟨TT, o, none⟩) (Or.inl rfl) v
 have b := heap_setCell_same wx TT o _ _ v h.bx
 rw [e] at b
 exact ⟨h.rd.fr f (fun e => h.ne e.symm), b, h.fr.setCell (p := ⟨TT, o, none⟩) (Or.inl (Or.inr rfl)) v, h.lB, h.lT, h.ne⟩
theorem own_tset {w : World} {base TT : Nat} {t : TypeId} {z : Nat} {v : Value} {n : Nat} {xs : List Value} (h : w.ownsRow base t z v n xs) (hT : TT < base) (o : Nat) (u : Value) : (w.setCell ⟨TT, o, none⟩ u).ownsRow base t z v n xs :=
 ownsRow_fr h ((Fr.refl (fun k => k = TT) w).setCell (p := ⟨TT, o, none⟩) (Or.inl rfl) u) (fun _ hk => by omega)
theorem PgRow.fr {base : Nat} {w w' : World} {v : Value} {ps : List (List StepM)} {S : Nat -> Prop} (h : PgRow base w v ps) (hf : Fr S w w') (hS : ∀ k, S k -> k < base) : PgRow base w' v ps := by
 obtain ⟨xs, h1, h2⟩ := h
 refine ⟨xs, ownsRow_fr h1 hf hS, fun j l hj => ?_⟩
 obtain ⟨vj, e1, e2⟩ := h2 j l hj
 exact ⟨vj, e1, stRow_low e2 (Nat.le_refl _) hf hS⟩
theorem PgRow.base {b b' : Nat} {w : World} {v : Value} {ps : List (List StepM)} (h : PgRow b w v ps) (hb : b' <= b) : PgRow b' w v ps := by
 obtain ⟨xs, h1, h2⟩ := h
 refine ⟨xs, ownsRow_base h1 hb, fun j l hj => ?_⟩
 obtain ⟨vj, e1, e2⟩ := h2 j l hj
 exact ⟨vj, e1, e2.base hb⟩
theorem strsAt_str {w : World} {base : Nat} {v : Value} {n : Nat} {l : List ByteArray} (h : w.ownsRow base 9 1 v n (strRow l)) (hl : l.length = n) : ∃ a c, v = .slice a n c /\ StrsAt w a l := by
 obtain ⟨a, c, e⟩ := ownsRow_len h
 subst e
 refine ⟨a, c, rfl, fun k s hk => ?_⟩
 have hkl := (List.getElem?_eq_some_iff.1 hk).1
 obtain ⟨g, cap, e, _, _⟩ := h.form (by omega)
 injection e with e1 e2 e3
 subst e1 e3
 have hc := h.cells (g := g) rfl k (.string s) (by simp [strRow, hk])
 rw [addr_add', Nat.zero_add] at hc
 exact ⟨g, 0, rfl, by rw [Nat.zero_add]; exact hc⟩
def TlAt (zb : Nat) (w : World) (TT : Nat) (t : TrD) (ra : Option Addr) (rc : Nat) : Prop := TgAt zb w TT t.rts ra rc t.nms t.prs t.root /\ w.ownsRow zb 144 3 (.slice ra t.rts.length rc) t.rts.length (rtRow t.rts)
theorem TlAt.fr {zb : Nat} {w w' : World} {TT : Nat} {t : TrD} {ra : Option Addr} {rc : Nat} {S : Nat -> Prop} (h : TlAt zb w TT t ra rc) (hf : Fr S w w') (hS : ∀ k, S k -> k < zb) (hT : ¬ S TT) : TlAt zb w' TT t ra rc := by
 obtain ⟨vn, vp, a, b, h1, h2, ⟨xs, h3, h4⟩, h5⟩ := h.1.bx
 have ro := ownsRow_fr h.2 hf hS
 refine ⟨⟨⟨vn, vp, a, b, hf.whole h1 hT, ownsRow_fr h2 hf hS, ⟨xs, ownsRow_fr h3 hf hS, fun j m hj => ?_⟩, h5.keep' hf (fun k hk e => by have := hS k e; omega)⟩, ownsRow_base ro (by omega)⟩, ro⟩
 obtain ⟨vj, e1, e2⟩ := h4 j m hj
 exact ⟨vj, e1, stRow_low e2 (Nat.le_refl _) hf hS⟩
def RgP (w : World) (B : Nat) (s : ByteArray) (TT : Nat) (r : Option (TrD × Nat)) (e : Ending) (w' : World) : Prop := match r with
 | none => e = noE /\ Fr (fun k => k = B \/ k = TT) w w'
 | some (t, l) => e = .returned (.tuple #[]) /\ RdAt w' B s l TT /\ (∃ ra rc, TlAt w.heap.size w' TT t ra rc) /\ Fr (fun k => k = B \/ k = TT) w w'
set_option maxRecDepth 30000 in
set_option maxHeartbeats 2000000 in
theorem rread_any (w : World) (B : Nat) (s : ByteArray) (TT : Nat) (h : RdAt w B s 0 TT) (hT : w.heap[TT]? = some (.cells #[.slice none 0 0, .slice none 0 0, .slice none 0 0, .pointer none, .int .i64 0] 92)) (hne : TT ≠ B) :
  Calls Tryz.prog 47 #[.pointer (some ⟨B, 0, none⟩)] w (RgP w B s TT (readB s.data.toList)) := by
 have hmf : ∀ (fn : Fn) (first cap : Array Value) (w : World), (Instr.makeFunc fn first cap).run Tryz.prog w = .ok (.func fn first cap) w := fun _ _ _ _ => rfl
 have HS0 : Hid (RgS w w B s 0 TT (.slice none 0 0) (.slice none 0 0) (.slice none 0 0) (.pointer none) (.int .i64 0)) := ⟨h, hT, Fr.refl _ _, (Array.getElem?_eq_some_iff.1 h.bx).1, (Array.getElem?_eq_some_iff.1 hT).1, hne⟩
 have hTl := HS0.o.lT
 have b2 : w.cell? ⟨B, 2, none⟩ = some (.pointer (some ⟨TT, 0, none⟩)) := block_cell h.bx 2 _ rfl
 have HMr := hid (manyRoute_any w B s 0 TT 0 6 (routeR s.data.toList) (fun _ => True) (fun _ _ _ _ => trivial) h trivial (by omega) (fun W i hR _ => rroute_any W B s i TT hR))
 obtain ⟨N, hN⟩ : ∃ N, readB s.data.toList = N := ⟨_, rfl⟩
 rw [hN]
 have HN := hid hN
 clear h hT hN
 go_enter Tryz.func47, Tryz.ntmps47
 go_wp2_with fail
 refine HMr.o.mono ?_
 intro e w1 hp
 clear b2
 cases h1 : manyR s.data.toList 0 6 (routeR s.data.toList) 0 with
 | none =>
  rw [h1] at hp
  obtain ⟨he, hf⟩ := hp
  have eN : N = none := by rw [<- HN.o]; unfold readB; rw [h1]
  subst eN
  unfold noE at he
  subst he
  exact ⟨rfl, rfl, HS0.o.fr.trans (hf.mono (fun _ hk => .inl hk))⟩
 | some p1 =>
  obtain ⟨rts, i⟩ := p1
  rw [h1] at hp
  obtain ⟨⟨v, rfl, hv⟩, hR1, hf1⟩ := hp
  have H1 := hid h1
  have hr6 : rts.length <= 6 := by have := (manyR_some (P := fun _ : RouteM => True) (fun _ _ _ _ => trivial) h1).2.1; omega
  obtain ⟨ra, rc, e1⟩ := ownsRow_len hv
  subst e1
  have HSa := hid (HS0.o.call hR1 hf1)
  have HSb := hid (HSa.o.set 0 (.slice ra rts.length rc) rfl)
  have HVr := hid (own_tset hv hTl 0 (.slice ra rts.length rc))
  have z0 := block_cell HSa.o.bx 0 _ rfl
  have f0 := block_frozen HSa.o.bx 0
  clear h1 hv hR1 hf1 HMr HS0 HSa
  go_upto_region 2 with fail
  clear z0 f0
  generalize w1.setCell ⟨TT, 0, none⟩ (.slice ra rts.length rc) = W1 at *
  have HMn := hid (manyStr_any W1 B s i TT 0 8 (nameR s.data.toList) (fun _ => True) (fun _ _ _ _ => trivial) HSb.o.rd trivial (by omega) (fun W i hR _ => rname_any W B s i TT hR))
  have hW1 := HSb.o.fr.size
  go_wp2_with fail
  refine HMn.o.mono ?_
  intro e w2 hp
  cases h2 : manyR s.data.toList 0 8 (nameR s.data.toList) i with
  | none =>
   rw [h2] at hp
   obtain ⟨he, hf⟩ := hp
   have eN : N = none := by rw [<- HN.o]; unfold readB; rw [H1.o]; simp only [h2]
   subst eN
   unfold noE at he
   subst he
   exact ⟨rfl, rfl, HSb.o.fr.trans (hf.mono (fun _ hk => .inl hk))⟩
  | some p2 =>
   obtain ⟨nms, j⟩ := p2
   rw [h2] at hp
   obtain ⟨⟨v, rfl, hv⟩, hR2, hf2⟩ := hp
   have H2 := hid h2
   have hn8 : nms.length <= 8 := by have := (manyR_some (P := fun _ : ByteArray => True) (fun _ _ _ _ => trivial) h2).2.1; omega
   have hv := ownsRow_base hv hW1
   obtain ⟨na, nc, e1⟩ := ownsRow_len hv
   subst e1
   have HSc := hid (HSb.o.call hR2 hf2)
   have HSd := hid (HSc.o.set 1 (.slice na nms.length nc) rfl)
   have HVn := hid (own_tset hv hTl 1 (.slice na nms.length nc))
   have HVr2 := hid (own_tset (ownsRow_fr HVr.o hf2 (fun k hk => by have := HSb.o.lB; omega)) hTl 1 (.slice na nms.length nc))
   have z0 := block_cell HSc.o.bx 1 _ rfl
   have f0 := block_frozen HSc.o.bx 1
   clear h2 hv hR2 hf2 HMn HSb HSc HVr
   go_upto_region 3 with fail
   clear z0 f0
   generalize w2.setCell ⟨TT, 1, none⟩ (.slice na nms.length nc) = W2 at *
   have q0 : W2.cell? ⟨TT, 0, none⟩ = some (.slice ra rts.length rc) := block_cell HSd.o.bx 0 _ rfl
   have HRn := hid (routeNames_any W2 ra rts.length rc rts (rtsAt_own HVr2.o) rfl hr6)
   go_wp2_with fail
   refine HRn.o.mono ?_
   rintro e w3 ⟨⟨v, rfl, hv3⟩, hf3⟩
   obtain ⟨va, vc, rfl, hs3⟩ := strsAt_str hv3 (by rw [List.length_map])
   have HD1 := hid (differ_any w3 va rts.length vc (rts.map RouteM.name) hs3 (by rw [List.length_map]) (by omega))
   have HSe := hid (HSd.o.look hf3)
   have HVn3 := hid (ownsRow_fr HVn.o hf3 (by simp))
   have HVr3 := hid (ownsRow_fr HVr2.o hf3 (by simp))
   have hW3 := HSe.o.fr.size
   clear hv3 hf3 hs3 HRn HVn HVr2 HSd q0
   go_wp2_with fail
   refine HD1.o.mono ?_
   rintro e w4 ⟨rfl, hw⟩
   replace hw := hw.symm
   subst hw
   clear HD1
   cases hd1 : differB (rts.map RouteM.name) with
   | false =>
    have eN : N = none := by rw [<- HN.o]; unfold readB; rw [H1.o]; simp only [H2.o, hd1]; rfl
    subst eN
    go_wp2_with fail
    refine (insist_no _).mono ?_
    rintro e w4 ⟨he, hw⟩
    replace hw := hw.symm
    subst hw
    unfold noE at he
    subst he
    exact ⟨rfl, rfl, HSe.o.fr⟩
   | true =>
    have q1 : w3.cell? ⟨TT, 1, none⟩ = some (.slice na nms.length nc) := block_cell HSe.o.bx 1 _ rfl
    obtain ⟨xa, xc, ex, hsn⟩ := strsAt_str HVn3.o rfl
    injection ex with ex1 _ ex3
    subst ex1 ex3
    have HD2 := hid (differ_any w3 na nms.length nc nms hsn rfl (by omega))
    clear hsn
    go_wp2_with fail
    refine HD2.o.mono ?_
    rintro e w4 ⟨rfl, hw⟩
    replace hw := hw.symm
    subst hw
    clear HD2 q1
    cases hd2 : differB nms with
    | false =>
     have eN : N = none := by rw [<- HN.o]; unfold readB; rw [H1.o]; simp only [H2.o, hd1, hd2]; rfl
     subst eN
     go_wp2_with fail
     refine (insist_no _).mono ?_
     rintro e w4 ⟨he, hw⟩
     replace hw := hw.symm
     subst hw
     unfold noE at he
     subst he
     exact ⟨rfl, rfl, HSe.o.fr⟩
    | true =>
     have c0 : w3.cell? ⟨TT, 0, none⟩ = some (.slice ra rts.length rc) := block_cell HSe.o.bx 0 _ rfl
     have c1 : w3.cell? ⟨TT, 1, none⟩ = some (.slice na nms.length nc) := block_cell HSe.o.bx 1 _ rfl
     have HMp := hid (manyProg_any w3 B s j TT 1 255 ra rts.length rc na nms.length nc HSe.o.rd hne c0 c1 hr6 hn8 (by omega))
     have HN5 : Hid ((match manyR s.data.toList 1 255 (progR s.data.toList rts.length nms.length) j with | none => none | some (prs, k) => match nodeR s.data.toList prs.length 7 k with | none => none | some (t, l) => some ((⟨rts, nms, prs, t⟩ : TrD), l)) = N) := by
      show _ = _
      rw [<- HN.o]
      unfold readB
      rw [H1.o]
      simp only [H2.o, hd1, hd2, Bool.and_self, if_true]
     clear hd1 hd2 c0 c1 HN H1 H2
     go_wp2_with fail
     refine (insist_yes _).mono ?_
     rintro e w4 ⟨rfl, hw⟩
     replace hw := hw.symm
     subst hw
     go_wp2_with fail
     refine HMp.o.mono ?_
     intro e w5 hp
     cases h3 : manyR s.data.toList 1 255 (progR s.data.toList rts.length nms.length) j with
     | none =>
      rw [h3] at hp
      obtain ⟨he, hf⟩ := hp
      have eN : N = none := by rw [<- HN5.o, h3]
      subst eN
      unfold noE at he
      subst he
      exact ⟨rfl, rfl, HSe.o.fr.trans (hf.mono (fun _ hk => .inl hk))⟩
     | some p3 =>
      obtain ⟨prs, k⟩ := p3
      rw [h3] at hp
      obtain ⟨⟨v, rfl, hv⟩, hR5, hf5⟩ := hp
      have HN6 : Hid ((match nodeR s.data.toList prs.length 7 k with | none => none | some (t, l) => some ((⟨rts, nms, prs, t⟩ : TrD), l)) = N) := by show _ = _; rw [<- HN5.o, h3]
      have hp255 : prs.length <= 255 := by have := (manyR_some (P := fun _ : List StepM => True) (fun _ _ _ _ => trivial) h3).2.1; omega
      have hv := hv.base hW3
      obtain ⟨xs, hxs, _⟩ := id hv
      obtain ⟨pa, pc, e1⟩ := ownsRow_len hxs
      subst e1
      have HSf := hid (HSe.o.call hR5 hf5)
      have HSg := hid (HSf.o.set 2 (.slice pa prs.length pc) rfl)
      have hfs : Fr (fun q => q = TT) w5 (w5.setCell ⟨TT, 2, none⟩ (.slice pa prs.length pc)) := (Fr.refl (fun q => q = TT) w5).setCell (p := ⟨TT, 2, none⟩) (Or.inl rfl) _
      have hB5 := HSe.o.lB
      have HVp := hid (hv.fr hfs (fun q hq => by omega))
      have HVn5 := hid (own_tset (ownsRow_fr HVn3.o hf5 (fun q hq => by omega)) hTl 2 (.slice pa prs.length pc))
      have HVr5 := hid (own_tset (ownsRow_fr HVr3.o hf5 (fun q hq => by omega)) hTl 2 (.slice pa prs.length pc))
      have z0 := block_cell HSf.o.bx 2 _ rfl
      have f0 := block_frozen HSf.o.bx 2
      clear h3 hv hxs hR5 hf5 hfs HMp HSe HSf HVn3 HVr3 HN5
      go_upto_region 5 with fail
      clear z0 f0
      generalize w5.setCell ⟨TT, 2, none⟩ (.slice pa prs.length pc) = W5 at *
      have HNd : Hid (Calls Tryz.prog 87 #[.pointer (some ⟨B, 0, none⟩), .int .i64 0] W5 (ndP W5 B s TT (nodeR s.data.toList prs.length 7 k))) := rnode_any B s TT prs.length pa pc hne hp255 6 (by omega) W5 k HSg.o.rd (block_cell HSg.o.bx 2 _ rfl)
      go_wp2_with fail
      refine HNd.o.mono ?_
      intro e w6 hp
      unfold ndP at hp
      cases h4 : nodeR s.data.toList prs.length 7 k with
      | none =>
       rw [h4] at hp
       obtain ⟨he, hf⟩ := hp
       have eN : N = none := by rw [<- HN6.o, h4]
       subst eN
       unfold noE at he
       subst he
       exact ⟨rfl, rfl, HSg.o.fr.trans (hf.mono (fun _ hk => .inl hk))⟩
      | some p4 =>
       obtain ⟨t, l⟩ := p4
       rw [h4] at hp
       obtain ⟨⟨v, rfl, a, b, rfl, htr⟩, hR6, hf6⟩ := hp
       have eN : N = some (⟨rts, nms, prs, t⟩, l) := by rw [<- HN6.o, h4]
       subst eN
       have hW5 := HSg.o.fr.size
       have htr := TrAt.low hW5 _ _ htr
       obtain ⟨ka, kb, rfl, rfl⟩ := TrAt.form htr
       have HSh := hid (HSg.o.call hR6 hf6)
       have HSi := hid ((HSh.o.set 3 (.pointer ka) rfl).set 4 (.int .i64 (kb : Nat)) rfl)
       have hfs : Fr (fun q => q = TT) w6 ((w6.setCell ⟨TT, 3, none⟩ (.pointer ka)).setCell ⟨TT, 4, none⟩ (.int .i64 (kb : Nat))) := ((Fr.refl (fun q => q = TT) w6).setCell (p := ⟨TT, 3, none⟩) (Or.inl rfl) _).setCell (p := ⟨TT, 4, none⟩) (Or.inl rfl) _
       have HTr := hid (htr.keep' hfs (fun q hq => by omega))
       have HVp6 := hid ((HVp.o.fr hf6 (fun q hq => by omega)).fr hfs (fun q hq => by omega))
       have HVn6 := hid (own_tset (own_tset (ownsRow_fr HVn5.o hf6 (fun q hq => by omega)) hTl 3 (.pointer ka)) hTl 4 (.int .i64 (kb : Nat)))
       have HVr6 := hid (own_tset (own_tset (ownsRow_fr HVr5.o hf6 (fun q hq => by omega)) hTl 3 (.pointer ka)) hTl 4 (.int .i64 (kb : Nat)))
       have z0 := block_cell HSh.o.bx 3 _ rfl
       have z1 := block_cell HSh.o.bx 4 _ rfl
       have f0 := block_frozen HSh.o.bx 3
       have f1 := block_frozen HSh.o.bx 4
       clear h4 htr hR6 hf6 hfs HNd HSg HSh HVp HVn5 HVr5 HN6
       go_wp2_with fail
       go_end0
       refine ⟨rfl, HSi.o.rd, ⟨ra, rc, ⟨⟨_, _, _, _, HSi.o.bx, HVn6.o, HVp6.o, HTr.o⟩, ownsRow_base HVr6.o (by omega)⟩, HVr6.o⟩, HSi.o.fr⟩
end Go.Proofs.YtccikgogjfbpeabGreatDoor

namespace Go.Proofs.YtccikgogjfbpeabGreatDoor
open Go.RowKit
def halfT : List Int := halfL.map fun (n : Nat) => (n : Int)
def Hal (w : World) : Prop := Lib.TabIs Tryz.prog w "junction/seal.halves" .u32 halfT
theorem Hal.fr {w w' : World} (h : Hal w) (hf : F0 w w') : Hal w' := Lib.tabBelow_of_tabIs h w' (hf.below (Nat.le_refl _) (by simp))
theorem gHal : Tryz.prog.globalNamed "junction/seal.halves" = some 0 := by kernel_rfl
theorem Hal.cell {w : World} (h : Hal w) (i : Nat) (hi : i < 16) : w.cell? ⟨0, i, none⟩ = some (.int .u32 ((halfL.getD i 0 : Nat) : Int)) := by
 have e := Lib.TabIs.cell h gHal i (by simpa [halfT, halfL] using hi)
 rw [e]
 congr 2
 unfold halfT
 rw [List.getD, List.getElem?_map, List.getD]
 cases halfL[i]? <;> rfl
theorem bits_xor_u32_nat (a b : Nat) (ha : a < 4294967296) (hb : b < 4294967296) : bits .xor .u32 (a : Int) (b : Int) = ((a ^^^ b : Nat) : Int) := by
 have hx : a ^^^ b < 2 ^ 32 := Nat.xor_lt_two_pow (by omega) (by omega)
 have h1 : (BitVec.ofInt 32 (a : Int)).toNat = a := by
  rw [BitVec.ofInt_natCast, BitVec.toNat_ofNat]; exact Nat.mod_eq_of_lt (by omega)
 have h2 : (BitVec.ofInt 32 (b : Int)).toNat = b := by
  rw [BitVec.ofInt_natCast, BitVec.toNat_ofNat]; exact Nat.mod_eq_of_lt (by omega)
 show IntKind.u32.wrap ((BitVec.ofInt 32 (a : Int) ^^^ BitVec.ofInt 32 (b : Int)).toNat : Int) = _
 rw [BitVec.toNat_xor, h1, h2]
 exact IntWalk.u32_in _ (by constructor <;> omega)
theorem bits_and_u32_15 (a : Nat) (ha : a < 4294967296) : bits .and .u32 (a : Int) 15 = ((a % 16 : Nat) : Int) := by
 have h1 : (BitVec.ofInt 32 (a : Int)).toNat = a := by
  rw [BitVec.ofInt_natCast, BitVec.toNat_ofNat]; exact Nat.mod_eq_of_lt (by omega)
 show IntKind.u32.wrap ((BitVec.ofInt 32 (a : Int) &&& BitVec.ofInt 32 15).toNat : Int) = _
 rw [BitVec.toNat_and, h1, show (BitVec.ofInt 32 15).toNat = 2 ^ 4 - 1 from by decide, Nat.and_two_pow_sub_one_eq_mod]
 exact IntWalk.u32_in _ (by constructor <;> omega)
theorem crc_lt : ∀ (l : List UInt8) {r : Nat}, r < 4294967296 -> crc r l < 4294967296
 | [], _, h => h
 | c :: l, r, h => crc_lt l (tn_lt 8 (Nat.xor_lt_two_pow (n := 32) h (by have : c.toNat < 256 := c.toNat_lt; omega)))
theorem crc_snoc (l : List UInt8) (c : UInt8) : ∀ r, crc r (l ++ [c]) = tn 8 (crc r l ^^^ c.toNat) := by
 induction l with
 | nil => intro r; rfl
 | cons d l ih => intro r; exact ih _
theorem half_lt (i : Nat) (hi : i < 16) : halfL.getD i 0 < 4294967296 := by
 have : i = 0 \/ i = 1 \/ i = 2 \/ i = 3 \/ i = 4 \/ i = 5 \/ i = 6 \/ i = 7 \/ i = 8 \/ i = 9 \/ i = 10 \/ i = 11 \/ i = 12 \/ i = 13 \/ i = 14 \/ i = 15 := by omega
 rcases this with h | h | h | h | h | h | h | h | h | h | h | h | h | h | h | h <;> rw [h] <;> decide
theorem half_step {W : World} (h : Hal W) (y : Nat) (hy : y < 4294967296) : ∃ v : Nat, W.cell? ⟨0, y % 16, none⟩ = some (.int .u32 (v : Nat)) /\ bits .xor .u32 ((y : Int) / 16) (v : Int) = ((tn 4 y : Nat) : Int) := by
 refine ⟨halfL.getD (y % 16) 0, h.cell _ (by omega), ?_⟩
 rw [show ((y : Int) / 16) = ((y / 16 : Nat) : Int) from by simp, bits_xor_u32_nat _ _ (by omega) (half_lt _ (by omega)), half_eq]
def sumM (l : List UInt8) : Nat := 4294967295 ^^^ crc 4294967295 l
set_option maxRecDepth 30000 in
set_option maxHeartbeats 1000000 in
theorem ssum_any (s : ByteArray) (w : World) (hs : s.size <= 200000) (hH : Hal w) :
  Calls Tryz.prog 78 #[.string s] w fun e w' => e = .returned (.int .u32 (sumM s.data.toList : Nat)) /\ F0 w w' := by
 have hcv := fun w => Lib.run_convert_string_bytes (P := Tryz.prog) w 9 104 5 s Tryz.underlying9 Tryz.underlying104 Tryz.underlying5
 have HH := hid hH
 obtain ⟨l, hl⟩ : ∃ l, s.data.toList = l := ⟨_, rfl⟩
 have HL := hid hl
 have hln : l.length = s.size := by rw [<- hl]; simp
 rw [hl]
 clear hl
 clear hH
 go_enter Tryz.func78, Tryz.ntmps78
 go_wp2_with fail
 have HF : Hid (F0 w (Lib.bytesWorld w 5 s)) := bytesWorld_fr _ _ _
 have HHw := hid (HH.o.fr HF.o)
 have hcell : ∀ j, j < s.size -> (Lib.bytesWorld w 5 s).cell? ⟨w.heap.size, j, none⟩ = some (.int .u8 (bAt s j)) := fun j hj => by
  have := Lib.bytesWorld_cell w 5 s j hj
  simpa [bAt] using this
 have HC := hid hcell
 clear hcell hcv HH
 generalize Lib.bytesWorld w 5 s = W at *
 generalize grownCap _ _ _ _ = cap at *
 go_loop [3, 5, 9] (fun rv _ i => ∃ (k r : Nat), k <= s.size /\ i = .int .i64 k /\ rv = .int .u32 (r : Nat) /\ r < 4294967296 /\ Hid (r = crc 4294967295 (l.take k))) (fun _ _ i => s.size - (intOf i).toNat)
 case atStart => exact ⟨0, 4294967295, Nat.zero_le _, rfl, rfl, by omega, rfl⟩
 case round =>
  obtain ⟨k, r, hk, rfl, rfl, hr, HR⟩ := hrel
  by_cases hlt : k < s.size
  ·have hc := HC.o k hlt
   have hki : (k : Int) < (s.size : Int) := by omega
   obtain ⟨c, hcc⟩ : ∃ c, l[k]? = some c := ⟨_, List.getElem?_eq_getElem (by omega)⟩
   have ebc : bAt s k = (c.toNat : Int) := by unfold bAt; rw [HL.o]; simp [List.getD, hcc]
   rw [ebc] at hc
   have hcl : c.toNat < 256 := c.toNat_lt
   have HN : Hid (crc 4294967295 (l.take (k + 1)) = tn 8 (r ^^^ c.toNat)) := by
    show _ = _
    rw [List.take_add_one, hcc, HR.o]
    exact crc_snoc _ _ _
   generalize c.toNat = cn at *
   have x1 := bits_xor_u32_nat r cn hr (by omega)
   have hx1 : r ^^^ cn < 4294967296 := Nat.xor_lt_two_pow (n := 32) (by omega) (by omega)
   generalize r ^^^ cn = y at *
   have a1 := bits_and_u32_15 y hx1
   obtain ⟨v1, c1, x2⟩ := half_step HHw.o y hx1
   have hz : tn 4 y < 4294967296 := tn_lt 4 hx1
   have HZ : Hid (tn 8 y = tn 4 (tn 4 y)) := tn_add 4 4 y
   generalize tn 4 y = z at *
   have a2 := bits_and_u32_15 z hz
   obtain ⟨v2, c2, x3⟩ := half_step HHw.o z hz
   have hz4 : tn 4 z < 4294967296 := tn_lt 4 hz
   have HN2 : Hid (tn 4 z = crc 4294967295 (l.take (k + 1))) := by show _ = _; rw [HN.o, HZ.o]
   generalize tn 4 z = z2 at *
   have m1 : ((y : Int) % 16) < 16 := by omega
   have m2 : ((z : Int) % 16) < 16 := by omega
   have m3 : 0 <= ((y : Int) % 16) := by omega
   have m4 : 0 <= ((z : Int) % 16) := by omega
   clear hcc ebc HN HZ HR
   go_wp2_with fail
   exact ⟨⟨k + 1, z2, by omega, by go_num, rfl, hz4, HN2⟩, by simp [intOf]; omega⟩
  ·have hki : ¬ (k : Int) < (s.size : Int) := by omega
   have er : r = crc 4294967295 l := by rw [HR.o, List.take_of_length_le (by omega)]
   have x1 : bits .xor .u32 IntKind.u32.max (r : Int) = ((4294967295 ^^^ r : Nat) : Int) := bits_xor_u32_nat 4294967295 r (by omega) hr
   have HS : Hid (4294967295 ^^^ r = sumM l) := by show _ = _; rw [er]; rfl
   clear er HR
   generalize 4294967295 ^^^ r = q at *
   go_wp2_with fail
   go_ret
   rw [HS.o]
   exact ⟨rfl, HF.o⟩
end Go.Proofs.YtccikgogjfbpeabGreatDoor
