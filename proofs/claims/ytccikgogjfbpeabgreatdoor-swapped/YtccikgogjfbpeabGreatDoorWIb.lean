/- The reader of images: a route. The reader of images: many: names, routes, numbers. -/
import Derived.Test.YtccikgogjfbpeabGreatDoorWHa
import Derived.Test.YtccikgogjfbpeabGreatDoorWIa
import Derived.Test.YtccikgogjfbpeabGreatDoorWDf
namespace Go.Proofs.YtccikgogjfbpeabGreatDoor
open Go.RowKit
theorem RdAt.set {w : World} {B i TT : Nat} {s : ByteArray} (h : RdAt w B s i TT) {X : Nat} (o : Nat) (v : Value) (hne : X ≠ B) : RdAt (w.setCell ⟨X, o, none⟩ v) B s i TT :=
 h.fr (S := fun k => k = X) ((Fr.refl (fun k => k = X) w).setCell (p := ⟨X, o, none⟩) (Or.inl rfl) v) (fun e => hne e.symm)
def rtV (x : RouteM) : Value := .agg #[.string x.name, .int .i64 (x.base : Nat), .int .i64 (x.rate : Nat)]
set_option maxRecDepth 30000 in
set_option maxHeartbeats 1000000 in
theorem rroute_any (w : World) (B : Nat) (s : ByteArray) (i TT : Nat) (h : RdAt w B s i TT) :
  Calls Tryz.prog 80 #[.pointer (some ⟨B, 0, none⟩)] w (RdP w B s TT (routeR s.data.toList i) fun _ v x => v = rtV x) := by
 obtain ⟨W0, hW0⟩ : ∃ W0, (w.alloc (.cells #[.string ⟨#[]⟩, .int .i64 0, .int .i64 0] 144)).alloc (.cells #[.string ⟨#[]⟩, .int .i64 0, .int .i64 0] 144) = W0 := ⟨_, rfl⟩
 obtain ⟨P, hP⟩ : ∃ P, w.heap.size = P := ⟨_, rfl⟩
 have hBl : B < P := by rw [<- hP]; exact (Array.getElem?_eq_some_iff.1 h.bx).1
 have HF0 : Hid (Fr (fun k => k = B) w W0) := by show Fr _ _ _; rw [<- hW0]; exact ((Fr.refl _ _).alloc _).alloc _
 have HX2 : Hid (W0.heap[P]? = some (.cells #[.string ⟨#[]⟩, .int .i64 0, .int .i64 0] 144)) := by
  show _ = _
  rw [<- hW0, <- hP]
  exact ((Fr.refl (fun _ => False) _).alloc _).whole (heap_alloc_new w _) (by simp)
 have HX3 : Hid (W0.heap[P + 1]? = some (.cells #[.string ⟨#[]⟩, .int .i64 0, .int .i64 0] 144)) := by
  show _ = _
  rw [<- hW0, <- hP]
  have e := heap_alloc_new (w.alloc (.cells #[.string ⟨#[]⟩, .int .i64 0, .int .i64 0] 144)) (.cells #[.string ⟨#[]⟩, .int .i64 0, .int .i64 0] 144)
  simpa using e
 have HR0 : Hid (RdAt W0 B s i TT) := by show RdAt _ _ _ _ _; rw [<- hW0]; exact h.fr (S := fun _ => False) (((Fr.refl _ _).alloc _).alloc _) (by simp)
 have HPw : Hid (w.heap.size = P) := hP
 obtain ⟨N, hN⟩ : ∃ N, routeR s.data.toList i = N := ⟨_, rfl⟩
 rw [hN]
 have HN := hid hN
 clear h hN
 go_enter Tryz.func80, Tryz.ntmps80
 go_upto_region 2 with fail
 clear hP hW0
 go_wp2_with fail
 refine (rname_any W0 B s i TT HR0.o).mono ?_
 intro e w1 hp
 cases h1 : nameR s.data.toList i with
 | none =>
  rw [h1] at hp
  obtain ⟨he, hf⟩ := hp
  have eN : N = none := by rw [<- HN.o]; unfold routeR; rw [h1]
  subst eN
  unfold noE at he
  subst he
  exact ⟨rfl, rfl, HF0.o.monoNew (hf) (fun k hk => by first | exact .inl hk | exact hk.imp id (fun h => by rw [HPw.o]; omega))⟩
 | some nj =>
  obtain ⟨nm, j⟩ := nj
  rw [h1] at hp
  obtain ⟨⟨v, rfl, rfl⟩, hR1, hf1⟩ := hp
  have H1 := hid h1
  have HF1 := hid hf1
  have b3 := hf1.whole HX3.o (by show ¬ P + 1 = B; omega)
  have c0 := block_cell b3 0 _ rfl
  have z0 := block_frozen b3 0
  have b3' := heap_setCell_same w1 (P + 1) 0 _ _ (.string nm) b3
  have HR1 := hid (hR1.set 0 (.string nm) (show P + 1 ≠ B by omega))
  have HB3 := hid b3'
  have HG1 : Hid (Fr (fun k => k = B \/ P + 1 = k) W0 (w1.setCell ⟨P + 1, 0, none⟩ (.string nm))) := (hf1.mono (fun k hk => .inl hk)).setCell (p := ⟨P + 1, 0, none⟩) (.inl (.inr rfl)) _
  clear h1 hR1 hf1 b3 b3' HF1
  go_upto_region 3 with fail
  clear c0 z0
  generalize w1.setCell ⟨P + 1, 0, none⟩ (.string nm) = W1 at *
  go_wp2_with fail
  refine (rnumber_any W1 B s j TT 4 4 0 1000000 HR1.o (by decide) rfl).mono ?_
  intro e w2 hp
  cases h2 : numR s.data.toList 4 0 1000000 j with
  | none =>
   rw [h2] at hp
   obtain ⟨he, hf⟩ := hp
   have eN : N = none := by rw [<- HN.o]; unfold routeR; rw [H1.o]; simp only [h2]
   subst eN
   unfold noE at he
   subst he
   exact ⟨rfl, rfl, HF0.o.monoNew (HG1.o.trans (hf.mono (fun k hk => .inl hk))) (fun k hk => by first | exact .inl hk | exact hk.imp id (fun h => by rw [HPw.o]; omega))⟩
  | some xk =>
   obtain ⟨x, k⟩ := xk
   rw [h2] at hp
   obtain ⟨⟨v, rfl, rfl⟩, hR2, hf2⟩ := hp
   have H2 := hid h2
   have b3 := hf2.whole HB3.o (by show ¬ P + 1 = B; omega)
   have c1 := block_cell b3 1 _ rfl
   have z1 := block_frozen b3 1
   have b3' := heap_setCell_same w2 (P + 1) 1 _ _ (.int .i64 (x : Nat)) b3
   have HR2 := hid (hR2.set 1 (.int .i64 (x : Nat)) (show P + 1 ≠ B by omega))
   have HB3' := hid b3'
   have HG2 : Hid (Fr (fun k => k = B \/ P + 1 = k) W0 (w2.setCell ⟨P + 1, 1, none⟩ (.int .i64 (x : Nat)))) := (HG1.o.trans (hf2.mono (fun k hk => .inl hk))).setCell (p := ⟨P + 1, 1, none⟩) (.inl (.inr rfl)) _
   clear h2 hR2 hf2 b3 b3' HB3 HR1 HG1
   go_upto_region 4 with fail
   clear c1 z1
   generalize w2.setCell ⟨P + 1, 1, none⟩ (.int .i64 (x : Nat)) = W2 at *
   go_wp2_with fail
   refine (rnumber_any W2 B s k TT 4 4 0 1000 HR2.o (by decide) rfl).mono ?_
   intro e w3 hp
   cases h3 : numR s.data.toList 4 0 1000 k with
   | none =>
    rw [h3] at hp
    obtain ⟨he, hf⟩ := hp
    have eN : N = none := by rw [<- HN.o]; unfold routeR; rw [H1.o]; simp only [H2.o, h3]
    subst eN
    unfold noE at he
    subst he
    exact ⟨rfl, rfl, HF0.o.monoNew (HG2.o.trans (hf.mono (fun k hk => .inl hk))) (fun k hk => by first | exact .inl hk | exact hk.imp id (fun h => by rw [HPw.o]; omega))⟩
   | some ym =>
    obtain ⟨y, m⟩ := ym
    rw [h3] at hp
    obtain ⟨⟨v, rfl, rfl⟩, hR3, hf3⟩ := hp
    have eN : N = some (⟨nm, x, y⟩, m) := by rw [<- HN.o]; unfold routeR; rw [H1.o]; simp only [H2.o, h3]
    subst eN
    have b3 := hf3.whole HB3'.o (by show ¬ P + 1 = B; omega)
    have c2 := block_cell b3 2 _ rfl
    have z2 := block_frozen b3 2
    have b3' := heap_setCell_same w3 (P + 1) 2 _ _ (.int .i64 (y : Nat)) b3
    have HR3 := hid (hR3.set 2 (.int .i64 (y : Nat)) (show P + 1 ≠ B by omega))
    have HB4 := hid b3'
    have HG3 : Hid (Fr (fun k => k = B \/ P + 1 = k) W0 (w3.setCell ⟨P + 1, 2, none⟩ (.int .i64 (y : Nat)))) := (HG2.o.trans (hf3.mono (fun k hk => .inl hk))).setCell (p := ⟨P + 1, 2, none⟩) (.inl (.inr rfl)) _
    clear h3 hR3 hf3 b3 b3' HB3' HR2 HG2
    go_upto_region 5 with fail
    clear c2 z2
    generalize w3.setCell ⟨P + 1, 2, none⟩ (.int .i64 (y : Nat)) = W3 at *
    have b2 := HG3.o.whole HX2.o (by show ¬ (P = B \/ P + 1 = P); omega)
    have q0 : W3.cell? ⟨P + 1, 0, none⟩ = some (.string nm) := block_cell HB4.o 0 _ rfl
    have q1 : W3.cell? ⟨P + 1, 1, none⟩ = some (.int .i64 (x : Nat)) := block_cell HB4.o 1 _ rfl
    have q2 : W3.cell? ⟨P + 1, 2, none⟩ = some (.int .i64 (y : Nat)) := block_cell HB4.o 2 _ rfl
    have o0 := block_cell b2 0 _ rfl
    have o1 := block_cell b2 1 _ rfl
    have o2 := block_cell b2 2 _ rfl
    have fo0 := block_frozen b2 0
    have fo1 := block_frozen b2 1
    have fo2 := block_frozen b2 2
    have HB2 := hid b2
    clear b2
    go_wp2_with fail
    have e3 := set3 (v0 := .string nm) (v1 := .int .i64 (x : Nat)) (v2 := .int .i64 (y : Nat)) HB2.o
    have s0 := block_cell e3 0 _ rfl
    have s1 := block_cell e3 1 _ rfl
    have s2 := block_cell e3 2 _ rfl
    refine bodyPost_ret (v := .agg #[.string nm, .int .i64 (x : Nat), .int .i64 (y : Nat)]) (by simp [results, Tryz.results80, go_sem, s0, s1, s2]) rfl ⟨⟨_, rfl, rfl⟩, ((HR3.o.set 0 _ (show P ≠ B by omega)).set 1 _ (show P ≠ B by omega)).set 2 _ (show P ≠ B by omega), ?_⟩
    refine HF0.o.monoNew (T := fun k => k = B \/ P <= k) ?_ (fun k hk => hk.imp id (fun h => by rw [HPw.o]; exact h))
    exact (((HG3.o.mono (T := fun k => k = B \/ P <= k) (fun k hk => hk.imp id (fun h => by omega))).setCell (p := ⟨P, 0, none⟩) (.inl (.inr (Nat.le_refl _))) _).setCell (p := ⟨P, 1, none⟩) (.inl (.inr (Nat.le_refl _))) _).setCell (p := ⟨P, 2, none⟩) (.inl (.inr (Nat.le_refl _))) _
end Go.Proofs.YtccikgogjfbpeabGreatDoor

namespace Go.Proofs.YtccikgogjfbpeabGreatDoor
open Go.RowKit
def restR {α : Type} (one : Rd α) (xs : List α) (m j : Nat) : Option (List α × Nat) := (timesR one m j).map fun p => (xs ++ p.1, p.2)
theorem rest_none {α : Type} {one : Rd α} {xs : List α} {m j : Nat} (h : one j = none) : restR one xs (m + 1) j = none := by unfold restR; simp only [timesR, h, Option.map_none]
theorem rest_some {α : Type} {one : Rd α} {xs : List α} {m j k : Nat} {x : α} (h : one j = some (x, k)) : restR one xs (m + 1) j = restR one (xs ++ [x]) m k := by
 unfold restR
 simp only [timesR, h]
 cases timesR one m k with
 | none => rfl
 | some p => simp
theorem rest_end {α : Type} {one : Rd α} {xs : List α} {j : Nat} : restR one xs 0 j = some (xs, j) := by simp [restR, timesR]
theorem many_rest {α : Type} {b : List UInt8} {lo hi : Int} {one : Rd α} {i n j : Nat} (h : numR b 1 lo hi i = some (n, j)) : manyR b lo hi one i = restR one [] n j := by
 unfold manyR restR
 rw [h]
 show timesR one n j = _
 cases timesR one n j <;> simp
theorem many_none {α : Type} {b : List UInt8} {lo hi : Int} {one : Rd α} {i : Nat} (h : numR b 1 lo hi i = none) : manyR b lo hi one i = none := by
 unfold manyR
 rw [h]
theorem Tryz.infoIeS : (Tryz.prog.info? 9).map (fun i => (i.zero, i.size, i.bytes)) = some (some (.string ByteArray.empty), 1, 16) := by kernel_rfl
theorem Tryz.infoIeR : (Tryz.prog.info? 144).map (fun i => (i.zero, i.size, i.bytes)) = some (some (.agg #[.string ByteArray.empty, .int .i64 0, .int .i64 0]), 3, 32) := by kernel_rfl
theorem Tryz.infoIeI : (Tryz.prog.info? 3).map (fun i => (i.zero, i.size, i.bytes)) = some (some (.int .i64 0), 1, 8) := by kernel_rfl
def strRow (l : List ByteArray) : List Value := l.map Value.string
theorem strRow_snoc (l : List ByteArray) (x : ByteArray) : strRow (l ++ [x]) = strRow l ++ [.string x] := by simp [strRow]
theorem rtRow_snoc' (l : List RouteM) (x : RouteM) : rtRow (l ++ [x]) = rtRow l ++ [.string x.name, .int .i64 (x.base : Nat), .int .i64 (x.rate : Nat)] := by simp [rtRow, rtCells]
theorem intRow_snoc' (l : List Nat) (x : Nat) : intRow (l ++ [x]) = intRow l ++ [.int .i64 (x : Nat)] := by simp [intRow]
set_option maxRecDepth 30000 in
set_option maxHeartbeats 1000000 in
theorem manyStr_any (w : World) (B : Nat) (s : ByteArray) (i TT : Nat) (lo hi : Int)  (one : Rd ByteArray) (Q : World -> Prop) (hQ : ∀ W W', Q W -> Fr (fun k => k = B) W W' -> Q W') (h : RdAt w B s i TT) (h0 : Q w) (hhi : hi <= 255)
  (HO : Hid (∀ W i, RdAt W B s i TT -> Q W -> Calls Tryz.prog 82 #[.pointer (some ⟨B, 0, none⟩)] W (RdP W B s TT (one i) fun _ v x => v = .string x))) :
  Calls Tryz.prog 81 #[.pointer (some ⟨B, 0, none⟩), .int .i64 lo, .int .i64 hi, .func (.func 82) #[.pointer (some ⟨B, 0, none⟩)] #[]] w (RdP w B s TT (manyR s.data.toList lo hi one i) fun w' v xs => w'.ownsRow w.heap.size 9 1 v xs.length (strRow xs)) := by
 obtain ⟨ij, hj', hy0, hy1, hy2⟩ := info_parts Tryz.infoIeS
 have HH := hid (rnumber_any w B s i TT 1 1 lo hi h (by decide) rfl)
 have hBl : B < w.heap.size := (Array.getElem?_eq_some_iff.1 h.bx).1
 have HQ := hid hQ
 have HQ0 := hid h0
 obtain ⟨N, hN⟩ : ∃ N, manyR s.data.toList lo hi one i = N := ⟨_, rfl⟩
 rw [hN]
 have HN := hid hN
 clear h hN hQ h0
 go_enter Tryz.func81, Tryz.ntmps81
 go_wp2_with fail
 refine HH.o.mono ?_
 intro e w1 hp
 clear HH
 cases h1 : numR s.data.toList 1 lo hi i with
 | none =>
  rw [h1] at hp
  obtain ⟨he, hf⟩ := hp
  have eN : N = none := by rw [<- HN.o]; exact many_none h1
  subst eN
  unfold noE at he
  subst he
  exact ⟨rfl, rfl, hf⟩
 | some nj =>
  obtain ⟨n, j⟩ := nj
  rw [h1] at hp
  obtain ⟨⟨v, rfl, rfl⟩, hR1, hf1⟩ := hp
  have HR1 := hid hR1
  have HF1 := hid hf1
  have hn : n <= 255 := by have := (numR_some h1).2; omega
  have HN1 : Hid (restR one [] n j = N) := by show _ = _; rw [<- HN.o]; exact (many_rest h1).symm
  clear h1 hR1 hf1 HN
  go_wp2_with fail
  go_loopg [9, 14] n (fun m ov kv wr => ∃ (k : Nat) (xs : List ByteArray) (jj : Nat), k <= n /\ m = n - k /\ kv = .int .i64 (k : Nat) /\ xs.length = k /\ Hid (RdAt wr B s jj TT) /\ Hid (wr.ownsRow w.heap.size 9 1 ov k (strRow xs)) /\ Hid (restR one xs (n - k) jj = N) /\ Hid (Fr (fun k => k = B) w wr))
  case atStart => exact ⟨0, [], j, by omega, rfl, rfl, rfl, HR1, World.ownsRow_nil _ _ _ _, HN1, HF1⟩
  case round =>
   obtain ⟨k, xs, jj, hk, rfl, rfl, hxs, HR, HOw, HNr, HFr⟩ := hrel
   obtain ⟨oa, oc, ho⟩ := ownsRow_len HOw.o
   subst ho
   by_cases hlt : k < n
   ·have hki : (k : Int) < (n : Int) := by omega
    have HN2 : Hid (restR one xs (n - (k + 1) + 1) jj = N) := by show _ = _; rw [show n - (k + 1) + 1 = n - k from by omega]; exact HNr.o
    clear HNr
    go_wp2_with fail
    refine (HO.o wr jj HR.o (HQ.o _ _ HQ0.o HFr.o)).mono ?_
    intro e w2 hp
    cases h2 : one jj with
    | none =>
     rw [h2] at hp
     obtain ⟨he, hf⟩ := hp
     have eN : N = none := by rw [<- HN2.o]; exact rest_none h2
     subst eN
     unfold noE at he
     subst he
     exact ⟨rfl, rfl, HFr.o.trans hf⟩
    | some xj =>
     obtain ⟨x, j3⟩ := xj
     rw [h2] at hp
     obtain ⟨⟨v, rfl, rfl⟩, hR2, hf2⟩ := hp
     have HR2 := hid hR2
     have HF2 := hid (HFr.o.trans hf2)
     have HO2 := hid (ownsRow_fr HOw.o hf2 (fun k hk => by omega))
     have HN3 : Hid (restR one (xs ++ [x]) (n - (k + 1)) j3 = N) := by show _ = _; rw [<- HN2.o]; exact (rest_some h2).symm
     clear h2 hR2 hf2 HN2 HOw HR HFr
     go_wp2_with (at_builtin; refine wpList_append_lies _ rfl (.tmp 16) (.tmp 19) 33 rfl w.heap.size 9 ij _ 1 16 Tryz.underlying33 hj' hy0 hy1 hy2 rfl (by decide) (.slice oa k oc) k (strRow xs) rfl ?h1 ⟨w2.heap.size, 0, none⟩ 1 1 [.string x] rfl rfl ?h2 ?h3 (by decide) ?h4 ?h5 ?h6 _ rfl ?h7)
     case h1 => exact HO2.o.alloc _
     try case h2 => exact World.news_of_block (heap_alloc_new w2 (.cells #[.string x] 9))
     case h3 => simp [Value.oneCell']
     case h4 => unfold maxLen; omega
     case h5 => omega
     case h6 => have := HF2.o.size; simp; omega
     case h7 =>
      intro g2 cap2 w8 hown hgrow hor _
      have HF8 : Hid (Fr (fun k => k = B) w w8) := (HF2.o.alloc _).grown hgrow (fun k hk => Or.inr (HO2.o.lt k hk).1)
      have HR8 : Hid (RdAt w8 B s j3 TT) := by
       have f : Fr (fun k' => (Value.slice oa k oc).ownBlock = some k') w2 w8 := ((Fr.refl _ _).alloc _).grown hgrow (fun k hk => .inl hk)
       exact HR2.o.fr f (fun hb => by have := (HO2.o.lt B hb).1; omega)
      have HO8 : Hid (w8.ownsRow w.heap.size 9 1 (.slice (some ⟨g2, 0, none⟩) (k + 1) cap2) (k + 1) (strRow (xs ++ [x]))) := by
       show World.ownsRow _ _ _ _ _ _ _
       rw [strRow_snoc]
       exact hown
      clear hown hgrow hor
      go_wp2_with fail
      go_roundg (n - (k + 1))
      case measure => omega
      case rel => exact ⟨k + 1, xs ++ [x], j3, by omega, rfl, by go_num, by simp [hxs], HR8, HO8, HN3, HF8⟩
   ·have hki : ¬ (k : Int) < (n : Int) := by omega
    have eN : N = some (xs, jj) := by
     have e := HNr.o
     rw [show n - k = 0 from by omega, rest_end] at e
     exact e.symm
    subst eN
    clear HNr
    go_wp2_with fail
    go_ret
    have ho := HOw.o
    rw [<- hxs] at ho ⊢
    exact ⟨⟨_, rfl, ho⟩, HR.o, HFr.o⟩
set_option maxRecDepth 30000 in
set_option maxHeartbeats 1000000 in
theorem manyRoute_any (w : World) (B : Nat) (s : ByteArray) (i TT : Nat) (lo hi : Int)  (one : Rd RouteM) (Q : World -> Prop) (hQ : ∀ W W', Q W -> Fr (fun k => k = B) W W' -> Q W') (h : RdAt w B s i TT) (h0 : Q w) (hhi : hi <= 255)
  (HO : Hid (∀ W i, RdAt W B s i TT -> Q W -> Calls Tryz.prog 80 #[.pointer (some ⟨B, 0, none⟩)] W (RdP W B s TT (one i) fun _ v x => v = rtV x))) :
  Calls Tryz.prog 79 #[.pointer (some ⟨B, 0, none⟩), .int .i64 lo, .int .i64 hi, .func (.func 80) #[.pointer (some ⟨B, 0, none⟩)] #[]] w (RdP w B s TT (manyR s.data.toList lo hi one i) fun w' v xs => w'.ownsRow w.heap.size 144 3 v xs.length (rtRow xs)) := by
 obtain ⟨ij, hj', hy0, hy1, hy2⟩ := info_parts Tryz.infoIeR
 have HH := hid (rnumber_any w B s i TT 1 1 lo hi h (by decide) rfl)
 have hBl : B < w.heap.size := (Array.getElem?_eq_some_iff.1 h.bx).1
 have HQ := hid hQ
 have HQ0 := hid h0
 obtain ⟨N, hN⟩ : ∃ N, manyR s.data.toList lo hi one i = N := ⟨_, rfl⟩
 rw [hN]
 have HN := hid hN
 clear h hN hQ h0
 go_enter Tryz.func79, Tryz.ntmps79
 go_wp2_with fail
 refine HH.o.mono ?_
 intro e w1 hp
 clear HH
 cases h1 : numR s.data.toList 1 lo hi i with
 | none =>
  rw [h1] at hp
  obtain ⟨he, hf⟩ := hp
  have eN : N = none := by rw [<- HN.o]; exact many_none h1
  subst eN
  unfold noE at he
  subst he
  exact ⟨rfl, rfl, hf⟩
 | some nj =>
  obtain ⟨n, j⟩ := nj
  rw [h1] at hp
  obtain ⟨⟨v, rfl, rfl⟩, hR1, hf1⟩ := hp
  have HR1 := hid hR1
  have HF1 := hid hf1
  have hn : n <= 255 := by have := (numR_some h1).2; omega
  have HN1 : Hid (restR one [] n j = N) := by show _ = _; rw [<- HN.o]; exact (many_rest h1).symm
  clear h1 hR1 hf1 HN
  go_wp2_with fail
  go_loopg [9, 14] n (fun m ov kv wr => ∃ (k : Nat) (xs : List RouteM) (jj : Nat), k <= n /\ m = n - k /\ kv = .int .i64 (k : Nat) /\ xs.length = k /\ Hid (RdAt wr B s jj TT) /\ Hid (wr.ownsRow w.heap.size 144 3 ov k (rtRow xs)) /\ Hid (restR one xs (n - k) jj = N) /\ Hid (Fr (fun k => k = B) w wr))
  case atStart => exact ⟨0, [], j, by omega, rfl, rfl, rfl, HR1, World.ownsRow_nil _ _ _ _, HN1, HF1⟩
  case round =>
   obtain ⟨k, xs, jj, hk, rfl, rfl, hxs, HR, HOw, HNr, HFr⟩ := hrel
   obtain ⟨oa, oc, ho⟩ := ownsRow_len HOw.o
   subst ho
   by_cases hlt : k < n
   ·have hki : (k : Int) < (n : Int) := by omega
    have HN2 : Hid (restR one xs (n - (k + 1) + 1) jj = N) := by show _ = _; rw [show n - (k + 1) + 1 = n - k from by omega]; exact HNr.o
    clear HNr
    go_wp2_with fail
    refine (HO.o wr jj HR.o (HQ.o _ _ HQ0.o HFr.o)).mono ?_
    intro e w2 hp
    cases h2 : one jj with
    | none =>
     rw [h2] at hp
     obtain ⟨he, hf⟩ := hp
     have eN : N = none := by rw [<- HN2.o]; exact rest_none h2
     subst eN
     unfold noE at he
     subst he
     exact ⟨rfl, rfl, HFr.o.trans hf⟩
    | some xj =>
     obtain ⟨x, j3⟩ := xj
     rw [h2] at hp
     obtain ⟨⟨v, rfl, rfl⟩, hR2, hf2⟩ := hp
     have HR2 := hid hR2
     have HF2 := hid (HFr.o.trans hf2)
     have HO2 := hid (ownsRow_fr HOw.o hf2 (fun k hk => by omega))
     have HN3 : Hid (restR one (xs ++ [x]) (n - (k + 1)) j3 = N) := by show _ = _; rw [<- HN2.o]; exact (rest_some h2).symm
     clear h2 hR2 hf2 HN2 HOw HR HFr
     unfold rtV
     go_wp2_with (at_builtin; refine wpList_append_lies _ rfl (.tmp 16) (.tmp 19) 56 rfl w.heap.size 144 ij _ 3 32 Tryz.underlying56 hj' hy0 hy1 hy2 rfl (by decide) (.slice oa k oc) k (rtRow xs) rfl ?h1 ⟨w2.heap.size, 0, none⟩ 1 1 [.string x.name, .int .i64 (x.base : Nat), .int .i64 (x.rate : Nat)] rfl rfl ?h2 ?h3 (by decide) ?h4 ?h5 ?h6 _ rfl ?h7)
     case h1 => exact HO2.o.alloc _
     try case h2 => exact World.news_of_block (heap_alloc_new w2 (.cells #[.string x.name, .int .i64 (x.base : Nat), .int .i64 (x.rate : Nat)] 144))
     case h3 => simp [Value.oneCell']
     case h4 => unfold maxLen; omega
     case h5 => omega
     case h6 => have := HF2.o.size; simp; omega
     case h7 =>
      intro g2 cap2 w8 hown hgrow hor _
      have HF8 : Hid (Fr (fun k => k = B) w w8) := (HF2.o.alloc _).grown hgrow (fun k hk => Or.inr (HO2.o.lt k hk).1)
      have HR8 : Hid (RdAt w8 B s j3 TT) := by
       have f : Fr (fun k' => (Value.slice oa k oc).ownBlock = some k') w2 w8 := ((Fr.refl _ _).alloc _).grown hgrow (fun k hk => .inl hk)
       exact HR2.o.fr f (fun hb => by have := (HO2.o.lt B hb).1; omega)
      have HO8 : Hid (w8.ownsRow w.heap.size 144 3 (.slice (some ⟨g2, 0, none⟩) (k + 1) cap2) (k + 1) (rtRow (xs ++ [x]))) := by
       show World.ownsRow _ _ _ _ _ _ _
       rw [rtRow_snoc']
       exact hown
      clear hown hgrow hor
      go_wp2_with fail
      go_roundg (n - (k + 1))
      case measure => omega
      case rel => exact ⟨k + 1, xs ++ [x], j3, by omega, rfl, by go_num, by simp [hxs], HR8, HO8, HN3, HF8⟩
   ·have hki : ¬ (k : Int) < (n : Int) := by omega
    have eN : N = some (xs, jj) := by
     have e := HNr.o
     rw [show n - k = 0 from by omega, rest_end] at e
     exact e.symm
    subst eN
    clear HNr
    go_wp2_with fail
    go_ret
    have ho := HOw.o
    rw [<- hxs] at ho ⊢
    exact ⟨⟨_, rfl, ho⟩, HR.o, HFr.o⟩
set_option maxRecDepth 30000 in
set_option maxHeartbeats 1000000 in
theorem manyInt_any (w : World) (B : Nat) (s : ByteArray) (i TT : Nat) (lo hi : Int) (b1 b2 : Nat) (one : Rd Nat) (Q : World -> Prop) (hQ : ∀ W W', Q W -> Fr (fun k => k = B) W W' -> Q W') (h : RdAt w B s i TT) (h0 : Q w) (hhi : hi <= 255)
  (HO : Hid (∀ W i, RdAt W B s i TT -> Q W -> Calls Tryz.prog 192 #[.pointer (some ⟨b1, 0, none⟩), .pointer (some ⟨b2, 0, none⟩)] W (RdP W B s TT (one i) fun _ v x => v = .int .i64 (x : Nat)))) :
  Calls Tryz.prog 191 #[.pointer (some ⟨B, 0, none⟩), .int .i64 lo, .int .i64 hi, .func (.func 192) #[] #[.pointer (some ⟨b1, 0, none⟩), .pointer (some ⟨b2, 0, none⟩)]] w (RdP w B s TT (manyR s.data.toList lo hi one i) fun w' v xs => w'.ownsRow w.heap.size 3 1 v xs.length (intRow xs)) := by
 obtain ⟨ij, hj', hy0, hy1, hy2⟩ := info_parts Tryz.infoIeI
 have HH := hid (rnumber_any w B s i TT 1 1 lo hi h (by decide) rfl)
 have hBl : B < w.heap.size := (Array.getElem?_eq_some_iff.1 h.bx).1
 have HQ := hid hQ
 have HQ0 := hid h0
 obtain ⟨N, hN⟩ : ∃ N, manyR s.data.toList lo hi one i = N := ⟨_, rfl⟩
 rw [hN]
 have HN := hid hN
 clear h hN hQ h0
 go_enter Tryz.func191, Tryz.ntmps191
 go_wp2_with fail
 refine HH.o.mono ?_
 intro e w1 hp
 clear HH
 cases h1 : numR s.data.toList 1 lo hi i with
 | none =>
  rw [h1] at hp
  obtain ⟨he, hf⟩ := hp
  have eN : N = none := by rw [<- HN.o]; exact many_none h1
  subst eN
  unfold noE at he
  subst he
  exact ⟨rfl, rfl, hf⟩
 | some nj =>
  obtain ⟨n, j⟩ := nj
  rw [h1] at hp
  obtain ⟨⟨v, rfl, rfl⟩, hR1, hf1⟩ := hp
  have HR1 := hid hR1
  have HF1 := hid hf1
  have hn : n <= 255 := by have := (numR_some h1).2; omega
  have HN1 : Hid (restR one [] n j = N) := by show _ = _; rw [<- HN.o]; exact (many_rest h1).symm
  clear h1 hR1 hf1 HN
  go_wp2_with fail
  go_loopg [9, 14] n (fun m ov kv wr => ∃ (k : Nat) (xs : List Nat) (jj : Nat), k <= n /\ m = n - k /\ kv = .int .i64 (k : Nat) /\ xs.length = k /\ Hid (RdAt wr B s jj TT) /\ Hid (wr.ownsRow w.heap.size 3 1 ov k (intRow xs)) /\ Hid (restR one xs (n - k) jj = N) /\ Hid (Fr (fun k => k = B) w wr))
  case atStart => exact ⟨0, [], j, by omega, rfl, rfl, rfl, HR1, World.ownsRow_nil _ _ _ _, HN1, HF1⟩
  case round =>
   obtain ⟨k, xs, jj, hk, rfl, rfl, hxs, HR, HOw, HNr, HFr⟩ := hrel
   obtain ⟨oa, oc, ho⟩ := ownsRow_len HOw.o
   subst ho
   by_cases hlt : k < n
   ·have hki : (k : Int) < (n : Int) := by omega
    have HN2 : Hid (restR one xs (n - (k + 1) + 1) jj = N) := by show _ = _; rw [show n - (k + 1) + 1 = n - k from by omega]; exact HNr.o
    clear HNr
    go_wp2_with fail
    refine (HO.o wr jj HR.o (HQ.o _ _ HQ0.o HFr.o)).mono ?_
    intro e w2 hp
    cases h2 : one jj with
    | none =>
     rw [h2] at hp
     obtain ⟨he, hf⟩ := hp
     have eN : N = none := by rw [<- HN2.o]; exact rest_none h2
     subst eN
     unfold noE at he
     subst he
     exact ⟨rfl, rfl, HFr.o.trans hf⟩
    | some xj =>
     obtain ⟨x, j3⟩ := xj
     rw [h2] at hp
     obtain ⟨⟨v, rfl, rfl⟩, hR2, hf2⟩ := hp
     have HR2 := hid hR2
     have HF2 := hid (HFr.o.trans hf2)
     have HO2 := hid (ownsRow_fr HOw.o hf2 (fun k hk => by omega))
     have HN3 : Hid (restR one (xs ++ [x]) (n - (k + 1)) j3 = N) := by show _ = _; rw [<- HN2.o]; exact (rest_some h2).symm
     clear h2 hR2 hf2 HN2 HOw HR HFr
     go_wp2_with (at_builtin; refine wpList_append_lies _ rfl (.tmp 16) (.tmp 19) 22 rfl w.heap.size 3 ij _ 1 8 Tryz.underlying22 hj' hy0 hy1 hy2 rfl (by decide) (.slice oa k oc) k (intRow xs) rfl ?h1 ⟨w2.heap.size, 0, none⟩ 1 1 [.int .i64 (x : Nat)] rfl rfl ?h2 ?h3 (by decide) ?h4 ?h5 ?h6 _ rfl ?h7)
     case h1 => exact HO2.o.alloc _
     try case h2 => exact World.news_of_block (heap_alloc_new w2 (.cells #[.int .i64 (x : Nat)] 3))
     case h3 => simp [Value.oneCell']
     case h4 => unfold maxLen; omega
     case h5 => omega
     case h6 => have := HF2.o.size; simp; omega
     case h7 =>
      intro g2 cap2 w8 hown hgrow hor _
      have HF8 : Hid (Fr (fun k => k = B) w w8) := (HF2.o.alloc _).grown hgrow (fun k hk => Or.inr (HO2.o.lt k hk).1)
      have HR8 : Hid (RdAt w8 B s j3 TT) := by
       have f : Fr (fun k' => (Value.slice oa k oc).ownBlock = some k') w2 w8 := ((Fr.refl _ _).alloc _).grown hgrow (fun k hk => .inl hk)
       exact HR2.o.fr f (fun hb => by have := (HO2.o.lt B hb).1; omega)
      have HO8 : Hid (w8.ownsRow w.heap.size 3 1 (.slice (some ⟨g2, 0, none⟩) (k + 1) cap2) (k + 1) (intRow (xs ++ [x]))) := by
       show World.ownsRow _ _ _ _ _ _ _
       rw [intRow_snoc']
       exact hown
      clear hown hgrow hor
      go_wp2_with fail
      go_roundg (n - (k + 1))
      case measure => omega
      case rel => exact ⟨k + 1, xs ++ [x], j3, by omega, rfl, by go_num, by simp [hxs], HR8, HO8, HN3, HF8⟩
   ·have hki : ¬ (k : Int) < (n : Int) := by omega
    have eN : N = some (xs, jj) := by
     have e := HNr.o
     rw [show n - k = 0 from by omega, rest_end] at e
     exact e.symm
    subst eN
    clear HNr
    go_wp2_with fail
    go_ret
    have ho := HOw.o
    rw [<- hxs] at ho ⊢
    exact ⟨⟨_, rfl, ho⟩, HR.o, HFr.o⟩
end Go.Proofs.YtccikgogjfbpeabGreatDoor
