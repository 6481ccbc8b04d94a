/- The writer of images: numbers, names, routes, lists. -/
import Derived.Test.YtccikgogjfbpeabGreatDoorWHa
import Derived.Test.YtccikgogjfbpeabGreatDoorWJa
import Derived.Lib.AppendStr
namespace Go.Proofs.YtccikgogjfbpeabGreatDoor
open Go.RowKit
def byRow (l : List UInt8) : List Value := l.map fun c => .int .u8 (c.toNat : Nat)
theorem strCells_eq (s : ByteArray) : Lib.strCells s = byRow s.data.toList := by
 unfold byRow
 simp [Lib.strCells]
structure WtAt (w : World) (B : Nat) (l : List UInt8) : Prop where
 bx : ∃ v, w.heap[B]? = some (.cells #[v] 141) /\ w.ownsRow (B + 1) 5 1 v l.length (byRow l)
 sz : l.length <= 1000000
theorem Tryz.infoByte : (Tryz.prog.info? 5).map (fun i => (i.zero, i.size, i.bytes)) = some (some (.int .u8 0), 1, 1) := by kernel_rfl
def WfS (w : World) (B k : Nat) : Prop := k = B \/ (B < k /\ ∃ cs, w.heap[k]? = some (.cells cs 5))
def Wf (w : World) (B : Nat) (w' : World) : Prop := Fr (WfS w B) w w'
theorem Wf.of {w w' : World} {B : Nat} (h : F0 w w') : Wf w B w' := Fr.mono h (by simp)
theorem Wf.trans {w w1 w2 : World} {B : Nat} (h1 : Wf w B w1) (h2 : Wf w1 B w2) : Wf w B w2 := by
 refine Fr.monoNew h1 h2 (fun k hk => ?_)
 by_cases hn : k < w.heap.size
 ·by_cases hs : WfS w B k
  ·exact .inl hs
  ·refine .inl ?_
   rcases hk with e | ⟨hb, cs, hc⟩
   ·exact .inl e
   ·exact .inr ⟨hb, cs, by
     have e := Fr.block h1 k hn hs
     rw [<- e]
     exact hc⟩
 ·exact .inr (by omega)
theorem Wf.up {w w' : World} {B : Nat} (h : Wf w B w') : Fr (fun k => B <= k) w w' := Fr.mono h (fun k hk => by rcases hk with e | ⟨e, _⟩ <;> show B <= k <;> omega)
theorem Wf.box {w w' : World} {B X t : Nat} {cs : Array Value} (h : Wf w B w') (hx : w.heap[X]? = some (.cells cs t)) (hB : X ≠ B) (ht : t ≠ 5) : w'.heap[X]? = some (.cells cs t) :=
 Fr.whole h hx (fun e => by
  rcases e with e | ⟨_, c2, e⟩
  ·exact hB e
  ·rw [hx] at e
   injection e with e
   injection e with _ e
   exact ht e)
def WtP (w : World) (B : Nat) (l : List UInt8) (e : Ending) (w' : World) : Prop := e = .returned (.tuple #[]) /\ WtAt w' B l /\ Wf w B w'
theorem WtAt.fr {w w' : World} {B : Nat} {l : List UInt8} (h : WtAt w B l) (hf : F0 w w') : WtAt w' B l := by
 obtain ⟨v, h1, h2⟩ := h.bx
 exact ⟨⟨v, hf.whole h1 (by simp), ownsRow_fr h2 hf (by simp)⟩, h.sz⟩
theorem wt_store {w1 w5 w8 : World} {B n : Nat} {v v' : Value} {xs : List Value} {L : List UInt8} (hb : w1.heap[B]? = some (.cells #[v] 141)) (ho : w1.ownsRow (B + 1) 5 1 v n xs) (hf : F0 w1 w5) (hg : w5.grownBy w8 v.ownBlock) (hown : w8.ownsRow (B + 1) 5 1 v' L.length (byRow L)) (hs : L.length <= 1000000) :
  WtAt (w8.setCell ⟨B, 0, none⟩ v') B L /\ Wf w1 B (w8.setCell ⟨B, 0, none⟩ v') := by
 have hb8 : w8.heap[B]? = some (.cells #[v] 141) := ((Fr.refl (fun k => v.ownBlock = some k) w5).grown hg (fun k hk => Or.inl hk)).whole (hf.whole hb (by simp)) (fun e => by have := (ho.lt B e).1; omega)
 refine ⟨⟨⟨v', heap_setCell_same w8 B 0 _ _ v' hb8, ownsRow_setCell_below hown (by simp) v'⟩, hs⟩, ?_⟩
 refine Fr.setCell (Fr.grown (Wf.of (B := B) hf) hg (fun k hk => Or.inl (Or.inr ?_))) (p := ⟨B, 0, none⟩) (Or.inl (Or.inl rfl)) v'
 rcases ho.2 with ⟨rfl, _⟩ | ⟨g, cap, cur, rfl, hbg, hg', _⟩
 ·cases hk
 ·injection hk with hk
  subst hk
  exact ⟨Nat.lt_of_lt_of_le (Nat.lt_succ_self B) hbg, cur, hg'⟩
theorem u8_wrap (x : Nat) : IntKind.u8.wrap (x : Int) = (((UInt8.ofNat x).toNat : Nat) : Int) := by
 rw [UInt8.toNat_ofNat']
 simp [IntKind.wrap, IntKind.bits, IntKind.signed]
set_option maxRecDepth 30000 in
set_option maxHeartbeats 2000000 in
theorem wnumber_any (w : World) (B : Nat) (l : List UInt8) (k n : Nat) (kv nv : Int) (h : WtAt w B l) (hk : k <= 4) (hkv : kv = k) (hnv : nv = n) (hs : l.length + k <= 1000000) :
  Calls Tryz.prog 68 #[.pointer (some ⟨B, 0, none⟩), .int .i64 kv, .int .i64 nv] w (WtP w B (l ++ numW k n)) := by
 subst hkv hnv
 obtain ⟨ij, hj', hy0, hy1, hy2⟩ := info_parts Tryz.infoByte
 have HW0 := hid h
 clear h
 go_enter Tryz.func68, Tryz.ntmps68
 go_wp2_with fail
 go_loopg [8] k (fun mm iv wr => ∃ i : Nat, i <= k /\ mm = k - i /\ iv = .int .i64 (i : Nat) /\ Hid (WtAt wr B (l ++ (numW k n).take i)) /\ Hid (Wf w B wr))
 case atStart => exact ⟨0, Nat.zero_le _, rfl, rfl, by rw [List.take_zero, List.append_nil]; exact HW0.o, Fr.refl _ _⟩
 case round =>
  obtain ⟨i, hik, rfl, rfl, HWr, HFr⟩ := hrel
  by_cases hlt : i < k
  ·have hki : (i : Int) < (k : Int) := by omega
   obtain ⟨L, hL⟩ : ∃ L, l ++ (numW k n).take i = L := ⟨_, rfl⟩
   rw [hL] at HWr
   obtain ⟨v, hb, ho⟩ := HWr.o.bx
   obtain ⟨m, hm⟩ : ∃ m, L.length = m := ⟨_, rfl⟩
   rw [hm] at ho
   have hmi : m + 1 <= 1000000 := by rw [<- hm, <- hL, List.length_append, List.length_take, numW_len]; omega
   have HM := hid hm
   obtain ⟨oa, oc, e⟩ := ownsRow_len ho
   subst e
   have HB := hid hb
   have HO := hid ho
   have c0 := block_cell hb 0 _ rfl
   have fz := block_frozen hb 0
   obtain ⟨cb, hcb⟩ : ∃ c, UInt8.ofNat (n / 2 ^ (8 * i)) = c := ⟨_, rfl⟩
   have HL : Hid (l ++ (numW k n).take (i + 1) = L ++ [cb]) := by
    show _ = _
    rw [List.take_add_one, numW_get k n i hlt, hcb, <- hL, List.append_assoc]
    rfl
   have h8i : IntKind.i64.wrap (8 * (i : Int)) = 8 * (i : Int) := IntWalk.i64_in _ (by constructor <;> omega)
   obtain ⟨q, hq⟩ : ∃ q, n / 2 ^ (8 * i) = q := ⟨_, rfl⟩
   have hsh : (n : Int) / 2 ^ (8 * (i : Int)).toNat = ((q : Nat) : Int) := by
    rw [<- hq, show (8 * (i : Int)).toNat = 8 * i from by omega]
    simp
   have hwq : IntKind.u8.wrap (q : Int) = ((cb.toNat : Nat) : Int) := by rw [u8_wrap, <- hcb, hq]
   clear hb ho hL hq hcb hm
   go_wp2_with fail
   refine wp_region_held_drew (S := fun _ => True) (by kernel_rfl) trivial (fun hH => ?_)
   refine htk 0 (v := ?v0z) ?y0z hH ?r0z
   case y0z =>
    intro w _
    go_simp
    with_reducible rfl
   try go_frame
   refine htk 1 (v := ?v1z) ?y1z hH ?r1z
   case y1z =>
    intro w _
    go_simp
    with_reducible rfl
   try go_frame
   refine htk 2 (v := ?v2z) ?y2z hH ?r2z
   case y2z =>
    intro w _
    go_simp
    with_reducible rfl
   try go_frame
   refine htk 3 (v := ?v3z) ?y3z hH ?r3z
   case y3z =>
    intro w _
    go_simp
    with_reducible rfl
   try go_frame
   refine htk 5 (v := ?v5z) ?y5z hH ?r5z
   case y5z =>
    intro w _
    go_simp
    with_reducible rfl
   try go_frame
   refine htk 6 (v := ?v6z) ?y6z hH ?r6z
   case y6z =>
    intro w _
    go_simp
    with_reducible rfl
   try go_frame
   refine htk 7 (v := ?v7z) ?y7z hH ?r7z
   case y7z =>
    intro w _
    go_simp
    with_reducible rfl
   try go_frame
   refine htk 8 (v := ?v8z) ?y8z hH ?r8z
   case y8z =>
    intro w _
    go_simp
    with_reducible rfl
   try go_frame
   refine htk 9 (v := ?v9z) ?y9z hH ?r9z
   case y9z =>
    intro w _
    go_simp
    with_reducible rfl
   try go_frame
   have HF5 : Hid (F0 wr ((wr.alloc (.cells #[.int .u8 (cb.toNat : Nat)] 5)).drew)) := ((Fr.refl _ _).alloc _).drew
   have HO5 := hid (ownsRow_fr HO.o HF5.o (by simp))
   have hB1 : B + 1 <= wr.heap.size := (Array.getElem?_eq_some_iff.1 HB.o).1
   refine wpAnyH_ready (rs := [4, 10]) (by kernel_rfl) (by simp) ?_
   refine held_cons rfl (fun K2 hK => ?_) ?_
   ·try rw [if_pos (by rfl)]
    go_simp
    refine hK.out _ _ trivial (fun hH => ?_)
    clear hK K2
    try go_frame
    refine wpAnyH_ready (rs := [10]) (by kernel_rfl) (by simp) ?_
    refine held_cons rfl (fun K2 hK => ?_) AllReadyH.nil
    try rw [if_pos (by rfl)]
    go_simp
    refine hK.out _ _ trivial (fun hH => ?_)
    clear hK K2
    try go_frame
    refine wpAnyH_ready (rs := [11]) (by kernel_rfl) (by simp) ?_
    refine held_cons rfl (fun K2 hK => ?_) AllReadyH.nil
    try rw [if_pos (by rfl)]
    refine wp_append_lies _ (.tmp 15) (.tmp 21) 104 rfl (B + 1) 5 ij _ 1 1 Tryz.underlying104 hj' hy0 hy1 hy2 rfl (by decide) (.slice oa m oc) m (byRow L) rfl HO5.o ⟨wr.heap.size, 0, none⟩ 1 1 [.int .u8 (cb.toNat : Nat)] rfl rfl ?h2A ?h3A (by decide) ?h4A ?h5A ?h6A _ rfl ?h7A
    case h2A => exact World.news_of_block (heap_alloc_new wr (.cells #[.int .u8 (cb.toNat : Nat)] 5))
    case h3A => simp [Value.oneCell']
    case h4A => unfold maxLen; omega
    case h5A => omega
    case h6A => have := HF5.o.size; omega
    case h7A =>
     intro g2 cap2 w8 hown hgrow hor _
     have HD := hid (wt_store (v' := .slice (some ⟨g2, 0, none⟩) (m + 1) cap2) (L := L ++ [cb]) HB.o HO.o HF5.o hgrow (by
      rw [List.length_append, HM.o]
      unfold byRow at hown ⊢
      rw [List.map_append]
      exact hown) (by rw [List.length_append, HM.o]; simp; omega))
     have d0 := ((Fr.refl (fun k => (Value.slice oa m oc).ownBlock = some k) _).grown hgrow (fun k hk => Or.inl hk)).whole (HF5.o.whole HB.o (by simp)) (fun e => by have := (HO.o.lt B e).1; omega)
     have e0 := block_cell d0 0 _ rfl
     have f0 := block_frozen d0 0
     clear hown hgrow hor c0 fz d0
     refine hK.out _ _ trivial (fun hH => ?_)
     clear hK K2
     try go_frame
     refine htk 12 (v := ?v12A) ?y12A hH ?r12A
     case y12A =>
      intro w _
      go_simp
      with_reducible rfl
     try go_frame
     refine htk 13 (v := ?v13A) ?y13A hH ?r13A
     case y13A =>
      intro w _
      go_simp
      with_reducible rfl
     try go_frame
     refine wpAnyH_ready (rs := [14]) (by kernel_rfl) (by simp) ?_
     refine held_cons rfl (fun K2 hK => ?_) AllReadyH.nil
     try rw [if_pos (by rfl)]
     go_simp
     refine hK.out _ _ trivial (fun hH => ?_)
     clear hK K2
     try go_frame
     refine wpAnyH_done (by kernel_rfl) ?_ _
     generalize w8.setCell ⟨B, 0, none⟩ (.slice (some ⟨g2, 0, none⟩) (m + 1) cap2) = W9 at *
     clear e0 f0
     go_wp2_with fail
     go_roundg (k - (i + 1))
     case measure => omega
     case rel => exact ⟨i + 1, by omega, rfl, by go_num, by show WtAt _ _ _; rw [HL.o]; exact HD.o.1, HFr.o.trans HD.o.2⟩
   ·refine held_cons rfl (fun K2 hK => ?_) AllReadyH.nil
    try rw [if_pos (by rfl)]
    go_simp
    refine hK.out _ _ trivial (fun hH => ?_)
    clear hK K2
    try go_frame
    refine wpAnyH_ready (rs := [4]) (by kernel_rfl) (by simp) ?_
    refine held_cons rfl (fun K2 hK => ?_) AllReadyH.nil
    try rw [if_pos (by rfl)]
    have z0 : (wr.alloc (.cells #[.int .u8 (cb.toNat : Nat)] 5)).cell? ⟨B, 0, none⟩ = some (.slice oa m oc) := block_cell (((Fr.refl (fun _ => False) wr).alloc _).whole HB.o (by simp)) 0 _ rfl
    go_simp
    refine hK.out _ _ trivial (fun hH => ?_)
    clear hK K2
    try go_frame
    refine wpAnyH_ready (rs := [11]) (by kernel_rfl) (by simp) ?_
    refine held_cons rfl (fun K2 hK => ?_) AllReadyH.nil
    try rw [if_pos (by rfl)]
    refine wp_append_lies _ (.tmp 15) (.tmp 21) 104 rfl (B + 1) 5 ij _ 1 1 Tryz.underlying104 hj' hy0 hy1 hy2 rfl (by decide) (.slice oa m oc) m (byRow L) rfl HO5.o ⟨wr.heap.size, 0, none⟩ 1 1 [.int .u8 (cb.toNat : Nat)] rfl rfl ?h2B ?h3B (by decide) ?h4B ?h5B ?h6B _ rfl ?h7B
    case h2B => exact World.news_of_block (heap_alloc_new wr (.cells #[.int .u8 (cb.toNat : Nat)] 5))
    case h3B => simp [Value.oneCell']
    case h4B => unfold maxLen; omega
    case h5B => omega
    case h6B => have := HF5.o.size; omega
    case h7B =>
     intro g2 cap2 w8 hown hgrow hor _
     have HD := hid (wt_store (v' := .slice (some ⟨g2, 0, none⟩) (m + 1) cap2) (L := L ++ [cb]) HB.o HO.o HF5.o hgrow (by
      rw [List.length_append, HM.o]
      unfold byRow at hown ⊢
      rw [List.map_append]
      exact hown) (by rw [List.length_append, HM.o]; simp; omega))
     have d0 := ((Fr.refl (fun k => (Value.slice oa m oc).ownBlock = some k) _).grown hgrow (fun k hk => Or.inl hk)).whole (HF5.o.whole HB.o (by simp)) (fun e => by have := (HO.o.lt B e).1; omega)
     have e0 := block_cell d0 0 _ rfl
     have f0 := block_frozen d0 0
     clear hown hgrow hor c0 fz d0
     refine hK.out _ _ trivial (fun hH => ?_)
     clear hK K2
     try go_frame
     refine htk 12 (v := ?v12B) ?y12B hH ?r12B
     case y12B =>
      intro w _
      go_simp
      with_reducible rfl
     try go_frame
     refine htk 13 (v := ?v13B) ?y13B hH ?r13B
     case y13B =>
      intro w _
      go_simp
      with_reducible rfl
     try go_frame
     refine wpAnyH_ready (rs := [14]) (by kernel_rfl) (by simp) ?_
     refine held_cons rfl (fun K2 hK => ?_) AllReadyH.nil
     try rw [if_pos (by rfl)]
     go_simp
     refine hK.out _ _ trivial (fun hH => ?_)
     clear hK K2
     try go_frame
     refine wpAnyH_done (by kernel_rfl) ?_ _
     generalize w8.setCell ⟨B, 0, none⟩ (.slice (some ⟨g2, 0, none⟩) (m + 1) cap2) = W9 at *
     clear e0 f0
     go_wp2_with fail
     go_roundg (k - (i + 1))
     case measure => omega
     case rel => exact ⟨i + 1, by omega, rfl, by go_num, by show WtAt _ _ _; rw [HL.o]; exact HD.o.1, HFr.o.trans HD.o.2⟩
  ·have e : i = k := by omega
   subst e
   have hki : ¬ (i : Int) < (i : Int) := by omega
   go_wp2_with fail
   go_end0
   have e := HWr.o
   rw [List.take_of_length_le (by rw [numW_len]; exact Nat.le_refl _)] at e
   exact ⟨rfl, e, HFr.o⟩
theorem cell_up {w0 w : World} {B : Nat} {p : Addr} {v : Value} (h0 : w0.heap.size <= B) (hf : Fr (fun k => B <= k) w0 w) (hc : w0.cell? p = some v) : w.cell? p = some v :=
 (hf.cell (World.block_lt_of_cell? w0 _ hc) (by have := World.block_lt_of_cell? w0 _ hc; show ¬ B <= p.block; omega)).trans hc
theorem flat_take {α : Type} (W : α -> List UInt8) (l : List α) (i : Nat) : ((l.take i).flatMap W).length <= (l.flatMap W).length := by
 have e : l.flatMap W = (l.take i).flatMap W ++ (l.drop i).flatMap W := by rw [<- List.flatMap_append, List.take_append_drop]
 rw [e, List.length_append]
 omega
theorem flat_snoc {α : Type} (W : α -> List UInt8) {l : List α} {i : Nat} {x : α} (hx : l[i]? = some x) : (l.take (i + 1)).flatMap W = (l.take i).flatMap W ++ W x := by
 rw [List.take_add_one, hx]
 simp
set_option maxRecDepth 30000 in
set_option maxHeartbeats 1000000 in
theorem wname_any (w : World) (B : Nat) (l : List UInt8) (s : ByteArray) (h : WtAt w B l) (hs : (l ++ nameW s).length <= 1000000) :
  Calls Tryz.prog 70 #[.pointer (some ⟨B, 0, none⟩), .string s] w (WtP w B (l ++ nameW s)) := by
 obtain ⟨ij, hj', hy0, hy1, hy2⟩ := info_parts Tryz.infoByte
 have hsl : s.data.toList.length = s.size := by simp
 have hln : l.length + (1 + s.size) <= 1000000 := by rw [<- hsl]; simpa [nameW, numW_len] using hs
 have HN := hid (wnumber_any w B l 1 s.size _ _ h (by omega) rfl rfl (by omega))
 have HSL := hid hsl
 clear h hsl hs
 go_enter Tryz.func70, Tryz.ntmps70
 go_wp2_with fail
 refine HN.o.mono ?_
 rintro e w1 ⟨rfl, hW, hf1⟩
 obtain ⟨v, hb, ho⟩ := hW.bx
 obtain ⟨m, hm⟩ : ∃ m, (l ++ numW 1 s.size).length = m := ⟨_, rfl⟩
 rw [hm] at ho
 have hmi : m + s.size <= 1000000 := by rw [<- hm, List.length_append, numW_len]; omega
 have HM := hid hm
 obtain ⟨oa, oc, e⟩ := ownsRow_len ho
 subst e
 have HB := hid hb
 have HO := hid ho
 have HF1 := hid hf1
 have c0 := block_cell hb 0 _ rfl
 have fz := block_frozen hb 0
 have hB1 : B + 1 <= w1.heap.size := (Array.getElem?_eq_some_iff.1 hb).1
 clear hb ho hf1 hW HN hm
 go_wp2_with (at_builtin; refine Lib.wpList_append_own_string _ rfl (.tmp 12) (.tmp 13) 104 9 rfl (B + 1) 5 ij Tryz.underlying104 Tryz.underlying9 hj' hy0 hy1 hy2 (.slice oa m oc) m (byRow (l ++ numW 1 s.size)) rfl HO.o s rfl ?h1 ?h2 ?h3 ?h4)
 case h1 => unfold maxLen; omega
 case h2 => omega
 case h3 => exact hB1
 case h4 =>
  intro v' w8 hown hgrow _
  have hl8 : (l ++ nameW s).length = m + s.size := by rw [<- HM.o]; simp only [nameW, List.length_append, numW_len, HSL.o]; omega
  obtain ⟨oa', oc', e⟩ := ownsRow_len hown
  subst e
  have hd := wt_store (v' := .slice oa' (m + s.size) oc') (L := l ++ nameW s) HB.o HO.o (Fr.refl _ _) hgrow (by
   rw [strCells_eq] at hown
   rw [hl8, nameW, <- List.append_assoc]
   unfold byRow at hown ⊢
   rw [List.map_append]
   exact hown) (by omega)
  have HD := hid hd
  have d0 := ((Fr.refl (fun k => (Value.slice oa m oc).ownBlock = some k) w1).grown hgrow (fun k hk => Or.inl hk)).whole HB.o (fun e => by have := (HO.o.lt B e).1; omega)
  have e0 := block_cell d0 0 _ rfl
  have z0 := block_frozen d0 0
  clear hd hown hgrow c0 fz d0
  go_wp2_with fail
  go_end0
  exact ⟨rfl, HD.o.1, HF1.o.trans HD.o.2⟩
def rtO (r : RouteM) : Obj := .cells #[.string r.name, .int .i64 (r.base : Nat), .int .i64 (r.rate : Nat)] 144
set_option maxRecDepth 30000 in
set_option maxHeartbeats 1000000 in
theorem wroute_any (w : World) (B : Nat) (l : List UInt8) (r : RouteM) (h : WtAt w B l) (hs : (l ++ routeW r).length <= 1000000) :
  Calls Tryz.prog 69 #[.pointer (some ⟨B, 0, none⟩), rtV r] w (WtP w B (l ++ routeW r)) := by
 have HN : Hid (∀ W (L : List UInt8) (n : Nat), WtAt W B L -> L.length + 4 <= 1000000 -> Calls Tryz.prog 68 #[.pointer (some ⟨B, 0, none⟩), .int .i64 4, .int .i64 (n : Nat)] W (WtP W B (L ++ numW 4 n))) := fun W L n hW hl => wnumber_any W B L 4 n 4 n hW (by omega) rfl rfl hl
 have hln : l.length + ((nameW r.name).length + 8) <= 1000000 := by simpa [routeW, numW_len] using hs
 have hBw : B < w.heap.size := by obtain ⟨v, hb, _⟩ := h.bx; exact (Array.getElem?_eq_some_iff.1 hb).1
 have HF0 : Hid (F0 w (w.alloc (rtO r))) := (Fr.refl _ _).alloc _
 have HB0 : Hid ((w.alloc (rtO r)).heap[w.heap.size]? = some (rtO r)) := heap_alloc_new w _
 have HNm := hid (wname_any _ B l r.name (h.fr HF0.o) (by rw [List.length_append]; omega))
 have HLn := hid hln
 have HX : Hid (w.heap.size ≠ B) := by show _ ≠ _; omega
 have HE : Hid (routeW r = nameW r.name ++ (numW 4 r.base ++ numW 4 r.rate)) := rfl
 unfold rtV
 unfold rtO at HF0 HB0 HNm
 obtain ⟨nm, ba, ra⟩ := r
 dsimp only at *
 clear h hs hln
 go_enter Tryz.func69, Tryz.ntmps69
 go_upto_region 1 with fail
 generalize w.alloc (.cells #[.string nm, .int .i64 (ba : Nat), .int .i64 (ra : Nat)] 144) = w0 at *
 generalize w.heap.size = X at *
 have x0 := block_cell HB0.o 0 _ rfl
 go_wp2_with fail
 refine HNm.o.mono ?_
 rintro e w1 ⟨rfl, hW1, hf1⟩
 have HW1 := hid hW1
 have HB1 := hid (Wf.box hf1 HB0.o HX.o (by decide))
 have HF1 := hid ((Wf.of (B := B) HF0.o).trans hf1)
 have x1 := block_cell HB1.o 1 _ rfl
 clear hW1 hf1 x0 HNm
 go_wp2_with fail
 refine (HN.o w1 _ ba HW1.o (by rw [List.length_append]; have := HLn.o; omega)).mono ?_
 rintro e w2 ⟨rfl, hW2, hf2⟩
 have HW2 := hid hW2
 have HB2 := hid (Wf.box hf2 HB1.o HX.o (by decide))
 have HF2 := hid (HF1.o.trans hf2)
 have x2 := block_cell HB2.o 2 _ rfl
 clear hW2 hf2 x1
 go_wp2_with fail
 refine (HN.o w2 _ ra HW2.o (by rw [List.length_append, List.length_append, numW_len]; have := HLn.o; omega)).mono ?_
 rintro e w3 ⟨rfl, hW3, hf3⟩
 have HW3 := hid hW3
 have HF3 := hid (HF2.o.trans hf3)
 clear hW3 hf3 x2
 go_wp2_with fail
 go_end0
 refine ⟨rfl, ?_, HF3.o⟩
 rw [HE.o]
 have e := HW3.o
 rw [List.append_assoc, List.append_assoc] at e
 exact e
set_option maxRecDepth 30000 in
set_option maxHeartbeats 1000000 in
theorem wlist_any (w0 w : World) (B : Nat) (l : List UInt8) (a : Option Addr) (n c : Nat) (nums : List Nat) (h0 : w0.heap.size <= B) (hf0 : Fr (fun k => B <= k) w0 w) (hi : IntsAt w0 a nums) (hn : nums.length = n) (h4 : n <= 255) (h : WtAt w B l) (hs : (l ++ listW nums).length <= 1000000) :
  Calls Tryz.prog 144 #[.pointer (some ⟨B, 0, none⟩), .slice a n c] w (WtP w B (l ++ listW nums)) := by
 have HN : Hid (∀ W (L : List UInt8) (k m : Nat) (kv : Int), WtAt W B L -> k <= 4 -> kv = k -> L.length + k <= 1000000 -> Calls Tryz.prog 68 #[.pointer (some ⟨B, 0, none⟩), .int .i64 kv, .int .i64 (m : Nat)] W (WtP W B (L ++ numW k m))) := fun W L k m kv hW hk e hl => wnumber_any W B L k m kv m hW hk e rfl hl
 have HLn : Hid (∀ i x, nums[i]? = some x -> ((l ++ numW 1 n) ++ (nums.take i).flatMap (numW 2)).length + 2 <= 1000000) := fun i x hx => by
  have e := flat_take (numW 2) nums (i + 1)
  rw [flat_snoc (numW 2) hx, List.length_append, numW_len] at e
  unfold listW at hs
  rw [List.length_append, List.length_append, numW_len] at hs
  rw [List.length_append, List.length_append, numW_len]
  omega
 have h1 : l.length + 1 <= 1000000 := by
  unfold listW at hs
  rw [List.length_append, List.length_append, numW_len] at hs
  omega
 have HI := hid hi
 have HNn := hid hn
 have HF0 : Hid (w0.heap.size <= B /\ Fr (fun k => B <= k) w0 w) := ⟨h0, hf0⟩
 have HW := hid h
 clear h hs hi hn h0 hf0
 go_enter Tryz.func144, Tryz.ntmps144
 go_wp2_with fail
 refine (HN.o w l 1 n _ HW.o (by omega) rfl h1).mono ?_
 rintro e w1 ⟨rfl, hW1, hf1⟩
 have HW1 := hid hW1
 have HF1 := hid hf1
 clear hW1 hf1
 go_wp2_with fail
 go_loopg [12] n (fun mm iv wr => ∃ i : Nat, i <= n /\ mm = n - i /\ iv = .int .i64 (i : Nat) /\ Hid (WtAt wr B ((l ++ numW 1 n) ++ (nums.take i).flatMap (numW 2))) /\ Hid (Wf w B wr))
 case atStart => exact ⟨0, Nat.zero_le _, rfl, rfl, by simpa using HW1, HF1⟩
 case round =>
  obtain ⟨i, hik, rfl, rfl, HWr, HFr⟩ := hrel
  by_cases hlt : i < n
  ·have hki : (i : Int) < (n : Int) := by omega
   obtain ⟨x, hx⟩ : ∃ x, nums[i]? = some x := ⟨_, List.getElem?_eq_getElem (by rw [HNn.o]; exact hlt)⟩
   obtain ⟨g, rfl, hc⟩ := HI.o i x hx
   have hc' := cell_up HF0.o.1 (HF0.o.2.trans (Wf.up HFr.o)) hc
   have HC := hid (HN.o wr _ 2 x 2 HWr.o (by omega) rfl (HLn.o i x hx))
   have HS := hid (flat_snoc (numW 2) hx)
   clear hx hc
   go_wp2_with fail
   refine HC.o.mono ?_
   rintro e w2 ⟨rfl, hW2, hf2⟩
   have HW2 : Hid (WtAt w2 B ((l ++ numW 1 n) ++ (nums.take (i + 1)).flatMap (numW 2))) := by
    show WtAt _ _ _
    rw [HS.o, <- List.append_assoc]
    exact hW2
   have HF2 := hid (HFr.o.trans hf2)
   clear hW2 hf2
   go_wp2_with fail
   go_roundg (n - (i + 1))
   case measure => omega
   case rel => exact ⟨i + 1, by omega, rfl, by go_num, HW2, HF2⟩
  ·have e : i = n := by omega
   subst e
   have hki : ¬ (i : Int) < (i : Int) := by omega
   go_wp2_with fail
   go_end0
   have e := HWr.o
   rw [List.take_of_length_le (by rw [HNn.o]; exact Nat.le_refl _), List.append_assoc] at e
   refine ⟨rfl, ?_, HFr.o⟩
   unfold listW
   rw [HNn.o]
   exact e
end Go.Proofs.YtccikgogjfbpeabGreatDoor
