/- Messages: their parts, and numbers. The switch: what is down. The switch: its trees, and its calls. The switch: new, set, asked. -/
import Derived.Test.YtccikgogjfbpeabGreatDoorWHa
import Derived.Test.YtccikgogjfbpeabGreatDoorWSa
import Derived.Test.YtccikgogjfbpeabGreatDoorWKa
import Derived.Test.YtccikgogjfbpeabGreatDoorWDf
import Derived.Test.YtccikgogjfbpeabGreatDoorWIh
import Derived.Maps.OwnSet
import Derived.StringKeys
import Derived.Test.YtccikgogjfbpeabGreatDoorWJb
import Derived.Test.YtccikgogjfbpeabGreatDoorWJe
import Derived.Test.YtccikgogjfbpeabGreatDoorWKc
namespace Go.Proofs.YtccikgogjfbpeabGreatDoor
open Go.RowKit
def spB : ByteArray := ⟨#[32]⟩
theorem idx_at : ∀ (a r : List UInt8), 32 ∉ a -> Lib.indexByte (a ++ 32 :: r) 32 = (a.length : Int)
 | [], r, _ => by simp [Lib.indexByte]
 | x :: a, r, h => by
  have h1 : ¬ (x == 32) = true := fun e => h (by rw [eq_of_beq e]; simp)
  have ih := idx_at a r (fun e => h (by simp [e]))
  have h2 : ¬ ((a.length : Int) == -1) = true := by simp
  show Lib.indexByte (x :: (a ++ 32 :: r)) 32 = _
  rw [Lib.indexByte, if_neg h1, ih, if_neg h2]
  simp
theorem idx_none : ∀ (a : List UInt8), 32 ∉ a -> Lib.indexByte a 32 = -1
 | [], _ => rfl
 | x :: a, h => by
  have h1 : ¬ (x == 32) = true := fun e => h (by rw [eq_of_beq e]; simp)
  rw [Lib.indexByte, if_neg h1, idx_none a (fun e => h (by simp [e]))]
  rfl
theorem split_cons (a r : List UInt8) (k : Nat) (h : 32 ∉ a) : Lib.splitB spB 0 (k + 1) (bs (a ++ 32 :: r)) = bs a :: Lib.splitB spB 0 k (bs r) := by
 have e : Lib.indexB (bs (a ++ 32 :: r)) spB = (a.length : Int) := by
  show Lib.index (a ++ 32 :: r) [32] = _
  rw [Lib.index_one, idx_at a r h]
 have e1 : (bs (a ++ 32 :: r)).extract 0 (a.length + 0) = bs a := by
  apply ByteArray.ext
  apply Array.toList_inj.1
  rw [Lib.extract_data]
  simp
 have e2 : (bs (a ++ 32 :: r)).extract (a.length + spB.size) (bs (a ++ 32 :: r)).size = bs r := by
  apply ByteArray.ext
  apply Array.toList_inj.1
  rw [Lib.extract_data]
  show (((a ++ 32 :: r).drop (a.length + 1)).take ((a ++ 32 :: r).length - (a.length + 1))) = r
  rw [show a.length + 1 = a.length + [(32 : UInt8)].length from rfl, show a ++ 32 :: r = (a ++ [32]) ++ r from by simp, <- List.length_append, List.drop_left, List.take_of_length_le (by simp; omega)]
 rw [Lib.splitB, e, if_neg (by simp), Int.toNat_natCast, e1, e2]
theorem split_last (a : List UInt8) (k : Nat) (h : 32 ∉ a) : Lib.splitB spB 0 k (bs a) = [bs a] := Lib.splitB_miss _ _ _ _ (by
 show Lib.index a [32] = _
 rw [Lib.index_one, idx_none a h])
theorem Tryz.infoStrS : (Tryz.prog.info? 9).map (fun i => (i.zero, i.size, i.bytes)) = some (some (.string ByteArray.empty), 1, 16) := by kernel_rfl
set_option maxRecDepth 30000 in
set_option maxHeartbeats 400000 in
theorem SplitN_any (s : ByteArray) (w : World) (h4 : 4 <= s.size) (hs : s.size <= 1000) :
  Calls Tryz.prog 62 #[.string s, .string ⟨#[32]⟩, .int .i64 5] w fun e w' => e = .returned (.slice (some ⟨w.heap.size, 0, none⟩) (Lib.splitB spB 0 4 s).length 5) /\ w' = w.alloc (.cells (Lib.cellsOf (Lib.splitB spB 0 4 s) 5) 9) := by
 have HG : Hid (Calls Tryz.prog 107 #[.string s, .string ⟨#[32]⟩, .int .i64 0, .int .i64 5] w fun e w' => e = .returned (.slice (some ⟨w.heap.size, 0, none⟩) (Lib.splitB spB 0 4 s).length 5) /\ w' = w.alloc (.cells (Lib.cellsOf (Lib.splitB spB 0 4 s) 5) 9)) :=
  Any.strings_genSplit_core Tryz.lays221 Tryz.infoStrS s spB 0 5 5 w (by omega) (by decide) (by decide) (fun x c _ => by
   refine (Tryz.strings_Index_one x 32 _).mono fun e w' ⟨he, hw⟩ => ⟨?_, hw⟩
   rw [he]
   show _ = Ending.returned (Value.int .i64 (Lib.index x.data.toList [32]))
   rw [Lib.index_one]) (by
   refine (Tryz.strings_Count_one s 32 w).mono fun e w' ⟨he, hw⟩ => ⟨?_, hw⟩
   rw [he]
   show _ = Ending.returned (Value.int .i64 ((Lib.count s.data.toList [32] : Nat) : Int))
   rw [Lib.count_one]
   rfl) (by decide) (by decide) (by rw [if_neg (by decide)]; omega)
 go_enter Tryz.func62, Tryz.ntmps62
 go_wp2_with fail
 refine HG.o.mono ?_
 rintro e w1 ⟨rfl, rfl⟩
 go_wp2_with fail
 go_ret
 exact ⟨rfl, rfl⟩
theorem dec_num : ∀ (l : List UInt8) (acc : Nat), (∀ c, c ∈ l -> 48 <= c.toNat /\ c.toNat <= 57) -> Lib.decFrom acc l = some (l.foldl (fun n c => n * 10 + (c.toNat - 48)) acc)
 | [], _, _ => rfl
 | b :: r, acc, h => by
  have hb := h b (by simp)
  rw [Lib.decFrom, Lib.digitVal, if_pos hb]
  exact dec_num r _ (fun c hc => h c (by simp [hc]))
theorem atoi_num {l : List UInt8} (h0 : l ≠ []) (h : ∀ c, c ∈ l -> 48 <= c.toNat /\ c.toNat <= 57) : Lib.atoi l = some (numOf l : Nat) := by
 cases l with
 | nil => exact absurd rfl h0
 | cons b r =>
  have hb := h b (by simp)
  have h1 : ¬ (b == 45) = true := fun e => by rw [eq_of_beq e] at hb; exact absurd hb.1 (by decide)
  have h2 : ¬ (b == 43) = true := fun e => by rw [eq_of_beq e] at hb; exact absurd hb.1 (by decide)
  rw [Lib.atoi, if_neg h1, if_neg h2, Lib.decNat, if_neg (by simp), dec_num (b :: r) 0 h]
  rfl
set_option maxRecDepth 30000 in
set_option maxHeartbeats 400000 in
theorem readNumber_any (l : List UInt8) (most : Nat) (mv : Int) (w : World) (h0 : l ≠ []) (hl : l.length <= most) (hm : most <= 10) (he : mv = most) (hd : ∀ c, c ∈ l -> 48 <= c.toNat /\ c.toNat <= 57) :
  Calls Tryz.prog 63 #[.string (bs l), .int .i64 mv] w fun e w' => e = .returned (.tuple #[.int .i64 (numOf l : Nat), .bool true]) /\ F0 w w' := by
 subst he
 have HA := hid (AllDigits_any (bs l) w (by rw [bs_size]; omega))
 have HAl : Hid (allFrom (bs l) 0 = true) := by
  show allFrom (bs l) 0 = true
  unfold allFrom
  rw [List.drop_zero, List.all_eq_true]
  intro c hc
  simpa using hd c hc
 have HT := hid (fun W => Tryz.strconv_Atoi (bs l) (numOf l : Nat) (by rw [bs_size]; omega) (atoi_num h0 hd) W)
 rw [HAl.o] at HA
 have hsz : (bs l).size = l.length := bs_size l
 generalize bs l = S at *
 have hgt : ¬ (most : Int) < (S.size : Int) := by omega
 clear hd h0
 go_enter Tryz.func63, Tryz.ntmps63
 go_wp2_with fail
 refine HA.o.mono ?_
 rintro e w1 ⟨rfl, hf1⟩
 have HF1 := hid hf1
 clear hf1 HA
 go_wp2_with fail
 refine (HT.o w1).mono ?_
 rintro e w2 ⟨rfl, t, hw⟩
 have HF2 : Hid (F0 w w2) := by rw [hw]; exact HF1.o.trans (bytesWorld_fr _ _ _)
 clear hw
 go_wp2_with fail
 go_quiet (fail)
 go_wp2_with fail
 go_ret2
 exact ⟨rfl, HF2.o.trans ⟨rfl, rfl, rfl, Nat.le_refl _, fun _ _ _ => rfl⟩⟩
def DW (l : List UInt8) (n : Nat) : Prop := l ≠ [] /\ l.length <= n /\ ∀ c, c ∈ l -> 48 <= c.toNat /\ c.toNat <= 57
theorem DW.no {l : List UInt8} {n : Nat} (h : DW l n) : 32 ∉ l := fun e => absurd (h.2.2 32 e).1 (by decide)
def wireL (pan m a c : List UInt8) : List UInt8 := pan ++ 32 :: (m ++ 32 :: (a ++ 32 :: c))
theorem wire_split {pan m a c : List UInt8} (hp : 32 ∉ pan) (hm : 32 ∉ m) (ha : 32 ∉ a) (hc : 32 ∉ c) : Lib.splitB spB 0 4 (bs (wireL pan m a c)) = [bs pan, bs m, bs a, bs c] := by
 unfold wireL
 rw [split_cons _ _ _ hp, split_cons _ _ _ hm, split_cons _ _ _ ha, split_last _ _ hc]
set_option maxRecDepth 30000 in
set_option maxHeartbeats 1000000 in
theorem readMessage_any (pan m a c : List UInt8) (w : World) (hp : 32 ∉ pan) (hp1 : 4 <= pan.length /\ pan.length <= 100) (hm : DW m 4) (ha : DW a 10) (hc : DW c 3) :
  Calls Tryz.prog 37 #[.string (bs (wireL pan m a c))] w fun e w' => e = .returned (.tuple #[payV ⟨bs pan, (numOf m : Nat), (numOf a : Nat), (numOf c : Nat)⟩, .bool true]) /\ F0 w w' := by
 have hsz : 4 <= (bs (wireL pan m a c)).size /\ (bs (wireL pan m a c)).size <= 1000 := by
  have := hm.2.1
  have := ha.2.1
  have := hc.2.1
  rw [bs_size]
  unfold wireL
  simp only [List.length_append, List.length_cons]
  omega
 have HS := hid (fun W => SplitN_any (bs (wireL pan m a c)) W hsz.1 hsz.2)
 rw [wire_split hp hm.no ha.no hc.no] at HS
 have HN1 := hid (fun W => readNumber_any m 4 4 W hm.1 hm.2.1 (by omega) rfl hm.2.2)
 have HN2 := hid (fun W => readNumber_any a 10 10 W ha.1 ha.2.1 (by omega) rfl ha.2.2)
 have HN3 := hid (fun W => readNumber_any c 3 3 W hc.1 hc.2.1 (by omega) rfl hc.2.2)
 generalize bs (wireL pan m a c) = S at *
 generalize bs pan = B0 at *
 generalize bs m = B1 at *
 generalize bs a = B2 at *
 generalize bs c = B3 at *
 generalize numOf m = n1 at *
 generalize numOf a = n2 at *
 generalize numOf c = n3 at *
 have HF0 : Hid (F0 w (w.alloc (.cells #[.string ⟨#[]⟩, .int .i64 0, .int .i64 0, .int .i64 0] 24))) := (Fr.refl _ _).alloc _
 have HB0 : Hid ((w.alloc (.cells #[.string ⟨#[]⟩, .int .i64 0, .int .i64 0, .int .i64 0] 24)).heap[w.heap.size]? = some (.cells #[.string ⟨#[]⟩, .int .i64 0, .int .i64 0, .int .i64 0] 24)) := heap_alloc_new w _
 clear hp hp1 hm ha hc hsz
 go_enter Tryz.func37, Tryz.ntmps37
 go_upto_region 1 with fail
 obtain ⟨Q, hQ⟩ : ∃ Q, w.heap.size = Q := ⟨_, rfl⟩
 have HQ : Hid (w.heap.size <= Q) := Nat.le_of_eq hQ
 rw [hQ] at HB0 ⊢
 generalize w.alloc _ = w0 at *
 clear hQ
 go_wp2_with fail
 refine (HS.o w0).mono ?_
 rintro e w' ⟨rfl, rfl⟩
 have HF1 : Hid (F0 w (w0.alloc (.cells (Lib.cellsOf [B0, B1, B2, B3] 5) 9))) := HF0.o.alloc _
 have HB1 := hid (((Fr.refl (fun _ => False) w0).alloc (.cells (Lib.cellsOf [B0, B1, B2, B3] 5) 9)).whole HB0.o (by simp))
 have HP1 := hid (heap_alloc_new w0 (.cells (Lib.cellsOf [B0, B1, B2, B3] 5) 9))
 rw [show ([B0, B1, B2, B3] : List ByteArray).length = 4 from rfl]
 generalize w0.alloc _ = w1 at *
 generalize w0.heap.size = G at *
 have c1 : w1.cell? ⟨G, 1, none⟩ = some (.string B1) := block_cell HP1.o 1 _ rfl
 clear HF0 HB0 HS
 go_wp2_with fail
 refine (HN1.o w1).mono ?_
 rintro e w2 ⟨rfl, hf2⟩
 have HF2 := hid (HF1.o.trans hf2)
 have HB2 := hid (hf2.whole HB1.o (by simp))
 have HP2 := hid (hf2.whole HP1.o (by simp))
 have c2 : w2.cell? ⟨G, 2, none⟩ = some (.string B2) := block_cell HP2.o 2 _ rfl
 clear hf2 c1 HF1 HB1 HP1 HN1
 go_wp2_with fail
 refine (HN2.o w2).mono ?_
 rintro e w3 ⟨rfl, hf3⟩
 have HF3 := hid (HF2.o.trans hf3)
 have HB3 := hid (hf3.whole HB2.o (by simp))
 have HP3 := hid (hf3.whole HP2.o (by simp))
 have c3 : w3.cell? ⟨G, 3, none⟩ = some (.string B3) := block_cell HP3.o 3 _ rfl
 clear hf3 c2 HF2 HB2 HP2 HN2
 go_wp2_with fail
 refine (HN3.o w3).mono ?_
 rintro e w4 ⟨rfl, hf4⟩
 have HF4 := hid (HF3.o.trans hf4)
 have HB4 := hid (hf4.whole HB3.o (by simp))
 have HP4 := hid (hf4.whole HP3.o (by simp))
 have c0 : w4.cell? ⟨G, 0, none⟩ = some (.string B0) := block_cell HP4.o 0 _ rfl
 have x0 := block_cell HB4.o 0 _ rfl
 have x1 := block_cell HB4.o 1 _ rfl
 have x2 := block_cell HB4.o 2 _ rfl
 have x3 := block_cell HB4.o 3 _ rfl
 have z0 := block_frozen HB4.o 0
 have z1 := block_frozen HB4.o 1
 have z2 := block_frozen HB4.o 2
 have z3 := block_frozen HB4.o 3
 clear hf4 c3 HF3 HB3 HP3 HN3
 go_wp2_with fail
 have e1 := heap_setCell_same w4 Q 0 _ _ (.string B0) HB4.o
 have e2 := heap_setCell_same _ Q 1 _ _ (.int .i64 (n1 : Nat)) e1
 have e3 := heap_setCell_same _ Q 2 _ _ (.int .i64 (n2 : Nat)) e2
 have e4 := heap_setCell_same _ Q 3 _ _ (.int .i64 (n3 : Nat)) e3
 have s0 := block_cell e4 0 (.string B0) rfl
 have s1 := block_cell e4 1 (.int .i64 (n1 : Nat)) rfl
 have s2 := block_cell e4 2 (.int .i64 (n2 : Nat)) rfl
 have s3 := block_cell e4 3 (.int .i64 (n3 : Nat)) rfl
 have hq := HQ.o
 refine bodyPost_ret (v := .tuple #[payV ⟨B0, (n1 : Nat), (n2 : Nat), (n3 : Nat)⟩, .bool true]) (by simp [results, Tryz.results37, go_sem, s0, s1, s2, s3, payV]) rfl ⟨rfl, ?_⟩
 exact (((HF4.o.setCell (p := ⟨Q, 0, none⟩) (Or.inr hq) _).setCell (p := ⟨Q, 1, none⟩) (Or.inr hq) _).setCell (p := ⟨Q, 2, none⟩) (Or.inr hq) _).setCell (p := ⟨Q, 3, none⟩) (Or.inr hq) _
end Go.Proofs.YtccikgogjfbpeabGreatDoor

namespace Go.Proofs.YtccikgogjfbpeabGreatDoor
open Go.RowKit Go.Maps Go.WideMaps
theorem lawStr : Keyed Tryz.prog 9 := string_keyed Tryz.underlying9
theorem zeroUnit (w : World) : (zeroValue 76).run Tryz.prog w = .ok (.agg #[]) w := by kernel_rfl
structure SwM (w : World) (X M TT n : Nat) (D : DataW Unit) : Prop where
 bx : w.heap[X]? = some (.cells #[.pointer (some ⟨TT, 0, none⟩), .map (some M)] 73)
 mp : w.ownsMap Tryz.prog 9 (unitElem (H := Unit)) M n D
 ne : X ≠ M
theorem ownsMap_fr {w w' : World} {M n : Nat} {D : DataW Unit} {S : Nat -> Prop} (h : w.ownsMap Tryz.prog 9 (unitElem (H := Unit)) M n D) (hf : Fr S w w') (hS : ¬ S M) : w'.ownsMap Tryz.prog 9 (unitElem (H := Unit)) M n D := by
 obtain ⟨es, ck, h1, h2⟩ := h
 exact ⟨es, ck, hf.whole h1 hS, h2⟩
theorem SwM.fr {w w' : World} {X M TT n : Nat} {D : DataW Unit} {S : Nat -> Prop} (h : SwM w X M TT n D) (hf : Fr S w w') (h1 : ¬ S X) (h2 : ¬ S M) : SwM w' X M TT n D := ⟨hf.whole h.bx h1, ownsMap_fr h.mp hf h2, h.ne⟩
def dnS (D : DataW Unit) (s : ByteArray) : Bool := Maps.has D (.string s.data.toList)
set_option maxRecDepth 30000 in
set_option maxHeartbeats 400000 in
theorem isDown_any (w : World) (X M TT n : Nat) (D : DataW Unit) (s : ByteArray) (h : SwM w X M TT n D) (hs : s.size <= maxLen) :
  Calls Tryz.prog 38 #[.pointer (some ⟨X, 0, none⟩), .string s] w fun e w' => e = .returned (.bool (dnS D s)) /\ F0 w w' := by
 have HO := hid h.mp
 have c1 := block_cell h.bx 1 _ rfl
 have HK : Hid (keyOf Tryz.prog 9 (.string s) = some (.string s.data.toList)) := keyOf_string_mk Tryz.underlying9 hs
 have HB : Hid (Maps.has D (.string s.data.toList) = dnS D s) := rfl
 obtain ⟨v, ps, hrun, hv⟩ := h.mp.look_ok lawStr Tryz.underlying71 (zeroUnit w) (zd := .agg []) (zp := []) unitElem_mk HK.o
 obtain ⟨rfl, _⟩ := unitElem_inv hv
 rw [HB.o] at hrun
 clear h hs hv
 go_enter Tryz.func38, Tryz.ntmps38
 go_wp2_with fail
 go_ret
 exact ⟨rfl, (Fr.refl _ _).alloc _⟩
def dnW (rts : List RouteM) (D : DataW Unit) (i : Nat) : Bool := match rts[i]? with
 | none => false
 | some t => dnS D t.name
theorem dnRow_endW (rts : List RouteM) (D : DataW Unit) (j : Nat) (hj : j < 6) : (dnRow (dnW rts D) rts.length)[j]? = some (.bool (dnW rts D j)) := by
 unfold dnRow
 rw [List.getElem?_toArray, List.getElem?_map, List.getElem?_range hj]
 simp only [Option.map_some]
 by_cases e : j < rts.length
 ·rw [if_pos e]
 ·rw [if_neg e, dnW, List.getElem?_eq_none (by omega)]
set_option maxRecDepth 30000 in
set_option maxHeartbeats 2000000 in
theorem downs_sw (w : World) (TT Q X M T0 nm : Nat) (D : DataW Unit) (rts : List RouteM) (ra : Option Addr) (rc : Nat) (hr : RtAt w TT Q rts ra rc) (h6 : rts.length <= 6) (h : SwM w X M T0 nm D) :
  Calls Tryz.prog 49 #[.pointer (some ⟨TT, 0, none⟩), .func (.func 38) #[.pointer (some ⟨X, 0, none⟩)] #[]] w fun e w' => e = .returned (.agg #[.bool (dnW rts D 0), .bool (dnW rts D 1), .bool (dnW rts D 2), .bool (dnW rts D 3), .bool (dnW rts D 4), .bool (dnW rts D 5)]) /\ F0 w w' := by
 have HR := hid hr
 have c0 := hr.c0
 have HRo := hid hr.sz
 have HD : Hid (∀ W s, F0 w W -> s.size <= 3000 -> Calls Tryz.prog 38 #[.pointer (some ⟨X, 0, none⟩), .string s] W fun e w' => e = .returned (.bool (dnS D s)) /\ F0 W w') := fun W s hf hs => isDown_any W X M T0 nm D s (h.fr hf (by simp) (by simp)) (by unfold maxLen; omega)
 obtain ⟨n, hn⟩ : ∃ n, rts.length = n := ⟨_, rfl⟩
 have HN := hid hn
 rw [hn] at c0 h6
 have HTl := hid (World.block_lt_of_cell? w _ hr.c0)
 have HW0 : Hid (DnS w w.heap.size (w.heap.size + 1) (dnW rts D) 0 ((w.alloc (.cells #[.bool false, .bool false, .bool false, .bool false, .bool false, .bool false] 96)).alloc (.cells #[.bool false, .bool false, .bool false, .bool false, .bool false, .bool false] 96))) :=
  ⟨((Fr.refl _ _).alloc _).alloc _, ((Fr.refl (fun _ => False) _).alloc _).whole (heap_alloc_new w _) (by simp), by have e := heap_alloc_new (w.alloc (.cells #[.bool false, .bool false, .bool false, .bool false, .bool false, .bool false] 96)) (.cells #[.bool false, .bool false, .bool false, .bool false, .bool false, .bool false] 96); rw [show (w.alloc (.cells #[.bool false, .bool false, .bool false, .bool false, .bool false, .bool false] 96)).heap.size = w.heap.size + 1 from by simp] at e; exact e⟩
 have c0' := (HW0.o.fr.cell (p := ⟨TT, 0, none⟩) HTl.o (by simp)).trans c0
 clear hr h hn c0
 go_enter Tryz.func49, Tryz.ntmps49
 go_upto_region 2 with fail
 generalize (w.alloc (.cells #[.bool false, .bool false, .bool false, .bool false, .bool false, .bool false] 96)).alloc (.cells #[.bool false, .bool false, .bool false, .bool false, .bool false, .bool false] 96) = W at *
 obtain ⟨A, hA⟩ : ∃ A, w.heap.size = A := ⟨_, rfl⟩
 have HA := hid hA
 rw [hA] at HW0
 rw [hA]
 clear hA
 go_wp2_with fail
 go_loopg [6, 7, 13] n (fun m _ _ kv wx => ∃ i, i <= n /\ m = n - i /\ kv = .int .i64 (i : Nat) /\ Hid (DnS w A (A + 1) (dnW rts D) i wx))
 case atStart => exact ⟨0, Nat.zero_le _, rfl, rfl, HW0⟩
 case round =>
  obtain ⟨i, hi, rfl, rfl, HS⟩ := hrel
  by_cases hlt : i < n
  ·have hki : (i : Int) < (n : Int) := by omega
   have hi6 : (i : Int) < 6 := by omega
   obtain ⟨t, ht⟩ : ∃ t, rts[i]? = some t := ⟨_, List.getElem?_eq_getElem (by have := HN.o; omega)⟩
   obtain ⟨g, rfl, _, e0, e1, e2⟩ := (HR.o.fr (HS.o.fr.mono (by simp))).rt i t ht
   have HDN : Hid (dnW rts D i = dnS D t.name) := by show _ = _; unfold dnW; rw [ht]
   have HTn : Hid (t.name.size <= 3000) := (HRo.o t (List.mem_of_getElem? ht)).1
   have HF1 : Hid (F0 wr (wr.alloc (.cells #[.string t.name, .int .i64 (t.base : Nat), .int .i64 (t.rate : Nat)] 144))) := (Fr.refl _ _).alloc _
   have hX := heap_alloc_new wr (.cells #[.string t.name, .int .i64 (t.base : Nat), .int .i64 (t.rate : Nat)] 144)
   have x0 := block_cell hX 0 _ rfl
   clear ht hX
   go_upto_region 5 with fail
   generalize wr.alloc (.cells #[.string t.name, .int .i64 (t.base : Nat), .int .i64 (t.rate : Nat)] 144) = W1 at *
   generalize wr.heap.size = X at *
   have HS1 := hid (HS.o.fr' HF1.o)
   clear e0 e1 e2
   go_wp2_with fail
   refine (HD.o _ _ HS1.o.fr HTn.o).mono ?_
   rintro e w2 ⟨rfl, hf2⟩
   have HS2 := hid (HS1.o.fr' hf2)
   obtain ⟨hst, ⟨u, hu⟩, huf⟩ := HS2.o.step (by have := HA.o; omega) (by omega) (by omega)
   have HST := hid hst
   rw [HDN.o] at HST
   clear hst hf2 x0
   go_wp2_with fail
   go_roundg (n - (i + 1))
   case measure => omega
   case rel => exact ⟨i + 1, by omega, rfl, by go_num, HST⟩
  ·have hki : ¬ (i : Int) < (n : Int) := by omega
   have hin : i = n := by omega
   subst hin
   have d := fun j hj => block_cell HS.o.b2 j _ (by have e := dnRow_endW rts D j hj; rw [HN.o] at e; exact e)
   have d0 := d 0 (by omega)
   have d1 := d 1 (by omega)
   have d2 := d 2 (by omega)
   have d3 := d 3 (by omega)
   have d4 := d 4 (by omega)
   have d5 := d 5 (by omega)
   have b0 : wr.cell? ⟨A, 0, none⟩ = some (.bool false) := block_cell HS.o.b1 0 _ rfl
   have f0 := block_frozen HS.o.b1 0
   have b1 : wr.cell? ⟨A, 1, none⟩ = some (.bool false) := block_cell HS.o.b1 1 _ rfl
   have f1 := block_frozen HS.o.b1 1
   have b2 : wr.cell? ⟨A, 2, none⟩ = some (.bool false) := block_cell HS.o.b1 2 _ rfl
   have f2 := block_frozen HS.o.b1 2
   have b3 : wr.cell? ⟨A, 3, none⟩ = some (.bool false) := block_cell HS.o.b1 3 _ rfl
   have f3 := block_frozen HS.o.b1 3
   have b4 : wr.cell? ⟨A, 4, none⟩ = some (.bool false) := block_cell HS.o.b1 4 _ rfl
   have f4 := block_frozen HS.o.b1 4
   have b5 : wr.cell? ⟨A, 5, none⟩ = some (.bool false) := block_cell HS.o.b1 5 _ rfl
   have f5 := block_frozen HS.o.b1 5
   clear d
   have e6 := heap_setCell_same _ A 5 _ _ (.bool (dnW rts D 5)) (heap_setCell_same _ A 4 _ _ (.bool (dnW rts D 4)) (heap_setCell_same _ A 3 _ _ (.bool (dnW rts D 3)) (heap_setCell_same _ A 2 _ _ (.bool (dnW rts D 2)) (heap_setCell_same _ A 1 _ _ (.bool (dnW rts D 1)) (heap_setCell_same wr A 0 _ _ (.bool (dnW rts D 0)) HS.o.b1)))))
   have HE6 : Hid _ := e6
   clear e6
   go_wp2_with fail
   have s0 := block_cell HE6.o 0 (.bool (dnW rts D 0)) rfl
   have s1 := block_cell HE6.o 1 (.bool (dnW rts D 1)) rfl
   have s2 := block_cell HE6.o 2 (.bool (dnW rts D 2)) rfl
   have s3 := block_cell HE6.o 3 (.bool (dnW rts D 3)) rfl
   have s4 := block_cell HE6.o 4 (.bool (dnW rts D 4)) rfl
   have s5 := block_cell HE6.o 5 (.bool (dnW rts D 5)) rfl
   have hA : w.heap.size <= A := Nat.le_of_eq HA.o
   refine bodyPost_ret (v := .agg #[.bool (dnW rts D 0), .bool (dnW rts D 1), .bool (dnW rts D 2), .bool (dnW rts D 3), .bool (dnW rts D 4), .bool (dnW rts D 5)]) (by simp [results, Tryz.results49, go_sem, s0, s1, s2, s3, s4, s5]) rfl ⟨rfl, ?_⟩
   exact (((((HS.o.fr.setCell (p := ⟨A, 0, none⟩) (Or.inr hA) _).setCell (p := ⟨A, 1, none⟩) (Or.inr hA) _).setCell (p := ⟨A, 2, none⟩) (Or.inr hA) _).setCell (p := ⟨A, 3, none⟩) (Or.inr hA) _).setCell (p := ⟨A, 4, none⟩) (Or.inr hA) _).setCell (p := ⟨A, 5, none⟩) (Or.inr hA) _
end Go.Proofs.YtccikgogjfbpeabGreatDoor

namespace Go.Proofs.YtccikgogjfbpeabGreatDoor
open Go.RowKit Go.Maps Go.WideMaps
def TyAt (H : Nat) (w : World) (TT : Nat) (t : TrD) : Prop := ∃ zb ra rc, H <= zb /\ H <= TT /\ TlAt zb w TT t ra rc
theorem TyAt.fr {H : Nat} {w w' : World} {TT : Nat} {t : TrD} {S : Nat -> Prop} (h : TyAt H w TT t) (hf : Fr S w w') (hS : ∀ k, S k -> k < H) : TyAt H w' TT t := by
 obtain ⟨zb, ra, rc, h1, h2, h3⟩ := h
 exact ⟨zb, ra, rc, h1, h2, h3.fr hf (fun k hk => Nat.lt_of_lt_of_le (hS k hk) h1) (fun e => by have := hS _ e; omega)⟩
theorem TyAt.lo {H K : Nat} {w : World} {TT : Nat} {t : TrD} (h : TyAt H w TT t) (hK : K <= H) : TyAt K w TT t := by
 obtain ⟨zb, ra, rc, h1, h2, h3⟩ := h
 exact ⟨zb, ra, rc, by omega, by omega, h3⟩
def TzAt (H : Nat) (w : World) (T : Nat) (t : TrD) : Prop := ∃ TT, H <= T /\ w.cell? ⟨T, 1, none⟩ = some (.pointer (some ⟨TT, 0, none⟩)) /\ TyAt H w TT t
theorem TzAt.fr {H : Nat} {w w' : World} {T : Nat} {t : TrD} {S : Nat -> Prop} (h : TzAt H w T t) (hf : Fr S w w') (hS : ∀ k, S k -> k < H) : TzAt H w' T t := by
 obtain ⟨TT, h1, h2, h3⟩ := h
 exact ⟨TT, h1, (hf.cell (p := ⟨T, 1, none⟩) (World.block_lt_of_cell? w _ h2) (fun e => by have := hS _ e; dsimp only at this; omega)).trans h2, h3.fr hf hS⟩
theorem TzAt.ti {H : Nat} {w : World} {T : Nat} {t : TrD} (h : TzAt H w T t) : TiAt w T t := by
 obtain ⟨TT, _, h2, zb, ra, rc, _, _, h3⟩ := h
 exact ⟨TT, zb, ra, rc, h2, h3.1⟩
structure Dcs (t : TrD) (rts : List RouteM) (R : List RuleM) : Prop where
 r : t.rts = rts
 n : t.nms = R.map RuleM.name
 p : PtOk t.rts t.nms t.prs t.root
 e : ∀ p, payOk p = true -> EndsAt t.rts t.nms t.prs t.root p (endM R (bestR (rankF R) (meetC R p (card6 p.pan)) R.length))
theorem grown_dcs {rts : List RouteM} {R : List RuleM} (hb : BookOk rts R) : Dcs (grownT rts R) rts R := ⟨rfl, rfl, grown_pt hb, fun p hp => grown_ends hb p hp⟩
def normT (t : TrD) : TrD := ⟨t.rts, t.nms, t.prs, t.root.norm⟩
theorem norm_dcs {rts : List RouteM} {R : List RuleM} (hb : BookOk rts R) (ho : (normT (grownT rts R)).Ok) : Dcs (normT (grownT rts R)) rts R := ⟨rfl, rfl, ok_pt ho, fun p hp => by
 obtain ⟨q, h3, h4⟩ := grown_ends hb p hp
 have hfn := find_norm (dg := dgt (card6 p.pan)) (fun n => Nat.mod_lt _ (by decide)) (grownT rts R).root 0
 refine ⟨q, ?_, h4⟩
 show (grownT rts R).prs[(grownT rts R).root.norm.find (dgt (card6 p.pan)) 0]? = some q
 rw [hfn]
 exact h3⟩
theorem dcs_dec {t : TrD} {rts : List RouteM} {R : List RuleM} (h : Dcs t rts R) (p : PayM) (dn : Nat -> Bool) : decG t.rts t.nms p dn (endM R (bestR (rankF R) (meetC R p (card6 p.pan)) R.length)) = decM rts R p dn := by
 rw [h.r, h.n, grown_dec]
theorem TzAt.decide {H : Nat} {w : World} {T : Nat} {t : TrD} {rts : List RouteM} {R : List RuleM} (h : TzAt H w T t) (hd : Dcs t rts R) (a : Option Addr) (c : Nat) (l : List ByteArray) (hst : StrsAt w a l) (hl : l.length <= maxLen) (p : PayM) (hs : p.pan.size <= maxLen) :
  Calls Tryz.prog 7 #[.pointer (some ⟨T, 0, none⟩), payV p, .slice a l.length c] w fun e w' => e = .returned (outV (decM rts R p (dnF rts l))) /\ F0 w w' := by
 obtain ⟨TT, _, h1, zb, ra, rc, _, _, h2⟩ := h
 have e := Decide_g w zb T TT t.rts ra rc _ _ _ a c l p _ ⟨h1, h2.1, hd.p, hst, hl⟩ (hd.e p) hs
 rw [dcs_dec hd, hd.r] at e
 exact e
set_option maxRecDepth 30000 in
set_option maxHeartbeats 1000000 in
theorem ktab_z (s : ByteArray) (w : World) (p : List RouteM × List RuleM) (hR : readM s = .ok p) :
  Calls Tryz.prog 13 #[.string s] w fun e w' => (∃ T, e = .returned (.pointer (some ⟨T, 0, none⟩)) /\ TzAt w.heap.size w' T (grownT p.1 p.2)) /\ F0 w w' := by
 have HC := hid (Compile_any s w)
 have HR := hid hR
 clear hR
 go_enter Tryz.func13, Tryz.ntmps13
 go_wp2_with fail
 refine HC.o.mono ?_
 rintro e w1 hP
 obtain ⟨⟨T, B, TT, vr, vl, xs, rfl, hT, hT0, hT1, hB, hk, htr⟩, hbl⟩ := (CPost.ok HR.o).1 hP
 have HF : Hid (F0 w w1) := Fr.of_below hbl
 have HT : Hid (TzAt w.heap.size w1 T (grownT p.1 p.2)) := by
  obtain ⟨ra, rc, e⟩ := ownsRow_len hk.ro
  subst e
  exact ⟨TT, hT, hT1, w.heap.size, ra, rc, Nat.le_refl _, htr.tz, htr.tg (ownsRow_base hk.ro (Nat.zero_le _)), ownsRow_base hk.ro (by omega)⟩
 clear hP hT hT0 hT1 hB hk htr hbl HC
 go_wp2_with fail
 go_ret
 exact ⟨⟨T, rfl, HT.o⟩, HF.o⟩
set_option maxRecDepth 30000 in
set_option maxHeartbeats 400000 in
theorem take_nil (w : World) (X : Nat) : Calls Tryz.prog 41 #[.pointer (some ⟨X, 0, none⟩), .pointer none] w fun e w' => e = .returned (.tuple #[]) /\ w' = w := by
 go_enter Tryz.func41, Tryz.ntmps41
 go_wp2_with fail
 go_end0
 exact ⟨rfl, rfl⟩
set_option maxRecDepth 30000 in
set_option maxHeartbeats 400000 in
theorem take_some (w : World) (X M TT n T TN : Nat) (D : DataW Unit) (h : SwM w X M TT n D) (hT : w.cell? ⟨T, 1, none⟩ = some (.pointer (some ⟨TN, 0, none⟩))) : Calls Tryz.prog 41 #[.pointer (some ⟨X, 0, none⟩), .pointer (some ⟨T, 0, none⟩)] w fun e w' => e = .returned (.tuple #[]) /\ SwM w' X M TN n D /\ Fr (fun k => k = X) w w' := by
 have c0 := block_cell h.bx 0 _ rfl
 have f0 := block_frozen h.bx 0
 have HH := hid h
 clear h
 go_enter Tryz.func41, Tryz.ntmps41
 go_wp2_with fail
 go_end0
 have hf : Fr (fun k => k = X) w (w.setCell ⟨X, 0, none⟩ (.pointer (some ⟨TN, 0, none⟩))) := (Fr.refl (fun k => k = X) w).setCell (p := ⟨X, 0, none⟩) (Or.inl rfl) _
 exact ⟨rfl, ⟨heap_setCell_same w X 0 _ _ _ HH.o.bx, ownsMap_fr HH.o.mp hf (fun e => HH.o.ne e.symm), HH.o.ne⟩, hf⟩
theorem SwM.lt {w : World} {X M TT n : Nat} {D : DataW Unit} (h : SwM w X M TT n D) : X < w.heap.size /\ M < w.heap.size := by
 obtain ⟨es, ck, h1, _⟩ := h.mp
 exact ⟨(Array.getElem?_eq_some_iff.1 h.bx).1, (Array.getElem?_eq_some_iff.1 h1).1⟩
set_option maxRecDepth 30000 in
set_option maxHeartbeats 400000 in
theorem Install_ok (w : World) (X M TT n : Nat) (D : DataW Unit) (s : ByteArray) (p : List RouteM × List RuleM) (h : SwM w X M TT n D) (hR : readM s = .ok p) :
  Calls Tryz.prog 19 #[.pointer (some ⟨X, 0, none⟩), .string s] w fun e w' => e = .returned (.tuple #[.int .i64 0, .int .i64 0]) /\ (∃ TN, SwM w' X M TN n D /\ TyAt w.heap.size w' TN (grownT p.1 p.2)) /\ Fr (fun k => k = X) w w' := by
 have HC := hid (Compile_any s w)
 have HR := hid hR
 have HH := hid h
 clear h hR
 go_enter Tryz.func19, Tryz.ntmps19
 go_wp2_with fail
 refine HC.o.mono ?_
 rintro e w1 hP
 obtain ⟨⟨T, B, TN, vr, vl, xs, rfl, hT, hT0, hT1, hB, hk, htr⟩, hbl⟩ := (CPost.ok HR.o).1 hP
 have HF : Hid (F0 w w1) := Fr.of_below hbl
 have HY : Hid (TyAt w.heap.size w1 TN (grownT p.1 p.2)) := by
  obtain ⟨ra, rc, e⟩ := ownsRow_len hk.ro
  subst e
  exact ⟨w.heap.size, ra, rc, Nat.le_refl _, htr.tz, htr.tg (ownsRow_base hk.ro (Nat.zero_le _)), ownsRow_base hk.ro (by omega)⟩
 have HT1 := hid hT1
 clear hP hT hT0 hT1 hB hk htr hbl HC
 go_wp2_with fail
 refine (take_some w1 X M TT n T TN D (HH.o.fr HF.o (by simp) (by simp)) HT1.o).mono ?_
 rintro e w2 ⟨rfl, hS, hf2⟩
 have HS := hid hS
 have HF2 := hid hf2
 clear hS hf2
 go_wp2_with fail
 go_ret2
 exact ⟨rfl, ⟨TN, HS.o, HY.o.fr HF2.o (fun k hk => by rw [hk]; exact HH.o.lt.1)⟩, (HF.o.mono (by simp)).trans HF2.o⟩
set_option maxRecDepth 30000 in
set_option maxHeartbeats 400000 in
theorem Install_err (w : World) (X : Nat) (s : ByteArray) (f : Nat × Nat) (hR : readM s = .error f) :
  Calls Tryz.prog 19 #[.pointer (some ⟨X, 0, none⟩), .string s] w fun e w' => e = .returned (.tuple #[.int .i64 f.1, .int .i64 f.2]) /\ F0 w w' := by
 have HC := hid (Compile_any s w)
 have HR := hid hR
 clear hR
 go_enter Tryz.func19, Tryz.ntmps19
 go_wp2_with fail
 refine HC.o.mono ?_
 rintro e w1 hP
 obtain ⟨rfl, hbl⟩ := (CPost.err HR.o).1 hP
 have HF : Hid (F0 w w1) := Fr.of_below hbl
 clear hP hbl HC
 go_wp2_with fail
 refine (take_nil w1 X).mono ?_
 rintro e w' ⟨rfl, he⟩
 replace he := he.symm
 subst he
 go_wp2_with fail
 go_ret2
 exact ⟨rfl, HF.o⟩
set_option maxRecDepth 30000 in
set_option maxHeartbeats 400000 in
theorem Put_some (w : World) (X M TT n : Nat) (D : DataW Unit) (s : ByteArray) (t : TrD) (h : SwM w X M TT n D) (hs : s.size <= 300000) (hL : loadM s.data.toList = some t) (hH : Hal w) :
  Calls Tryz.prog 22 #[.pointer (some ⟨X, 0, none⟩), .string s] w fun e w' => e = .returned (.bool true) /\ (∃ TN, SwM w' X M TN n D /\ TyAt w.heap.size w' TN t) /\ Fr (fun k => k = X) w w' := by
 have HC := hid (Load_any s w (by omega) hH)
 rw [hL] at HC
 have HH := hid h
 clear h hL hH
 go_enter Tryz.func22, Tryz.ntmps22
 go_wp2_with fail
 refine HC.o.mono ?_
 rintro e w1 hP
 obtain ⟨⟨T, Bb, zb, TN, ra, rc, rfl, h1, h2, h3, h4, h5, h6⟩, hf⟩ := hP
 have HF : Hid (F0 w w1) := hf
 have HY : Hid (TyAt w.heap.size w1 TN t) := ⟨zb, ra, rc, by omega, h5, h4⟩
 have HT1 := hid h2
 clear hf h1 h2 h3 h4 h5 h6 HC
 go_wp2_with fail
 refine (take_some w1 X M TT n T TN D (HH.o.fr HF.o (by simp) (by simp)) HT1.o).mono ?_
 rintro e w2 ⟨rfl, hS, hf2⟩
 have HS := hid hS
 have HF2 := hid hf2
 clear hS hf2
 go_wp2_with fail
 go_ret
 exact ⟨rfl, ⟨TN, HS.o, HY.o.fr HF2.o (fun k hk => by rw [hk]; exact HH.o.lt.1)⟩, (HF.o.mono (by simp)).trans HF2.o⟩
set_option maxRecDepth 30000 in
set_option maxHeartbeats 400000 in
theorem Put_none (w : World) (X : Nat) (s : ByteArray) (hs : s.size <= 300000) (hL : loadM s.data.toList = none) (hH : Hal w) :
  Calls Tryz.prog 22 #[.pointer (some ⟨X, 0, none⟩), .string s] w fun e w' => e = .returned (.bool false) /\ F0 w w' := by
 have HC := hid (Load_any s w (by omega) hH)
 rw [hL] at HC
 clear hL hH
 go_enter Tryz.func22, Tryz.ntmps22
 go_wp2_with fail
 refine HC.o.mono ?_
 rintro e w1 ⟨rfl, hf⟩
 have HF := hid hf
 clear hf HC
 go_wp2_with fail
 refine (take_nil w1 X).mono ?_
 rintro e w' ⟨rfl, he⟩
 replace he := he.symm
 subst he
 go_wp2_with fail
 go_ret
 exact ⟨rfl, HF.o⟩
def dnO : DataW Unit := .map []
def dnP (s : ByteArray) : DataW Unit := dnO.put (.string s.data.toList) (.agg [])
theorem str_key {a b : ByteArray} (h : a.data.toList ≠ b.data.toList) : (Lit.string a.data.toList) ≠ (Lit.string b.data.toList) := fun e => h (by injection e)
theorem dnP_has (b s : ByteArray) : dnS (dnP b) s = decide (s.data.toList = b.data.toList) := by
 unfold dnS dnP
 by_cases h : s.data.toList = b.data.toList
 ·have e := has_put_same (D := dnO) (k := Lit.string b.data.toList) ⟨[], rfl⟩ trivial (.agg [])
  rw [h, e]
  simp
 ·rw [has_put_other (str_key h)]
  simp [h]
  rfl
theorem dnD_has (b s : ByteArray) : dnS ((dnP b).del (.string b.data.toList)) s = false := by
 unfold dnS
 by_cases h : s.data.toList = b.data.toList
 ·rw [h, has_del_same]
 ·rw [has_del_other (str_key h)]
  have := dnP_has b s
  unfold dnS at this
  rw [this]
  simp [h]
theorem dnW_P (rts : List RouteM) (b : ByteArray) : dnW rts (dnP b) = dnF rts [b] := by
 funext i
 unfold dnW dnF
 cases rts[i]? with
 | none => rfl
 | some t =>
  show dnS (dnP b) t.name = inS [b] t.name
  rw [dnP_has]
  unfold inS
  simp only [ByteArray.toList_eq, List.any_cons, List.any_nil, Bool.or_false]
  by_cases h : t.name.data.toList = b.data.toList
  ·simp [h]
  ·rw [beq_eq_false_iff_ne.2 h]
   simpa using h
theorem dnW_O (rts : List RouteM) {D : DataW Unit} (h : ∀ s, dnS D s = false) : dnW rts D = dnF rts [] := by
 funext i
 unfold dnW dnF
 cases rts[i]? with
 | none => rfl
 | some t => exact h t.name
end Go.Proofs.YtccikgogjfbpeabGreatDoor

namespace Go.Proofs.YtccikgogjfbpeabGreatDoor
open Go.RowKit Go.Maps Go.WideMaps
theorem turned_fr {w w' : World} {M : Nat} (h : w.mapTurned w' M) : Fr (fun k => k = M) w w' := (Fr.refl _ w).grown h.grown (fun k hk => Or.inl (by injection hk with hk; exact hk.symm))
theorem empty_book : BookOk [] [] := ⟨by simp, by simp, trivial, by simp, by simp⟩
set_option maxRecDepth 30000 in
set_option maxHeartbeats 400000 in
theorem NewSwitch_any (w : World) : Calls Tryz.prog 12 #[] w fun e w' => (∃ X M TT zb ra rc, e = .returned (.pointer (some ⟨X, 0, none⟩)) /\ w.heap.size <= X /\ w.heap.size <= M /\ SwM w' X M TT 0 dnO /\ TgAt zb w' TT [] ra rc [] (grownT [] []).prs (grownT [] []).root) /\ F0 w w' := by
 have hmm := @run_makeMap Tryz.prog
 have HF0 : Hid (F0 w (w.alloc (.cells #[.slice none 0 0, .slice none 0 0] 59))) := (Fr.refl _ _).alloc _
 have HB0 := hid (heap_alloc_new w (.cells #[.slice none 0 0, .slice none 0 0] 59))
 go_enter Tryz.func12, Tryz.ntmps12
 go_wp2_with fail
 have HBk : Hid (Bk (w.alloc (.cells #[.slice none 0 0, .slice none 0 0] 59)) w.heap.size (.slice none 0 0) (.slice none 0 0) [] [] []) := ⟨block_cell HB0.o 0 _ rfl, block_cell HB0.o 1 _ rfl, fun o => block_frozen HB0.o o, World.ownsRow_nil _ _ _ _, World.ownsRow_nil _ _ _ _, rfl, by simp, by simp⟩
 refine (Grow_book _ w.heap.size _ _ [] [] [] 0 HBk.o empty_book (Nat.zero_le _)).mono ?_
 rintro e w1 ⟨⟨TT, rfl, _, hT⟩, hf1⟩
 have hTg := hT.tg (rts := []) (ra := none) (rc := 0) (World.ownsRow_nil _ _ _ _)
 have HF1 := hid (HF0.o.trans hf1)
 have HT1 := hid hTg
 clear hT hTg hf1 HBk HB0 HF0
 have HF2 : Hid (F0 w1 ((w1.alloc (.map #[] 0)).alloc (.cells #[.pointer (some ⟨TT, 0, none⟩), .map (some w1.heap.size)] 73))) := ((Fr.refl _ _).alloc _).alloc _
 have HB2 : Hid (((w1.alloc (.map #[] 0)).alloc (.cells #[.pointer (some ⟨TT, 0, none⟩), .map (some w1.heap.size)] 73)).heap[w1.heap.size + 1]? = some (.cells #[.pointer (some ⟨TT, 0, none⟩), .map (some w1.heap.size)] 73)) := by
  have e := heap_alloc_new (w1.alloc (.map #[] 0)) (.cells #[.pointer (some ⟨TT, 0, none⟩), .map (some w1.heap.size)] 73)
  rw [show (w1.alloc (.map #[] 0)).heap.size = w1.heap.size + 1 from by simp] at e
  exact e
 have HM2 : Hid (((w1.alloc (.map #[] 0)).alloc (.cells #[.pointer (some ⟨TT, 0, none⟩), .map (some w1.heap.size)] 73)).ownsMap Tryz.prog 9 (unitElem (H := Unit)) w1.heap.size 0 (.map [])) := ownsMap_fr (S := fun _ => False) (World.ownsMap_made _ _ _ _) ((Fr.refl _ _).alloc _) (by simp)
 go_wp2_with fail
 go_ret
 have hsz := HF1.o.size
 exact ⟨⟨_, _, TT, 0, none, 0, rfl, by omega, by omega, ⟨HB2.o, HM2.o, by omega⟩, HT1.o.fr HF2.o⟩, HF1.o.trans HF2.o⟩
set_option maxRecDepth 30000 in
set_option maxHeartbeats 400000 in
theorem Set_up (w : World) (X M TT n : Nat) (D : DataW Unit) (s : ByteArray) (h : SwM w X M TT n D) (hs : s.size <= maxLen) :
  Calls Tryz.prog 18 #[.pointer (some ⟨X, 0, none⟩), .string s, .bool true] w fun e w' => e = .returned (.tuple #[]) /\ SwM w' X M TT n (D.del (.string s.data.toList)) /\ Fr (fun k => k = M) w w' := by
 have c1 := block_cell h.bx 1 _ rfl
 have HK : Hid (keyOf Tryz.prog 9 (.string s) = some (.string s.data.toList)) := keyOf_string_mk Tryz.underlying9 hs
 have hr := fun ty => h.mp.drop lawStr Tryz.underlying71 HK.o ty
 have HH := hid h
 clear h hs
 obtain ⟨w2, hrun, ho, ht⟩ := hr 0
 have HO := hid ho
 have HT := hid (turned_fr ht)
 clear ho ht hr
 go_enter Tryz.func18, Tryz.ntmps18
 go_wp2_with fail
 go_end0
 exact ⟨rfl, ⟨HT.o.whole HH.o.bx HH.o.ne, HO.o, HH.o.ne⟩, HT.o⟩
set_option maxRecDepth 30000 in
set_option maxHeartbeats 1000000 in
theorem Set_down (w : World) (X M TT n : Nat) (D : DataW Unit) (s : ByteArray) (h : SwM w X M TT n D) (hn : n <= 1000) (hs : nameB s = true) :
  Calls Tryz.prog 18 #[.pointer (some ⟨X, 0, none⟩), .string s, .bool false] w fun e w' => e = .returned (.tuple #[]) /\ SwM w' X M TT (n + 1) (D.put (.string s.data.toList) (.agg [])) /\ Fr (fun k => k = M) w w' := by
 have h8 := nameB_size hs
 have HI := hid (IsName_any s w (by omega))
 rw [hs] at HI
 have HC : Hid (∀ W, Calls Tryz.prog 40 #[.string s] W fun e w' => e = .returned (.string s) /\ F0 W w') := fun W => Clone_any s W (by omega)
 have HK : Hid (keyOf Tryz.prog 9 (.string s) = some (.string s.data.toList)) := keyOf_string_mk Tryz.underlying9 (by unfold maxLen; omega)
 have HR : Hid (∀ W, F0 w W -> ∃ w', (Instr.mapUpdate 71 (.map (some M)) (.string s) (.agg #[])).run Tryz.prog W = .ok () w' /\ w'.ownsMap Tryz.prog 9 (unitElem (H := Unit)) M (n + 1) (D.put (.string s.data.toList) (.agg [])) /\ W.mapTurned w' M) := fun W hf => (h.fr hf (by simp) (by simp)).mp.store lawStr Tryz.underlying71 (by unfold maxLen; omega) HK.o unitElem_mk
 have HS : Hid (∀ W, F0 w W -> W.cell? ⟨X, 1, none⟩ = some (.map (some M))) := fun W hf => block_cell (hf.whole h.bx (by simp)) 1 _ rfl
 have HH := hid h
 clear h hs hn h8
 go_enter Tryz.func18, Tryz.ntmps18
 go_wp2_with fail
 refine HI.o.mono ?_
 rintro e w1 ⟨rfl, hf1⟩
 have HF1 := hid hf1
 clear hf1 HI
 go_wp2_with fail
 refine wp_region_held_drew (S := fun W => W.cell? ⟨X, 1, none⟩ = some (.map (some M))) (by kernel_rfl) (HS.o _ HF1.o.drew) (fun hH => ?_)
 refine htk 0 (v := ?v0z) ?y0z hH ?r0z
 case y0z =>
  intro w c1
  go_simp
  with_reducible rfl
 try go_frame
 refine htk 1 (v := ?v1z) ?y1z hH ?r1z
 case y1z =>
  intro w c1
  go_simp
  with_reducible rfl
 try go_frame
 refine htk 2 (v := ?v2z) ?y2z hH ?r2z
 case y2z =>
  intro w c1
  go_simp
  with_reducible rfl
 try go_frame
 refine htk 3 (v := ?v3z) ?y3z hH ?r3z
 case y3z =>
  intro w c1
  go_simp
  with_reducible rfl
 try go_frame
 refine htk 4 (v := ?v4z) ?y4z hH ?r4z
 case y4z =>
  intro w c1
  go_simp
  with_reducible rfl
 try go_frame
 refine htk 6 (v := ?v6z) ?y6z hH ?r6z
 case y6z =>
  intro w c1
  go_simp
  with_reducible rfl
 try go_frame
 refine wpAnyH_ready (rs := [5]) (by kernel_rfl) (by simp) ?_
 refine held_cons rfl (fun K2 hK => ?_) AllReadyH.nil
 try rw [if_pos (by rfl)]
 go_simp
 refine (HC.o _).mono ?_
 rintro e w2 ⟨rfl, hf2⟩
 have HF2 := hid (HF1.o.drew.trans hf2)
 clear hf2
 refine hK.out _ _ (HS.o _ HF2.o) (fun hH => ?_)
 clear hK K2
 try go_frame
 obtain ⟨w3, hrun, ho, ht⟩ := HR.o w2 HF2.o
 have HO := hid ho
 have HT := hid (turned_fr ht)
 clear ho ht
 refine wpAnyH_ready (rs := [7]) (by kernel_rfl) (by simp) ?_
 refine held_cons rfl (fun K2 hK => ?_) AllReadyH.nil
 try rw [if_pos (by rfl)]
 go_simp
 have hne := HH.o.ne
 have bX := HT.o.whole (HF2.o.whole HH.o.bx (by simp)) hne
 refine hK.out _ _ (block_cell bX 1 _ rfl) (fun hH => ?_)
 clear hK K2
 try go_frame
 refine wpAnyH_done (by kernel_rfl) ?_ _
 go_wp2_with fail
 go_end0
 exact ⟨rfl, ⟨bX, HO.o, hne⟩, (HF2.o.mono (by simp)).trans HT.o⟩
end Go.Proofs.YtccikgogjfbpeabGreatDoor
