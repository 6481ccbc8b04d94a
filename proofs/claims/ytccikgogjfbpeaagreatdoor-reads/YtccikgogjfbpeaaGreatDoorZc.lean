/- The plain text of a book: plainRoutes. -/
import Derived.Test.YtccikgogjfbpeaaGreatDoorZb
namespace Go.Proofs.YtccikgogjfbpeaaGreatDoor
open Go.RowKit

/-- Two strings, one behind the other. -/
theorem cat_of (a b : ByteArray) (m n : Nat) (ha : a.size ≤ m) (hb : b.size ≤ n) (h : m + n ≤ 80000000) : ∃ y, Hid (y = a ++ b) ∧ y.size ≤ m + n ∧ ∀ W, (Op.stringOp .add a b).run Tryz.prog W = .ok (.string y) W :=
 ⟨a ++ b, rfl, by rw [ByteArray.size_append]; omega, fun W => run_string_add_sum W a b (by omega)⟩
/-- While a text is written: the builder, and one block more. -/
structure Wr (w0 : World) (B b : Nat) (l : List UInt8) (X : Nat) (o : Obj) (W : World) : Prop where
 bd : Bd W B b l
 be : Below B w0 W
 le : B ≤ W.heap.size
 ob : W.heap[X]? = some o
 ok : Lib.OthersKept 5 (some b) w0 W
theorem ok_fr {b : Option Nat} {w0 W W' : World} (h : Lib.OthersKept 5 b w0 W) (hf : Fr (fun _ => False) W W') : Lib.OthersKept 5 b w0 W' := fun k o hk hb ho => hf.whole (h k o hk hb ho) (by simp)
theorem ok_below {b : Option Nat} {w W : World} (h : Below w.heap.size w W) : Lib.OthersKept 5 b w W := fun k o hk _ _ => by
 rw [h.block k (Array.getElem?_eq_some_iff.1 hk).1]
 exact hk
theorem Wr.fr {w0 : World} {B b : Nat} {l : List UInt8} {X : Nat} {o : Obj} {W W' : World} (h : Wr w0 B b l X o W) (hf : Fr (fun _ => False) W W') : Wr w0 B b l X o W' :=
 ⟨h.bd.fr hf, h.be.trans (hf.below h.le (by simp)), Nat.le_trans h.le hf.size, hf.whole h.ob (by simp), ok_fr h.ok hf⟩
theorem Wr.write {w0 : World} {B b : Nat} {l : List UInt8} {X : Nat} {cs : Array Value} {T : TypeId} {W : World} (h : Wr w0 B b l X (.cells cs T) W) (s : ByteArray) (hs : l.length + s.size ≤ 140737488355328) (hX : X ≠ b) (hT : T ≠ 5) :
  Calls Tryz.prog 105 #[.pointer (some ⟨b, 0, none⟩), .string s] W fun e w' => e = .returned (.tuple #[.int .i64 s.size, .nilIface]) ∧ Wr w0 B b (l ++ s.data.toList) X (.cells cs T) w' :=
 (write_any B b l s W h.bd hs h.le).mono fun e w' ⟨he, hb, hB, hk⟩ => ⟨he, hb, h.be.trans hB, Nat.le_trans h.le hB.size, hk X _ h.ob (by simpa using hX) (fun c fz e => by injection e with _ e2; exact hT e2), h.ok.trans hk⟩
theorem Wr.itoa {w0 : World} {B b : Nat} {l : List UInt8} {X : Nat} {o : Obj} {W : World} (h : Wr w0 B b l X o W) (ht : ∀ w', Below B w0 w' → Tab w') (m : Nat) (hm : m < 1000000000) :
  Calls Tryz.prog 106 #[.int .i64 (m : Int)] W fun e w' => e = .returned (.string (strB (decN m))) ∧ Wr w0 B b l X o w' :=
 (Itoa_any m W (by omega) (ht W h.be)).mono fun e w' ⟨he, hf⟩ => ⟨he, h.fr hf⟩
/-- A part of the row of routes. -/
def RtSl (w : World) (B : Nat) (a : Option Addr) (rts : List RouteM) : Prop :=
 ∀ j t, rts[j]? = some t → ∃ g o, a = some ⟨g, o, none⟩ ∧ g < B ∧ w.cell? ⟨g, o + j * 3, none⟩ = some (.string t.name) ∧ w.cell? ⟨g, o + j * 3 + 1, none⟩ = some (.int .i64 t.base) ∧ w.cell? ⟨g, o + j * 3 + 2, none⟩ = some (.int .i64 t.rate)
theorem plRt_len (t : RouteM) (h : RtOk t) : (plRt t).length ≤ 3060 := by
 have h1 := decN_len _ h.2.1
 have h2 := decN_len _ h.2.2
 have h3 : t.name.data.toList.length = t.name.size := by simp
 have h0 := h.1
 unfold plRt
 simp only [List.length_append, List.length_cons, List.length_nil]
 omega
theorem rts_len (l : List RouteM) (h : ∀ t, t ∈ l → RtOk t) : (l.flatMap plRt).length ≤ l.length * 3060 := by
 induction l with
 | nil => simp
 | cons x r ih =>
  have h1 := ih (fun t ht => h t (by simp [ht]))
  have h2 := plRt_len x (h x (by simp))
  rw [List.flatMap_cons, List.length_append, List.length_cons, Nat.add_mul]
  omega
set_option maxRecDepth 30000 in
set_option maxHeartbeats 4000000 in
theorem plainRoutes_any (w : World) (B b : Nat) (l0 : List UInt8) (a : Option Addr) (c : Nat) (rts : List RouteM) (hB : B ≤ w.heap.size) (hd : Bd w B b l0) (htB : ∀ w', Below B w w' → Tab w') (hr : RtSl w B a rts) (hok : ∀ t, t ∈ rts → RtOk t) (hn6 : rts.length ≤ 6) (hl0 : l0.length ≤ 100000000) :
  Calls Tryz.prog 59 #[.pointer (some ⟨b, 0, none⟩), .slice a rts.length c] w fun e w' => e = .returned (.tuple #[]) ∧ Bd w' B b (l0 ++ rts.flatMap plRt) ∧ Below B w w' ∧ Lib.OthersKept 5 (some b) w w' := by
 have HD : Hid (Bd w B b l0) := hd
 have HTB : Hid (∀ w', Below B w w' → Tab w') := htB
 have HR : Hid (RtSl w B a rts) := hr
 have HOK : Hid (∀ t, t ∈ rts → RtOk t) := hok
 obtain ⟨n, hn⟩ : ∃ n, rts.length = n := ⟨_, rfl⟩
 have HN : Hid (rts.length = n) := hn
 rw [hn] at hn6 ⊢
 clear hd htB hr hok hn
 go_enter Tryz.func59, Tryz.ntmps59
 go_wp2_with fail
 go_loopg [5, 8] n (fun m _ ix wr => ∃ k, k ≤ n ∧ m = n - k ∧ ix = .int .i64 (k : Nat) ∧ Hid (Bd wr B b (l0 ++ (rts.take k).flatMap plRt)) ∧ Hid (Below B w wr) ∧ Hid (Lib.OthersKept 5 (some b) w wr))
 case atStart => exact ⟨0, Nat.zero_le _, rfl, rfl, by show Bd _ _ _ _; simpa using HD.out, Below.refl _ _, Lib.OthersKept.refl _ _ _⟩
 case round =>
  obtain ⟨k, hk, rfl, rfl, HBd, HF, HOT⟩ := hrel
  by_cases hlt : k < n
  ·obtain ⟨t, htk⟩ : ∃ t, rts[k]? = some t := ⟨_, List.getElem?_eq_getElem (by have := HN.out; omega)⟩
   obtain ⟨g, o, ha, hg, c0, c1, c2⟩ := HR.out k t htk
   have hgw : g < w.heap.size := by omega
   have hcc : ∀ j v, w.cell? ⟨g, j, none⟩ = some v → wr.cell? ⟨g, j, none⟩ = some v := fun j v hv => by
    rw [show wr.cell? ⟨g, j, none⟩ = w.cell? ⟨g, j, none⟩ from by simp only [World.cell?, HF.out.block g hg]]
    exact hv
   replace c0 := hcc _ _ c0
   replace c1 := hcc _ _ c1
   replace c2 := hcc _ _ c2
   clear hcc
   subst ha
   have hki : (k : Int) < (n : Int) := by omega
   have HTK : Hid (l0 ++ (rts.take (k + 1)).flatMap plRt = (l0 ++ (rts.take k).flatMap plRt) ++ plRt t) := by show _ = _; rw [List.take_add_one, htk, List.flatMap_append, List.append_assoc]; simp
   have hok := HOK.out t (List.mem_of_getElem? htk)
   have hnm := hok.1
   have hbs : (strB (decN t.base)).size ≤ 21 := decN_len _ hok.2.1
   have hrs : (strB (decN t.rate)).size ≤ 21 := decN_len _ hok.2.2
   have HOKt : Hid (RtOk t) := hok
   have HLE : Hid (B ≤ wr.heap.size) := Nat.le_trans hB HF.out.size
   have hlen : (l0 ++ (rts.take k).flatMap plRt).length ≤ 100100000 := by
    have h1 := rts_len (rts.take k) (fun t ht => HOK.out t (List.mem_of_mem_take ht))
    have h2 : (rts.take k).length ≤ 6 := by rw [List.length_take]; omega
    have h3 : (rts.take k).length * 3060 ≤ 6 * 3060 := Nat.mul_le_mul h2 (Nat.le_refl _)
    rw [List.length_append]
    omega
   obtain ⟨l1, hl1⟩ : ∃ l1, l1 = l0 ++ (rts.take k).flatMap plRt := ⟨_, rfl⟩
   rw [← hl1] at HBd HTK hlen
   clear htk hok hl1
   go_upto_region 3 with fail
   have HZ : Hid (Wr w B b l1 wr.heap.size (.cells #[.string t.name, .int .i64 t.base, .int .i64 t.rate] 148) (wr.alloc (.cells #[.string t.name, .int .i64 t.base, .int .i64 t.rate] 148))) :=
    ⟨HBd.out.fr ((Fr.refl _ _).alloc _), HF.out.trans (((Fr.refl (fun _ => False) wr).alloc _).below HLE.out (by simp)), Nat.le_trans HLE.out (by simp), heap_alloc_new wr _, ok_fr HOT.out ((Fr.refl _ _).alloc _)⟩
   have HXb : Hid (wr.heap.size ≠ b) := by have := HBd.out.lt.2; show _ ≠ _; omega
   generalize wr.alloc (.cells #[.string t.name, .int .i64 t.base, .int .i64 t.rate] 148) = W1 at *
   generalize wr.heap.size = X at *
   have HSC : Hid (∀ l W, Wr w B b l X (.cells #[.string t.name, .int .i64 t.base, .int .i64 t.rate] 148) W → W.cell? ⟨X, 0, none⟩ = some (.string t.name) ∧ W.cell? ⟨X, 1, none⟩ = some (.int .i64 t.base) ∧ W.cell? ⟨X, 2, none⟩ = some (.int .i64 t.rate)) := fun l W h => ⟨block_cell h.ob 0 _ rfl, block_cell h.ob 1 _ rfl, block_cell h.ob 2 _ rfl⟩
   have HI : Hid (∀ (m : Nat) (W : World), Hid (m < 1000000000) → Hid (Wr w B b l1 X (.cells #[.string t.name, .int .i64 t.base, .int .i64 t.rate] 148) W) → Calls Tryz.prog 106 #[.int .i64 (m : Int)] W fun e w' => e = .returned (.string (strB (decN m))) ∧ Hid (Wr w B b l1 X (.cells #[.string t.name, .int .i64 t.base, .int .i64 t.rate] 148) w') ∧ w'.cell? ⟨X, 0, none⟩ = some (.string t.name) ∧ w'.cell? ⟨X, 1, none⟩ = some (.int .i64 t.base) ∧ w'.cell? ⟨X, 2, none⟩ = some (.int .i64 t.rate)) :=
    fun m W hm hZ => (hZ.out.itoa HTB.out m hm.out).mono fun e w' ⟨he, hz⟩ => ⟨he, hz, HSC.out _ _ hz⟩
   have HW : Hid (∀ (s : ByteArray) (W : World), s.size ≤ 4000 → Hid (Wr w B b l1 X (.cells #[.string t.name, .int .i64 t.base, .int .i64 t.rate] 148) W) → Calls Tryz.prog 105 #[.pointer (some ⟨b, 0, none⟩), .string s] W fun e w' => e = .returned (.tuple #[.int .i64 s.size, .nilIface]) ∧ Hid (Wr w B b (l1 ++ s.data.toList) X (.cells #[.string t.name, .int .i64 t.base, .int .i64 t.rate] 148) w') ∧ w'.cell? ⟨X, 0, none⟩ = some (.string t.name) ∧ w'.cell? ⟨X, 1, none⟩ = some (.int .i64 t.base) ∧ w'.cell? ⟨X, 2, none⟩ = some (.int .i64 t.rate)) :=
    fun s W hs hZ => (hZ.out.write s (by omega) HXb.out (by decide)).mono fun e w' ⟨he, hz⟩ => ⟨he, hz, HSC.out _ _ hz⟩
   have HB1 : Hid (t.base < 1000000000) := HOKt.out.2.1
   have HB2 : Hid (t.rate < 1000000000) := HOKt.out.2.2
   obtain ⟨s0, s1, s2⟩ := HSC.out _ _ HZ.out
   clear c0 c1 c2
   have HZd : Hid (Wr w B b l1 X (.cells #[.string t.name, .int .i64 t.base, .int .i64 t.rate] 148) W1.drew) := HZ.out.fr (Fr.refl _ _).drew
   clear HZ
   obtain ⟨y1, HY1, z1, k1⟩ := cat_of ⟨#[114, 111, 117, 116, 101, 32]⟩ t.name 6 3000 (by decide) hnm (by omega)
   obtain ⟨y2, HY2, z2, k2⟩ := cat_of y1 ⟨#[32]⟩ _ 1 z1 (by decide) (by omega)
   obtain ⟨y3, HY3, z3, k3⟩ := cat_of y2 (strB (decN t.base)) _ 21 z2 hbs (by omega)
   obtain ⟨y4, HY4, z4, k4⟩ := cat_of y3 ⟨#[32]⟩ _ 1 z3 (by decide) (by omega)
   obtain ⟨y5, HY5, z5, k5⟩ := cat_of y4 (strB (decN t.rate)) _ 21 z4 hrs (by omega)
   obtain ⟨y6, HY6, z6, k6⟩ := cat_of y5 ⟨#[59, 10]⟩ _ 2 z5 (by decide) (by omega)
   go_region_held3 (fun W => W.cell? ⟨X, 0, none⟩ = some (.string t.name) ∧ W.cell? ⟨X, 1, none⟩ = some (.int .i64 t.base) ∧ W.cell? ⟨X, 2, none⟩ = some (.int .i64 t.rate)) (first | assumption | go_keep) (first
    | (go_at_call 106; refine (HI.out _ _ (by assumption) (by assumption)).mono ?_; rintro e w7 ⟨rfl, HZ7, hS7⟩)
    | (go_at_call 105; refine (HW.out _ _ (by omega) (by assumption)).mono ?_; rintro e w7 ⟨rfl, HZE, hS7⟩))
   have HY : Hid (y6.data.toList = plRt t) := by
    show _ = _
    rw [HY6.out, HY5.out, HY4.out, HY3.out, HY2.out, HY1.out]
    simp [plRt, strB]
   clear hS7
   go_wp2
   go_roundg (n - (k + 1))
   case measure => omega
   case rel =>
    refine ⟨k + 1, by omega, rfl, by go_num, ?_, HZE.out.be, HZE.out.ok⟩
    show Bd _ _ _ _
    have e := HZE.out.bd
    rw [HY.out] at e
    rw [HTK.out]
    exact e
  ·have hki : ¬ (k : Int) < (n : Int) := by omega
   have ek : k = n := by omega
   subst ek
   have HBf : Hid (Bd wr B b (l0 ++ rts.flatMap plRt)) := by
    have e := HBd.out
    rw [List.take_of_length_le (by have := HN.out; omega)] at e
    exact e
   go_wp2_with fail
   go_end0
   exact ⟨rfl, HBf.out, HF.out, HOT.out⟩
end Go.Proofs.YtccikgogjfbpeaaGreatDoor
