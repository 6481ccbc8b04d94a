/- The plain text of a book: plainRule. -/
import Derived.Test.YtccikgogjfbpeaaGreatDoorVHa
import Derived.Test.YtccikgogjfbpeaaGreatDoorVZb
import Derived.Deep.DeepCutAuto
namespace Go.Proofs.YtccikgogjfbpeaaGreatDoor
open Go.RowKit

/-- The parts of a rule's plain text. -/
def tx1 (nm : ByteArray) (rk : Nat) : Bs := [114, 117, 108, 101, 32] ++ (nm.data.toList ++ (32 :: (decN rk ++ [58])))
def tx2 (dg lo hi : Nat) : Bs := [32, 98, 105, 110, 32] ++ (padL lo dg ++ (46 :: 46 :: padL hi dg))
def tx4 (has : Bool) (a7 a8 : Nat) : Bs := if has then [32, 97, 109, 111, 117, 110, 116, 32] ++ (decN a7 ++ (46 :: 46 :: decN a8)) else []
def tx6 (dc ch : Bool) (l : List Bs) : Bs := [32, 45, 62, 32] ++ (actB dc ch l ++ [59, 10])
theorem plRl_parts (rts : List RouteM) (r : RuleM) : plRl rts r = tx1 r.name r.rank ++ (tx2 r.digits r.lo r.hi ++ (gJ [109, 99, 99] r.mcc ++ (tx4 r.am.isSome (r.am.getD (0, 0)).1 (r.am.getD (0, 0)).2 ++ (gJ [99, 117, 114] r.cur ++ tx6 r.decline r.cheapest (r.routes.map (nameAt rts)))))) := by
 have e : tx4 r.am.isSome (r.am.getD (0, 0)).1 (r.am.getD (0, 0)).2 = aJ r.am := by cases r.am <;> rfl
 rw [e]
 unfold plRl tx1 tx2 tx6
 rw [← actB_eq]
 simp
theorem padL_len (n d : Nat) (h : (decN n).length ≤ d) : (padL n d).length = d := by unfold padL; rw [List.length_append, List.length_replicate]; omega
set_option maxRecDepth 30000 in
set_option maxHeartbeats 20000000 in
theorem plainRule_any (w0 W : World) (b Bb : Nat) (l0 : List UInt8) (vr : Value) (rts : List RouteM) (nm : ByteArray) (rk dg lo hi : Nat) (mcc cur ps : List Nat) (has : Bool) (a7 a8 : Nat) (dc ch : Bool) (ah : Nat) (ma ca pa : Option Addr) (mc cc pc : Nat)
  (hbd : Bd W w0.heap.size b l0) (hbe : Below w0.heap.size w0 W) (htB : ∀ w', Below w0.heap.size w0 w' → Tab w')
  (hb0 : w0.cell? ⟨Bb, 0, none⟩ = some vr) (hro : w0.ownsRow (Bb + 1) 148 3 vr rts.length (rtRow rts)) (h6 : rts.length ≤ 6) (hrt : ∀ t, t ∈ rts → t.name.size ≤ 3000)
  (hm : w0.ownsRow (Bb + 1) 3 1 (.slice ma mcc.length mc) mcc.length (intRow mcc)) (hc : w0.ownsRow (Bb + 1) 3 1 (.slice ca cur.length cc) cur.length (intRow cur)) (hp : w0.ownsRow (Bb + 1) 3 1 (.slice pa ps.length pc) ps.length (intRow ps))
  (hnm : nm.size ≤ 3000) (hrk : rk < 1000000000) (hdg : dg ≤ 9) (hlo : lo < 1000000000 ∧ (decN lo).length ≤ dg) (hhi : hi < 1000000000 ∧ (decN hi).length ≤ dg) (hmc : mcc.length ≤ 4000 ∧ ∀ x, x ∈ mcc → x < 1000000000) (hcu : cur.length ≤ 4000 ∧ ∀ x, x ∈ cur → x < 1000000000) (ham : a7 < 1000000000 ∧ a8 < 1000000000) (hpl : ps.length ≤ 4000 ∧ ∀ x, x ∈ ps → x < rts.length) (hl0 : l0.length ≤ 1000000000) :
  Calls Tryz.prog 60 #[.pointer (some ⟨Bb, 0, none⟩), .pointer (some ⟨b, 0, none⟩), ruAgg nm rk dg lo hi ma mcc.length mc has a7 a8 ca cur.length cc dc ch pa ps.length pc ah] W fun e w' => e = .returned (.tuple #[]) ∧ Bd w' w0.heap.size b (l0 ++ (tx1 nm rk ++ (tx2 dg lo hi ++ (gJ [109, 99, 99] mcc ++ (tx4 has a7 a8 ++ (gJ [99, 117, 114] cur ++ tx6 dc ch (ps.map (nameAt rts)))))))) ∧ Below w0.heap.size w0 w' := by
 unfold ruAgg
 have HTB := hid htB
 have HNUM : Hid (∀ (l : List Nat) (a : Option Addr) (c : Nat) (W : World), Below w0.heap.size w0 W → w0.ownsRow (Bb + 1) 3 1 (.slice a l.length c) l.length (intRow l) → 0 < l.length → l.length ≤ 4000 → (∀ x, x ∈ l → x < 1000000000) → Calls Tryz.prog 108 #[.slice a l.length c] W fun e w' => e = .returned (.string (strB (commaN (l.map decN)))) ∧ Fr (fun _ => False) W w') :=
  fun l a c W hW ho h0 hl hx => plainNumbers_any W (Bb + 1) _ l (ownsRow_fr (S := fun _ => False) ho (Fr.of_below hW) (by simp)) h0 hl hx (htB W hW)
 have HACT : Hid (∀ W, Below w0.heap.size w0 W → Calls Tryz.prog 109 #[.pointer (some ⟨Bb, 0, none⟩), ruAgg nm rk dg lo hi ma mcc.length mc has a7 a8 ca cur.length cc dc ch pa ps.length pc ah] W fun e w' => e = .returned (.string (strB (actB dc ch (ps.map (nameAt rts))))) ∧ Fr (fun _ => False) W w') := fun W hW => by
  have hF : Fr (fun _ => False) w0 W := Fr.of_below hW
  exact plainAction_any W Bb vr rts (Bb + 1) ps nm rk dg lo hi ma mcc.length mc has a7 a8 ca cur.length cc dc ch pa pc ah ((hF.cell (p := ⟨Bb, 0, none⟩) (World.block_lt_of_cell? w0 _ hb0) (by simp)).trans hb0) (ownsRow_fr hro hF (by simp)) (ownsRow_fr hp hF (by simp)) hpl.1 hpl.2 hrt h6
 have HM := hid hm
 have HC := hid hc
 have HMC := hid hmc
 have HCU := hid hcu
 have HPLN : Hid (∀ x, x ∈ ps.map (nameAt rts) → x.length ≤ 3000) := fun x hx => by
  obtain ⟨p, hp, rfl⟩ := List.mem_map.1 hx
  unfold nameAt
  cases hq : rts[p]? with
  | none => simp
  | some t => have := hrt t (List.mem_of_getElem? hq); simpa using this
 have has1 : (strB (actB dc ch (ps.map (nameAt rts)))).size ≤ 13000000 := by
  have h1 := comma_len (ps.map (nameAt rts)) 3000 HPLN.out
  rw [List.length_map] at h1
  have h2 : ps.length * (3000 + 2) ≤ 4000 * 3002 := Nat.mul_le_mul hpl.1 (by omega)
  rw [strB_size]
  unfold actB
  cases dc <;> cases ch <;> simp <;> omega
 have hms : (strB (commaN (mcc.map decN))).size ≤ 100000 := by
  have h1 := comma_len (mcc.map decN) 21 (fun x hx => by obtain ⟨y, hy, rfl⟩ := List.mem_map.1 hx; exact decN_len y (hmc.2 y hy))
  rw [List.length_map] at h1
  rw [strB_size]
  omega
 have hcs : (strB (commaN (cur.map decN))).size ≤ 100000 := by
  have h1 := comma_len (cur.map decN) 21 (fun x hx => by obtain ⟨y, hy, rfl⟩ := List.mem_map.1 hx; exact decN_len y (hcu.2 y hy))
  rw [List.length_map] at h1
  rw [strB_size]
  omega
 have hrs : (strB (decN rk)).size ≤ 21 := decN_len _ hrk
 have h7s : (strB (decN a7)).size ≤ 21 := decN_len _ ham.1
 have h8s : (strB (decN a8)).size ≤ 21 := decN_len _ ham.2
 have hls : (strB (padL lo dg)).size ≤ 9 := by rw [strB_size, padL_len _ _ hlo.2]; exact hdg
 have hhs : (strB (padL hi dg)).size ≤ 9 := by rw [strB_size, padL_len _ _ hhi.2]; exact hdg
 have HBD := hid hbd
 have HBE := hid hbe
 have HRK := hid hrk
 have HA7 := hid ham.1
 have HA8 := hid ham.2
 have HLO : Hid (lo < 1000000000 ∧ dg ≤ 9 ∧ (decN lo).length ≤ dg) := ⟨hlo.1, hdg, hlo.2⟩
 have HHI : Hid (hi < 1000000000 ∧ dg ≤ 9 ∧ (decN hi).length ≤ dg) := ⟨hhi.1, hdg, hhi.2⟩
 have hlm := hmc.1
 have hlc := hcu.1
 obtain ⟨mn, hmn⟩ : ∃ mn, mcc.length = mn := ⟨_, rfl⟩
 obtain ⟨cn, hcn⟩ : ∃ cn, cur.length = cn := ⟨_, rfl⟩
 obtain ⟨pn, hpn⟩ : ∃ pn, ps.length = pn := ⟨_, rfl⟩
 have HMN := hid hmn
 have HCN := hid hcn
 rw [hmn] at HM HACT hlm
 rw [hcn] at HC HACT hlc
 rw [hpn] at HACT
 rw [hmn, hcn, hpn]
 clear hbd hbe htB hb0 hro h6 hrt hm hc hp hmc hcu ham hpl hlo hhi hdg hrk hmn hcn hpn
 go_enter Tryz.func60, Tryz.ntmps60
 go_upto_region 1 with fail
 have HZ : Hid (Wr w0 w0.heap.size b l0 W.heap.size (.cells #[.string nm, .int .i64 (rk : Nat), .int .i64 (dg : Nat), .int .i64 (lo : Nat), .int .i64 (hi : Nat), .slice ma mn mc, .bool has, .int .i64 (a7 : Nat), .int .i64 (a8 : Nat), .slice ca cn cc, .bool dc, .bool ch, .slice pa pn pc, .int .i64 (ah : Nat)] 120) (W.alloc (.cells #[.string nm, .int .i64 (rk : Nat), .int .i64 (dg : Nat), .int .i64 (lo : Nat), .int .i64 (hi : Nat), .slice ma mn mc, .bool has, .int .i64 (a7 : Nat), .int .i64 (a8 : Nat), .slice ca cn cc, .bool dc, .bool ch, .slice pa pn pc, .int .i64 (ah : Nat)] 120))) :=
  ⟨HBD.out.fr ((Fr.refl _ _).alloc _), HBE.out.trans (((Fr.refl (fun _ => False) W).alloc _).below HBE.out.size (by simp)), Nat.le_trans HBE.out.size (by simp), heap_alloc_new W _, ok_below (HBE.out.trans (((Fr.refl (fun _ => False) W).alloc _).below HBE.out.size (by simp)))⟩
 have HXb : Hid (W.heap.size ≠ b) := by have := HBD.out.lt.2; show _ ≠ _; omega
 generalize W.alloc (.cells #[.string nm, .int .i64 (rk : Nat), .int .i64 (dg : Nat), .int .i64 (lo : Nat), .int .i64 (hi : Nat), .slice ma mn mc, .bool has, .int .i64 (a7 : Nat), .int .i64 (a8 : Nat), .slice ca cn cc, .bool dc, .bool ch, .slice pa pn pc, .int .i64 (ah : Nat)] 120) = W1 at *
 generalize W.heap.size = X at *
 have HSC : Hid (∀ l W, Wr w0 w0.heap.size b l X (.cells #[.string nm, .int .i64 (rk : Nat), .int .i64 (dg : Nat), .int .i64 (lo : Nat), .int .i64 (hi : Nat), .slice ma mn mc, .bool has, .int .i64 (a7 : Nat), .int .i64 (a8 : Nat), .slice ca cn cc, .bool dc, .bool ch, .slice pa pn pc, .int .i64 (ah : Nat)] 120) W → W.cell? ⟨X, 0, none⟩ = some (.string nm) ∧ W.cell? ⟨X, 1, none⟩ = some (.int .i64 (rk : Nat)) ∧ W.cell? ⟨X, 2, none⟩ = some (.int .i64 (dg : Nat)) ∧ W.cell? ⟨X, 3, none⟩ = some (.int .i64 (lo : Nat)) ∧ W.cell? ⟨X, 4, none⟩ = some (.int .i64 (hi : Nat)) ∧ W.cell? ⟨X, 5, none⟩ = some (.slice ma mn mc) ∧ W.cell? ⟨X, 6, none⟩ = some (.bool has) ∧ W.cell? ⟨X, 7, none⟩ = some (.int .i64 (a7 : Nat)) ∧ W.cell? ⟨X, 8, none⟩ = some (.int .i64 (a8 : Nat)) ∧ W.cell? ⟨X, 9, none⟩ = some (.slice ca cn cc) ∧ W.cell? ⟨X, 10, none⟩ = some (.bool dc) ∧ W.cell? ⟨X, 11, none⟩ = some (.bool ch) ∧ W.cell? ⟨X, 12, none⟩ = some (.slice pa pn pc) ∧ W.cell? ⟨X, 13, none⟩ = some (.int .i64 (ah : Nat))) := fun l W h => ⟨block_cell h.ob 0 _ rfl, block_cell h.ob 1 _ rfl, block_cell h.ob 2 _ rfl, block_cell h.ob 3 _ rfl, block_cell h.ob 4 _ rfl, block_cell h.ob 5 _ rfl, block_cell h.ob 6 _ rfl, block_cell h.ob 7 _ rfl, block_cell h.ob 8 _ rfl, block_cell h.ob 9 _ rfl, block_cell h.ob 10 _ rfl, block_cell h.ob 11 _ rfl, block_cell h.ob 12 _ rfl, block_cell h.ob 13 _ rfl⟩
 have HI : Hid (∀ (l : List UInt8) (m : Nat) (W : World), Hid (m < 1000000000) → Hid (Wr w0 w0.heap.size b l X (.cells #[.string nm, .int .i64 (rk : Nat), .int .i64 (dg : Nat), .int .i64 (lo : Nat), .int .i64 (hi : Nat), .slice ma mn mc, .bool has, .int .i64 (a7 : Nat), .int .i64 (a8 : Nat), .slice ca cn cc, .bool dc, .bool ch, .slice pa pn pc, .int .i64 (ah : Nat)] 120) W) → Calls Tryz.prog 106 #[.int .i64 (m : Int)] W fun e w' => e = .returned (.string (strB (decN m))) ∧ Hid (Wr w0 w0.heap.size b l X (.cells #[.string nm, .int .i64 (rk : Nat), .int .i64 (dg : Nat), .int .i64 (lo : Nat), .int .i64 (hi : Nat), .slice ma mn mc, .bool has, .int .i64 (a7 : Nat), .int .i64 (a8 : Nat), .slice ca cn cc, .bool dc, .bool ch, .slice pa pn pc, .int .i64 (ah : Nat)] 120) w') ∧ w'.cell? ⟨X, 0, none⟩ = some (.string nm) ∧ w'.cell? ⟨X, 1, none⟩ = some (.int .i64 (rk : Nat)) ∧ w'.cell? ⟨X, 2, none⟩ = some (.int .i64 (dg : Nat)) ∧ w'.cell? ⟨X, 3, none⟩ = some (.int .i64 (lo : Nat)) ∧ w'.cell? ⟨X, 4, none⟩ = some (.int .i64 (hi : Nat)) ∧ w'.cell? ⟨X, 5, none⟩ = some (.slice ma mn mc) ∧ w'.cell? ⟨X, 6, none⟩ = some (.bool has) ∧ w'.cell? ⟨X, 7, none⟩ = some (.int .i64 (a7 : Nat)) ∧ w'.cell? ⟨X, 8, none⟩ = some (.int .i64 (a8 : Nat)) ∧ w'.cell? ⟨X, 9, none⟩ = some (.slice ca cn cc) ∧ w'.cell? ⟨X, 10, none⟩ = some (.bool dc) ∧ w'.cell? ⟨X, 11, none⟩ = some (.bool ch) ∧ w'.cell? ⟨X, 12, none⟩ = some (.slice pa pn pc) ∧ w'.cell? ⟨X, 13, none⟩ = some (.int .i64 (ah : Nat))) :=
  fun l m W hm hZ => (hZ.out.itoa HTB.out m hm.out).mono fun e w' ⟨he, hz⟩ => ⟨he, hz, HSC.out _ _ hz⟩
 have HPD : Hid (∀ (l : List UInt8) (m d : Nat) (W : World), Hid (m < 1000000000 ∧ d ≤ 9 ∧ (decN m).length ≤ d) → Hid (Wr w0 w0.heap.size b l X (.cells #[.string nm, .int .i64 (rk : Nat), .int .i64 (dg : Nat), .int .i64 (lo : Nat), .int .i64 (hi : Nat), .slice ma mn mc, .bool has, .int .i64 (a7 : Nat), .int .i64 (a8 : Nat), .slice ca cn cc, .bool dc, .bool ch, .slice pa pn pc, .int .i64 (ah : Nat)] 120) W) → Calls Tryz.prog 107 #[.int .i64 (m : Int), .int .i64 (d : Int)] W fun e w' => e = .returned (.string (strB (padL m d))) ∧ Hid (Wr w0 w0.heap.size b l X (.cells #[.string nm, .int .i64 (rk : Nat), .int .i64 (dg : Nat), .int .i64 (lo : Nat), .int .i64 (hi : Nat), .slice ma mn mc, .bool has, .int .i64 (a7 : Nat), .int .i64 (a8 : Nat), .slice ca cn cc, .bool dc, .bool ch, .slice pa pn pc, .int .i64 (ah : Nat)] 120) w') ∧ w'.cell? ⟨X, 0, none⟩ = some (.string nm) ∧ w'.cell? ⟨X, 1, none⟩ = some (.int .i64 (rk : Nat)) ∧ w'.cell? ⟨X, 2, none⟩ = some (.int .i64 (dg : Nat)) ∧ w'.cell? ⟨X, 3, none⟩ = some (.int .i64 (lo : Nat)) ∧ w'.cell? ⟨X, 4, none⟩ = some (.int .i64 (hi : Nat)) ∧ w'.cell? ⟨X, 5, none⟩ = some (.slice ma mn mc) ∧ w'.cell? ⟨X, 6, none⟩ = some (.bool has) ∧ w'.cell? ⟨X, 7, none⟩ = some (.int .i64 (a7 : Nat)) ∧ w'.cell? ⟨X, 8, none⟩ = some (.int .i64 (a8 : Nat)) ∧ w'.cell? ⟨X, 9, none⟩ = some (.slice ca cn cc) ∧ w'.cell? ⟨X, 10, none⟩ = some (.bool dc) ∧ w'.cell? ⟨X, 11, none⟩ = some (.bool ch) ∧ w'.cell? ⟨X, 12, none⟩ = some (.slice pa pn pc) ∧ w'.cell? ⟨X, 13, none⟩ = some (.int .i64 (ah : Nat))) :=
  fun l m d W hm hZ => (padded_any m d W (HTB.out W hZ.out.be) hm.out.1 hm.out.2.1 hm.out.2.2).mono fun e w' ⟨he, hf⟩ => ⟨he, hZ.out.fr hf, HSC.out _ _ (hZ.out.fr hf)⟩
 have HW : Hid (∀ (l : List UInt8) (s : ByteArray) (W : World), Hid (Wr w0 w0.heap.size b l X (.cells #[.string nm, .int .i64 (rk : Nat), .int .i64 (dg : Nat), .int .i64 (lo : Nat), .int .i64 (hi : Nat), .slice ma mn mc, .bool has, .int .i64 (a7 : Nat), .int .i64 (a8 : Nat), .slice ca cn cc, .bool dc, .bool ch, .slice pa pn pc, .int .i64 (ah : Nat)] 120) W) → l.length ≤ 1100000000 → s.size ≤ 20000000 → Calls Tryz.prog 105 #[.pointer (some ⟨b, 0, none⟩), .string s] W fun e w' => e = .returned (.tuple #[.int .i64 s.size, .nilIface]) ∧ Hid (Wr w0 w0.heap.size b (l ++ s.data.toList) X (.cells #[.string nm, .int .i64 (rk : Nat), .int .i64 (dg : Nat), .int .i64 (lo : Nat), .int .i64 (hi : Nat), .slice ma mn mc, .bool has, .int .i64 (a7 : Nat), .int .i64 (a8 : Nat), .slice ca cn cc, .bool dc, .bool ch, .slice pa pn pc, .int .i64 (ah : Nat)] 120) w') ∧ w'.cell? ⟨X, 0, none⟩ = some (.string nm) ∧ w'.cell? ⟨X, 1, none⟩ = some (.int .i64 (rk : Nat)) ∧ w'.cell? ⟨X, 2, none⟩ = some (.int .i64 (dg : Nat)) ∧ w'.cell? ⟨X, 3, none⟩ = some (.int .i64 (lo : Nat)) ∧ w'.cell? ⟨X, 4, none⟩ = some (.int .i64 (hi : Nat)) ∧ w'.cell? ⟨X, 5, none⟩ = some (.slice ma mn mc) ∧ w'.cell? ⟨X, 6, none⟩ = some (.bool has) ∧ w'.cell? ⟨X, 7, none⟩ = some (.int .i64 (a7 : Nat)) ∧ w'.cell? ⟨X, 8, none⟩ = some (.int .i64 (a8 : Nat)) ∧ w'.cell? ⟨X, 9, none⟩ = some (.slice ca cn cc) ∧ w'.cell? ⟨X, 10, none⟩ = some (.bool dc) ∧ w'.cell? ⟨X, 11, none⟩ = some (.bool ch) ∧ w'.cell? ⟨X, 12, none⟩ = some (.slice pa pn pc) ∧ w'.cell? ⟨X, 13, none⟩ = some (.int .i64 (ah : Nat))) :=
  fun l s W hZ hl hs => (hZ.out.write s (by omega) HXb.out (by decide)).mono fun e w' ⟨he, hz⟩ => ⟨he, hz, HSC.out _ _ hz⟩
 have HZd := hid (HZ.out.fr (Fr.refl _ _).drew)
 have hS := HSC.out _ _ HZ.out
 clear HZ
 obtain ⟨y1, HY1, z1, k1⟩ := cat_of ⟨#[114, 117, 108, 101, 32]⟩ nm 5 3000 (by decide) hnm (by omega)
 obtain ⟨y2, HY2, z2, k2⟩ := cat_of y1 ⟨#[32]⟩ _ 1 z1 (by decide) (by omega)
 obtain ⟨y3, HY3, z3, k3⟩ := cat_of y2 (strB (decN rk)) _ 21 z2 hrs (by omega)
 obtain ⟨y4, HY4, z4, k4⟩ := cat_of y3 ⟨#[58]⟩ _ 1 z3 (by decide) (by omega)
 go_region_held3 (fun W => W.cell? ⟨X, 0, none⟩ = some (.string nm) ∧ W.cell? ⟨X, 1, none⟩ = some (.int .i64 (rk : Nat)) ∧ W.cell? ⟨X, 2, none⟩ = some (.int .i64 (dg : Nat)) ∧ W.cell? ⟨X, 3, none⟩ = some (.int .i64 (lo : Nat)) ∧ W.cell? ⟨X, 4, none⟩ = some (.int .i64 (hi : Nat)) ∧ W.cell? ⟨X, 5, none⟩ = some (.slice ma mn mc) ∧ W.cell? ⟨X, 6, none⟩ = some (.bool has) ∧ W.cell? ⟨X, 7, none⟩ = some (.int .i64 (a7 : Nat)) ∧ W.cell? ⟨X, 8, none⟩ = some (.int .i64 (a8 : Nat)) ∧ W.cell? ⟨X, 9, none⟩ = some (.slice ca cn cc) ∧ W.cell? ⟨X, 10, none⟩ = some (.bool dc) ∧ W.cell? ⟨X, 11, none⟩ = some (.bool ch) ∧ W.cell? ⟨X, 12, none⟩ = some (.slice pa pn pc) ∧ W.cell? ⟨X, 13, none⟩ = some (.int .i64 (ah : Nat))) (first | assumption | go_keep) (first
  | (go_at_call 106; refine (HI.out _ _ _ (by assumption) (by assumption)).mono ?_; rintro e w7 ⟨rfl, HZ7, hS7⟩)
  | (go_at_call 105; refine (HW.out _ _ _ (by assumption) (by omega) (by omega)).mono ?_; rintro e w7 ⟨rfl, HZE, hS7⟩))
 have HQ1 : Hid (y4.data.toList = tx1 nm rk) := by
  show _ = _
  rw [HY4.out, HY3.out, HY2.out, HY1.out]
  simp [tx1, strB]
 obtain ⟨l1, hl1⟩ : ∃ l1, l1 = l0 ++ y4.data.toList := ⟨_, rfl⟩
 have hlb1 : l1.length ≤ 1000010000 := by
  rw [hl1, List.length_append]
  have : y4.data.toList.length = y4.size := (by simp)
  omega
 rw [← hl1] at HZE
 have HL1 : Hid (l1 = l0 ++ tx1 nm rk) := by show _ = _; rw [hl1, HQ1.out]
 have HZ := HZE
 clear hl1 hS7 hS k1 k2 k3 k4 z1 z2 z3 z4 HY1 HY2 HY3 HY4 HQ1 HZE
 try clear HZ7
 generalize w7 = W2 at *
 go_upto_region 2 with fail
 have HZd := hid (HZ.out.fr (Fr.refl _ _).drew)
 have hS := HSC.out _ _ HZ.out
 clear HZ
 obtain ⟨y1, HY1, z1, k1⟩ := cat_of ⟨#[32, 98, 105, 110, 32]⟩ (strB (padL lo dg)) 5 9 (by decide) hls (by omega)
 obtain ⟨y2, HY2, z2, k2⟩ := cat_of y1 ⟨#[46, 46]⟩ _ 2 z1 (by decide) (by omega)
 obtain ⟨y3, HY3, z3, k3⟩ := cat_of y2 (strB (padL hi dg)) _ 9 z2 hhs (by omega)
 go_region_held3 (fun W => W.cell? ⟨X, 0, none⟩ = some (.string nm) ∧ W.cell? ⟨X, 1, none⟩ = some (.int .i64 (rk : Nat)) ∧ W.cell? ⟨X, 2, none⟩ = some (.int .i64 (dg : Nat)) ∧ W.cell? ⟨X, 3, none⟩ = some (.int .i64 (lo : Nat)) ∧ W.cell? ⟨X, 4, none⟩ = some (.int .i64 (hi : Nat)) ∧ W.cell? ⟨X, 5, none⟩ = some (.slice ma mn mc) ∧ W.cell? ⟨X, 6, none⟩ = some (.bool has) ∧ W.cell? ⟨X, 7, none⟩ = some (.int .i64 (a7 : Nat)) ∧ W.cell? ⟨X, 8, none⟩ = some (.int .i64 (a8 : Nat)) ∧ W.cell? ⟨X, 9, none⟩ = some (.slice ca cn cc) ∧ W.cell? ⟨X, 10, none⟩ = some (.bool dc) ∧ W.cell? ⟨X, 11, none⟩ = some (.bool ch) ∧ W.cell? ⟨X, 12, none⟩ = some (.slice pa pn pc) ∧ W.cell? ⟨X, 13, none⟩ = some (.int .i64 (ah : Nat))) (first | assumption | go_keep) (first
  | (go_at_call 107; refine (HPD.out _ _ _ _ (by assumption) (by assumption)).mono ?_; rintro e w7 ⟨rfl, HZ7, hS7⟩)
  | (go_at_call 105; refine (HW.out _ _ _ (by assumption) (by omega) (by omega)).mono ?_; rintro e w7 ⟨rfl, HZE, hS7⟩))
 have HQ1 : Hid (y3.data.toList = tx2 dg lo hi) := by
  show _ = _
  rw [HY3.out, HY2.out, HY1.out]
  simp [tx2, strB]
 obtain ⟨l2, hln⟩ : ∃ ln, ln = l1 ++ y3.data.toList := ⟨_, rfl⟩
 have hl2b : l2.length ≤ 1000020000 := by
  rw [hln, List.length_append]
  have : y3.data.toList.length = y3.size := (by simp)
  omega
 rw [← hln] at HZE
 have HL2 : Hid (l2 = l1 ++ tx2 dg lo hi) := by show _ = _; rw [hln, HQ1.out]
 have HZ := HZE
 clear hln hS7 hS HQ1 HZE k1 z1 HY1 k2 z2 HY2 k3 z3 HY3
 try clear HZ7
 generalize w7 = W3 at *
 have HNM : Hid (∀ W, Below w0.heap.size w0 W → 0 < mn → Calls Tryz.prog 108 #[.slice ma mn mc] W fun e w' => e = .returned (.string (strB (commaN (mcc.map decN)))) ∧ Fr (fun _ => False) W w') := fun W hW h0 => by
  have e := HNUM.out mcc ma mc W hW (by rw [HMN.out]; exact HM.out) (by rw [HMN.out]; exact h0) HMC.out.1 HMC.out.2
  rw [HMN.out] at e
  exact e
 obtain ⟨bm, hbm⟩ : ∃ bm, decide (0 < mn) = bm := ⟨_, rfl⟩
 have hbm' : decide ((0 : Int) < (mn : Int)) = bm := by rw [← hbm]; by_cases hq : 0 < mn <;> simp [hq] <;> omega
 have HBM := hid hbm
 have cc5 : W3.cell? ⟨X, 5, none⟩ = some (.slice ma mn mc) := block_cell HZ.out.ob 5 _ rfl
 go_upto_if 37 with fail
 clear hbm hbm'
 go_cut [] (fun wx => Hid (Wr w0 w0.heap.size b (l2 ++ gJ [109, 99, 99] mcc) X (.cells #[.string nm, .int .i64 (rk : Nat), .int .i64 (dg : Nat), .int .i64 (lo : Nat), .int .i64 (hi : Nat), .slice ma mn mc, .bool has, .int .i64 (a7 : Nat), .int .i64 (a8 : Nat), .slice ca cn cc, .bool dc, .bool ch, .slice pa pn pc, .int .i64 (ah : Nat)] 120) wx))
 case first =>
  cases bm with
  | true =>
   have h0 : 0 < mn := by have := HBM.out; simpa using this
   obtain ⟨y1, HY1, z1, k1⟩ := cat_of ⟨#[32, 109, 99, 99, 32]⟩ (strB (commaN (mcc.map decN))) 5 100000 (by decide) hms (by omega)
   go_wp2_with fail
   refine (HNM.out _ HZ.out.be h0).mono ?_
   rintro e w4 ⟨rfl, hf⟩
   have HZ4 := hid (HZ.out.fr hf)
   clear hf cc5
   go_wp2_with fail
   refine (HW.out _ _ _ HZ4 (by omega) (by omega)).mono ?_
   rintro e w5 ⟨rfl, HZE, hS7⟩
   have HQ1 : Hid (y1.data.toList = gJ [109, 99, 99] mcc) := by
    show _ = _
    have hne : ¬ mcc = [] := fun e => by have := HMN.out; rw [e] at this; simp at this; omega
    rw [HY1.out]
    simp [gJ, strB, hne]
   clear hS7
   go_wp2_with fail
   go_meet
   case rel =>
    show Wr _ _ _ _ _ _ _
    have e := HZE.out
    rw [HQ1.out] at e
    exact e
  | false =>
   have h0 : ¬ 0 < mn := by have := HBM.out; simpa using this
   have HQ1 : Hid (gJ [109, 99, 99] mcc = []) := by
    show _ = _
    have he : mcc = [] := List.length_eq_zero_iff.1 (by have := HMN.out; omega)
    rw [he]
    rfl
   go_wp2_with fail
   go_meet
   case rel =>
    show Wr _ _ _ _ _ _ _
    rw [HQ1.out, List.append_nil]
    exact HZ.out
 case rest =>
  have HZ0 := hcut
  clear hcut HZ HNM HBM cc5
  obtain ⟨l3, hln⟩ : ∃ ln, ln = l2 ++ gJ [109, 99, 99] mcc := ⟨_, rfl⟩
  have hl3b : l3.length ≤ 1000300000 := by
   rw [hln, List.length_append]
   have hg : (gJ [109, 99, 99] mcc).length ≤ 200000 := by
    unfold gJ
    split
    ·simp
    ·rw [strB_size] at hms; simp only [List.length_cons, List.length_append, List.length_nil]; omega
   omega
  rw [← hln] at HZ0
  have HZ := HZ0
  have HL3 := hid hln
  clear hln HZ0
  have cc6 : wc.cell? ⟨X, 6, none⟩ = some (.bool has) := block_cell HZ.out.ob 6 _ rfl
  generalize wc = W4 at *
  go_upto_if 45 with fail
  go_cut [] (fun wx => Hid (Wr w0 w0.heap.size b (l3 ++ tx4 has a7 a8) X (.cells #[.string nm, .int .i64 (rk : Nat), .int .i64 (dg : Nat), .int .i64 (lo : Nat), .int .i64 (hi : Nat), .slice ma mn mc, .bool has, .int .i64 (a7 : Nat), .int .i64 (a8 : Nat), .slice ca cn cc, .bool dc, .bool ch, .slice pa pn pc, .int .i64 (ah : Nat)] 120) wx))
  case first =>
   cases has with
   | true =>
    clear cc6
    go_upto_region 6 with fail
    have HZd := hid (HZ.out.fr (Fr.refl _ _).drew)
    have hS := HSC.out _ _ HZ.out
    clear HZ
    obtain ⟨y1, HY1, z1, k1⟩ := cat_of ⟨#[32, 97, 109, 111, 117, 110, 116, 32]⟩ (strB (decN a7)) 8 21 (by decide) h7s (by omega)
    obtain ⟨y2, HY2, z2, k2⟩ := cat_of y1 ⟨#[46, 46]⟩ _ 2 z1 (by decide) (by omega)
    obtain ⟨y3, HY3, z3, k3⟩ := cat_of y2 (strB (decN a8)) _ 21 z2 h8s (by omega)
    go_region_held3 (fun W => W.cell? ⟨X, 0, none⟩ = some (.string nm) ∧ W.cell? ⟨X, 1, none⟩ = some (.int .i64 (rk : Nat)) ∧ W.cell? ⟨X, 2, none⟩ = some (.int .i64 (dg : Nat)) ∧ W.cell? ⟨X, 3, none⟩ = some (.int .i64 (lo : Nat)) ∧ W.cell? ⟨X, 4, none⟩ = some (.int .i64 (hi : Nat)) ∧ W.cell? ⟨X, 5, none⟩ = some (.slice ma mn mc) ∧ W.cell? ⟨X, 6, none⟩ = some (.bool true) ∧ W.cell? ⟨X, 7, none⟩ = some (.int .i64 (a7 : Nat)) ∧ W.cell? ⟨X, 8, none⟩ = some (.int .i64 (a8 : Nat)) ∧ W.cell? ⟨X, 9, none⟩ = some (.slice ca cn cc) ∧ W.cell? ⟨X, 10, none⟩ = some (.bool dc) ∧ W.cell? ⟨X, 11, none⟩ = some (.bool ch) ∧ W.cell? ⟨X, 12, none⟩ = some (.slice pa pn pc) ∧ W.cell? ⟨X, 13, none⟩ = some (.int .i64 (ah : Nat))) (first | assumption | go_keep) (first
     | (go_at_call 106; refine (HI.out _ _ _ (by assumption) (by assumption)).mono ?_; rintro e w7 ⟨rfl, HZ7, hS7⟩)
     | (go_at_call 105; refine (HW.out _ _ _ (by assumption) (by omega) (by omega)).mono ?_; rintro e w7 ⟨rfl, HZE, hS7⟩))
    have HQ1 : Hid (y3.data.toList = tx4 true a7 a8) := by
     show _ = _
     rw [HY3.out, HY2.out, HY1.out]
     simp [tx4, strB]
    clear hS7
    go_wp2_with fail
    go_meet
    case rel =>
     show Wr _ _ _ _ _ _ _
     have e := HZE.out
     rw [HQ1.out] at e
     exact e
   | false =>
    go_wp2_with fail
    go_meet
    case rel =>
     show Wr _ _ _ _ _ _ _
     rw [show tx4 false a7 a8 = [] from rfl, List.append_nil]
     exact HZ.out
  case rest =>
   have HZ0 := hcut
   clear hcut HZ cc6
   obtain ⟨l4, hln⟩ : ∃ ln, ln = l3 ++ tx4 has a7 a8 := ⟨_, rfl⟩
   have hl4b : l4.length ≤ 1000400000 := by
    rw [hln, List.length_append]
    have hg : (tx4 has a7 a8).length ≤ 100 := by
     unfold tx4
     rw [strB_size] at h7s h8s
     split
     ·simp only [List.length_cons, List.length_append, List.length_nil]; omega
     ·simp
    omega
   rw [← hln] at HZ0
   have HZ := HZ0
   have HL4 := hid hln
   clear hln HZ0
   generalize wc = W5 at *
   have HNM : Hid (∀ W, Below w0.heap.size w0 W → 0 < cn → Calls Tryz.prog 108 #[.slice ca cn cc] W fun e w' => e = .returned (.string (strB (commaN (cur.map decN)))) ∧ Fr (fun _ => False) W w') := fun W hW h0 => by
    have e := HNUM.out cur ca cc W hW (by rw [HCN.out]; exact HC.out) (by rw [HCN.out]; exact h0) HCU.out.1 HCU.out.2
    rw [HCN.out] at e
    exact e
   obtain ⟨bm, hbm⟩ : ∃ bm, decide (0 < cn) = bm := ⟨_, rfl⟩
   have hbm' : decide ((0 : Int) < (cn : Int)) = bm := by rw [← hbm]; by_cases hq : 0 < cn <;> simp [hq] <;> omega
   have HBM := hid hbm
   have cc5 : W5.cell? ⟨X, 9, none⟩ = some (.slice ca cn cc) := block_cell HZ.out.ob 9 _ rfl
   go_upto_if 62 with fail
   clear hbm hbm'
   go_cut [] (fun wx => Hid (Wr w0 w0.heap.size b (l4 ++ gJ [99, 117, 114] cur) X (.cells #[.string nm, .int .i64 (rk : Nat), .int .i64 (dg : Nat), .int .i64 (lo : Nat), .int .i64 (hi : Nat), .slice ma mn mc, .bool has, .int .i64 (a7 : Nat), .int .i64 (a8 : Nat), .slice ca cn cc, .bool dc, .bool ch, .slice pa pn pc, .int .i64 (ah : Nat)] 120) wx))
   case first =>
    cases bm with
    | true =>
     have h0 : 0 < cn := by have := HBM.out; simpa using this
     obtain ⟨y1, HY1, z1, k1⟩ := cat_of ⟨#[32, 99, 117, 114, 32]⟩ (strB (commaN (cur.map decN))) 5 100000 (by decide) hcs (by omega)
     go_wp2_with fail
     refine (HNM.out _ HZ.out.be h0).mono ?_
     rintro e w4 ⟨rfl, hf⟩
     have HZ4 := hid (HZ.out.fr hf)
     clear hf cc5
     go_wp2_with fail
     refine (HW.out _ _ _ HZ4 (by omega) (by omega)).mono ?_
     rintro e w5 ⟨rfl, HZE, hS7⟩
     have HQ1 : Hid (y1.data.toList = gJ [99, 117, 114] cur) := by
      show _ = _
      have hne : ¬ cur = [] := fun e => by have := HCN.out; rw [e] at this; simp at this; omega
      rw [HY1.out]
      simp [gJ, strB, hne]
     clear hS7
     go_wp2_with fail
     go_meet
     case rel =>
      show Wr _ _ _ _ _ _ _
      have e := HZE.out
      rw [HQ1.out] at e
      exact e
    | false =>
     have h0 : ¬ 0 < cn := by have := HBM.out; simpa using this
     have HQ1 : Hid (gJ [99, 117, 114] cur = []) := by
      show _ = _
      have he : cur = [] := List.length_eq_zero_iff.1 (by have := HCN.out; omega)
      rw [he]
      rfl
     go_wp2_with fail
     go_meet
     case rel =>
      show Wr _ _ _ _ _ _ _
      rw [HQ1.out, List.append_nil]
      exact HZ.out
   case rest =>
    have HZ0 := hcut
    clear hcut HZ HNM HBM cc5
    obtain ⟨l5, hln⟩ : ∃ ln, ln = l4 ++ gJ [99, 117, 114] cur := ⟨_, rfl⟩
    have hl5b : l5.length ≤ 1000700000 := by
     rw [hln, List.length_append]
     have hg : (gJ [99, 117, 114] cur).length ≤ 200000 := by
      unfold gJ
      split
      ·simp
      ·rw [strB_size] at hcs; simp only [List.length_cons, List.length_append, List.length_nil]; omega
     omega
    rw [← hln] at HZ0
    have HZ := HZ0
    have HL5 := hid hln
    clear hln HZ0
    generalize wc = W6 at *
    obtain ⟨y1, HY1, z1, k1⟩ := cat_of ⟨#[32, 45, 62, 32]⟩ (strB (actB dc ch (ps.map (nameAt rts)))) 4 13000000 (by decide) has1 (by omega)
    obtain ⟨y2, HY2, z2, k2⟩ := cat_of y1 ⟨#[59, 10]⟩ _ 2 z1 (by decide) (by omega)
    obtain ⟨s0, s1, s2, s3, s4, s5, s6, s7, s8, s9, s10, s11, s12, s13⟩ := HSC.out _ _ HZ.out
    have HAC := hid (HACT.out W6 HZ.out.be)
    go_wp2_with fail
    refine HAC.out.mono ?_
    rintro e w4 ⟨rfl, hf⟩
    have HZ4 := hid (HZ.out.fr hf)
    clear hf s0 s1 s2 s3 s4 s5 s6 s7 s8 s9 s10 s11 s12 s13
    go_wp2_with fail
    refine (HW.out _ _ _ HZ4 (by omega) (by omega)).mono ?_
    rintro e w5 ⟨rfl, HZE, hS7⟩
    have HQ1 : Hid (y2.data.toList = tx6 dc ch (ps.map (nameAt rts))) := by
     show _ = _
     rw [HY2.out, HY1.out]
     simp [tx6, strB]
    clear hS7
    go_wp2_with fail
    go_end0
    refine ⟨rfl, ?_, HZE.out.be⟩
    have e := HZE.out.bd
    rw [HQ1.out, HL5.out, HL4.out, HL3.out, HL2.out, HL1.out] at e
    simpa using e
end Go.Proofs.YtccikgogjfbpeaaGreatDoor
