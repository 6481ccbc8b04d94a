/- Deciding: amounts; how a way ends. -/
import Derived.Test.YtccikgogjfbpeabGreatDoorWHa
import Derived.Test.YtccikgogjfbpeabGreatDoorWDa
namespace Go.Proofs.YtccikgogjfbpeabGreatDoor
open Go.RowKit
theorem held_pass {P : Program} {l : List Oper} {Q : Exit -> Act -> World -> Prop} {md : Region.Mode} {S : World -> Prop} (i : Nat) {oi : Oper} {fuel : Nat} {listed : Array Bool} {a : Act} {w : World} (hi : nth l i = some oi)
  (hs : Region.noSelect l.toArray = true) (hf : Region.free md l.toArray listed i = true) (hr : (Region.ready md l.toArray listed).contains i = true)
  (hQ : ∀ c a w, Q (.panic c) (a.put oi.dst undef) w -> Q (.panic c) a w) (hw : Region.wanted oi (yielded l.toArray a.tmps) = false) (hS : S w)
  (h : wpAnyH P md l.toArray Q S fuel (listed.setIfInBounds i true) (a.put oi.dst undef) w) : wpAnyH P md l.toArray Q S (fuel + 1) listed a w :=
 wpAnyH_take ((nth_eq l i).trans hi) hs hf hr hQ (Or.inr ⟨hw, rfl⟩) hS h
set_option maxRecDepth 30000 in
set_option maxHeartbeats 2000000 in
theorem askAmount_any (w : World) (Q TT k : Nat) (p : PayM) (dn : Nat -> Bool) (o : Nat × ByteArray × ByteArray) (so : Nat) (a : Option Addr) (n0 n1 c ru sk : Nat) (h : w.heap[Q]? = some (rnO TT p dn k false o)) (hk : k <= 100000) (hs : sk <= 100000) (hi : IntsAt w a [n0, n1]) :
  Calls Tryz.prog 121 #[.pointer (some ⟨Q, 0, none⟩), stV so a 2 c ru sk] w fun e w' => e = .returned (.tuple #[]) /\ w'.heap[Q]? = some (rnO TT p dn (if decide ((n0 : Int) <= p.am) && decide (p.am <= (n1 : Int)) then k + 1 else k + sk) false o) /\ Fr (fun j => j = Q) w w' := by
 have HF : Hid (F0 w (w.alloc (.cells #[.int .u8 (so : Nat), .slice a 2 c, .int .i64 (ru : Nat), .int .i64 (sk : Nat)] 172))) := (Fr.refl _ _).alloc _
 have HX : Hid ((w.alloc (.cells #[.int .u8 (so : Nat), .slice a 2 c, .int .i64 (ru : Nat), .int .i64 (sk : Nat)] 172)).heap[w.heap.size]? = some (.cells #[.int .u8 (so : Nat), .slice a 2 c, .int .i64 (ru : Nat), .int .i64 (sk : Nat)] 172)) := heap_alloc_new w _
 have hQ := (Array.getElem?_eq_some_iff.1 h).1
 have H1 := HF.o.whole h (by simp)
 have hne : Q ≠ w.heap.size := by omega
 have hi' := hi.fr HF.o (by simp)
 obtain ⟨g, rfl, hg0⟩ := hi' 0 n0 rfl
 obtain ⟨g', eg, hg1⟩ := hi' 1 n1 rfl
 injection eg with eg
 injection eg with eg _ _
 subst eg
 unfold stV
 obtain ⟨k', hk'⟩ : ∃ k', (if (decide ((n0 : Int) <= p.am) && decide (p.am <= (n1 : Int))) = true then k + 1 else k + sk) = k' := ⟨_, rfl⟩
 have HK' := hid hk'
 rw [hk']
 clear h hi hk' hi'
 go_enter Tryz.func121, Tryz.ntmps121
 go_upto_region 1 with fail
 generalize w.alloc (.cells #[.int .u8 (so : Nat), .slice (some ⟨g, 0, none⟩) 2 c, .int .i64 (ru : Nat), .int .i64 (sk : Nat)] 172) = W at *
 obtain ⟨X, hX⟩ : ∃ X, w.heap.size = X := ⟨_, rfl⟩
 rw [hX] at HX hne
 rw [hX]
 have hgl := World.block_lt_of_cell? W _ hg0
 have hgQ : g ≠ Q := by
  intro e
  subst e
  rw [show W.cell? ⟨g, 0, none⟩ = some (.pointer (some ⟨TT, 0, none⟩)) from block_cell H1 0 _ rfl] at hg0
  cases hg0
 have HCE : Hid (∀ W', Fr (fun j => j = Q) W W' -> (∃ k', W'.heap[Q]? = some (rnO TT p dn k' false o)) -> W'.cell? ⟨X, 0, none⟩ = some (.int .u8 (so : Nat)) /\ W'.cell? ⟨X, 1, none⟩ = some (.slice (some ⟨g, 0, none⟩) 2 c) /\ W'.cell? ⟨X, 2, none⟩ = some (.int .i64 (ru : Nat)) /\ W'.cell? ⟨X, 3, none⟩ = some (.int .i64 (sk : Nat)) /\ W'.cell? ⟨Q, 3, none⟩ = some (.int .i64 p.am) /\ W'.cell? ⟨g, 0, none⟩ = some (.int .i64 (n0 : Nat)) /\ W'.cell? ⟨g, 1, none⟩ = some (.int .i64 (n1 : Nat))) := by
  intro W' hf ⟨k', hq⟩
  have hx := hf.whole HX.o (fun e => hne e.symm)
  exact ⟨block_cell hx 0 _ rfl, block_cell hx 1 _ rfl, block_cell hx 2 _ rfl, block_cell hx 3 _ rfl, block_cell hq 3 _ rfl, (hf.cell (p := ⟨g, 0, none⟩) hgl hgQ).trans hg0, (hf.cell (p := ⟨g, 1, none⟩) hgl hgQ).trans hg1⟩
 have HG : Hid (∀ W', Hid (F0 W W') -> Calls Tryz.prog 158 #[.pointer (some ⟨Q, 0, none⟩), .agg #[.int .u8 (so : Nat), .slice (some ⟨g, 0, none⟩) 2 c, .int .i64 (ru : Nat), .int .i64 (sk : Nat)], .bool (decide ((n0 : Int) <= p.am) && decide (p.am <= (n1 : Int)))] W' fun e w' => e = .returned (.tuple #[]) /\ Hid (w'.heap[Q]? = some (rnO TT p dn k' false o) /\ Fr (fun j => j = Q) W w') /\ w'.cell? ⟨X, 0, none⟩ = some (.int .u8 (so : Nat)) /\ w'.cell? ⟨X, 1, none⟩ = some (.slice (some ⟨g, 0, none⟩) 2 c) /\ w'.cell? ⟨X, 2, none⟩ = some (.int .i64 (ru : Nat)) /\ w'.cell? ⟨X, 3, none⟩ = some (.int .i64 (sk : Nat)) /\ w'.cell? ⟨Q, 3, none⟩ = some (.int .i64 p.am) /\ w'.cell? ⟨g, 0, none⟩ = some (.int .i64 (n0 : Nat)) /\ w'.cell? ⟨g, 1, none⟩ = some (.int .i64 (n1 : Nat))) := by
  intro W' hf
  refine (goOn_any W' Q TT k p dn o so (some ⟨g, 0, none⟩) 2 c ru sk _ (hf.o.whole H1 (by simp)) hk hs).mono ?_
  rintro e w' ⟨he, h2, h3⟩
  rw [HK'.o] at h2
  have h4 := (hf.o.mono (T := fun j => j = Q) (by simp)).trans h3
  exact ⟨he, ⟨h2, h4⟩, HCE.o _ h4 ⟨_, h2⟩⟩
 have hS := HCE.o W (Fr.refl _ _) ⟨k, H1⟩
 have HZd : Hid (F0 W W.drew) := (Fr.refl _ _).drew
 clear H1 hX HX HCE HK' hg0 hg1 hgl
 refine wp_region_held_drew (S := fun W' => W'.cell? ⟨X, 0, none⟩ = some (.int .u8 (so : Nat)) /\ W'.cell? ⟨X, 1, none⟩ = some (.slice (some ⟨g, 0, none⟩) 2 c) /\ W'.cell? ⟨X, 2, none⟩ = some (.int .i64 (ru : Nat)) /\ W'.cell? ⟨X, 3, none⟩ = some (.int .i64 (sk : Nat)) /\ W'.cell? ⟨Q, 3, none⟩ = some (.int .i64 p.am) /\ W'.cell? ⟨g, 0, none⟩ = some (.int .i64 (n0 : Nat)) /\ W'.cell? ⟨g, 1, none⟩ = some (.int .i64 (n1 : Nat))) (by kernel_rfl) hS (fun hH => ?_)
 refine htk 0 (v := ?v0q) ?y0q hH ?r0q
 case y0q => rintro w ⟨s0, s1, s2, s3, s4, s5, s6⟩; go_simp; with_reducible rfl
 try go_frame
 refine htk 1 (v := ?v1q) ?y1q hH ?r1q
 case y1q => rintro w ⟨s0, s1, s2, s3, s4, s5, s6⟩; go_simp; with_reducible rfl
 try go_frame
 refine htk 2 (v := ?v2q) ?y2q hH ?r2q
 case y2q => rintro w ⟨s0, s1, s2, s3, s4, s5, s6⟩; go_simp; with_reducible rfl
 try go_frame
 refine htk 3 (v := ?v3q) ?y3q hH ?r3q
 case y3q => rintro w ⟨s0, s1, s2, s3, s4, s5, s6⟩; go_simp; with_reducible rfl
 try go_frame
 refine htk 4 (v := ?v4q) ?y4q hH ?r4q
 case y4q => rintro w ⟨s0, s1, s2, s3, s4, s5, s6⟩; go_simp; with_reducible rfl
 try go_frame
 refine htk 5 (v := ?v5q) ?y5q hH ?r5q
 case y5q => rintro w ⟨s0, s1, s2, s3, s4, s5, s6⟩; go_simp; with_reducible rfl
 try go_frame
 refine htk 6 (v := ?v6q) ?y6q hH ?r6q
 case y6q => rintro w ⟨s0, s1, s2, s3, s4, s5, s6⟩; go_simp; with_reducible rfl
 try go_frame
 refine htk 7 (v := ?v7q) ?y7q hH ?r7q
 case y7q => rintro w ⟨s0, s1, s2, s3, s4, s5, s6⟩; go_simp; with_reducible rfl
 try go_frame
 refine htk 8 (v := ?v8q) ?y8q hH ?r8q
 case y8q => rintro w ⟨s0, s1, s2, s3, s4, s5, s6⟩; go_simp; with_reducible rfl
 try go_frame
 refine htk 9 (v := ?v9q) ?y9q hH ?r9q
 case y9q => rintro w ⟨s0, s1, s2, s3, s4, s5, s6⟩; go_simp; with_reducible rfl
 try go_frame
 refine htk 10 (v := ?v10q) ?y10q hH ?r10q
 case y10q => rintro w ⟨s0, s1, s2, s3, s4, s5, s6⟩; go_simp; with_reducible rfl
 try go_frame
 by_cases h0 : (n0 : Int) <= p.am
 ·rw [show decide ((n0 : Int) <= p.am) = true from decide_eq_true h0, Bool.true_and] at HG
  refine htk 11 (v := ?v11t) ?y11t hH ?r11t
  case y11t => rintro w ⟨s0, s1, s2, s3, s4, s5, s6⟩; go_simp; with_reducible rfl
  try go_frame
  refine htk 12 (v := ?v12t) ?y12t hH ?r12t
  case y12t => rintro w ⟨s0, s1, s2, s3, s4, s5, s6⟩; go_simp; with_reducible rfl
  try go_frame
  refine htk 13 (v := ?v13t) ?y13t hH ?r13t
  case y13t => rintro w ⟨s0, s1, s2, s3, s4, s5, s6⟩; go_simp; with_reducible rfl
  try go_frame
  refine htk 14 (v := ?v14t) ?y14t hH ?r14t
  case y14t => rintro w ⟨s0, s1, s2, s3, s4, s5, s6⟩; go_simp; with_reducible rfl
  try go_frame
  refine htk 15 (v := ?v15t) ?y15t hH ?r15t
  case y15t => rintro w ⟨s0, s1, s2, s3, s4, s5, s6⟩; go_simp; with_reducible rfl
  try go_frame
  refine htk 16 (v := ?v16t) ?y16t hH ?r16t
  case y16t => rintro w ⟨s0, s1, s2, s3, s4, s5, s6⟩; go_simp; with_reducible rfl
  try go_frame
  refine htk 17 (v := ?v17t) ?y17t hH ?r17t
  case y17t => rintro w ⟨s0, s1, s2, s3, s4, s5, s6⟩; go_simp; with_reducible rfl
  try go_frame
  refine htk 18 (v := ?v18t) ?y18t hH ?r18t
  case y18t => rintro w ⟨s0, s1, s2, s3, s4, s5, s6⟩; go_simp; with_reducible rfl
  try go_frame
  refine htk 19 (v := ?v19t) ?y19t hH ?r19t
  case y19t => rintro w ⟨s0, s1, s2, s3, s4, s5, s6⟩; go_simp; with_reducible rfl
  try go_frame
  refine htk 20 (v := ?v20t) ?y20t hH ?r20t
  case y20t => rintro w ⟨s0, s1, s2, s3, s4, s5, s6⟩; go_simp; with_reducible rfl
  try go_frame
  refine htk 21 (v := ?v21t) ?y21t hH ?r21t
  case y21t => rintro w ⟨s0, s1, s2, s3, s4, s5, s6⟩; go_simp; with_reducible rfl
  try go_frame
  refine htk 22 (v := ?v22t) ?y22t hH ?r22t
  case y22t => rintro w ⟨s0, s1, s2, s3, s4, s5, s6⟩; go_simp; with_reducible rfl
  try go_frame
  refine htk 23 (v := ?v23t) ?y23t hH ?r23t
  case y23t => rintro w ⟨s0, s1, s2, s3, s4, s5, s6⟩; go_simp; with_reducible rfl
  try go_frame
  refine wpAnyH_ready (rs := [24]) (by kernel_rfl) (by simp) ?_
  refine held_cons rfl (fun K2 hK => ?_) AllReadyH.nil
  try rw [if_pos (by rfl)]
  go_simp
  refine (HG.o _ HZd).mono ?_
  rintro e w7 ⟨rfl, HZE, hS7⟩
  refine hK.out _ _ hS7 (fun _ => ?_)
  clear hK K2
  try go_frame
  refine wpAnyH_done (by kernel_rfl) ?_ _
  go_wp2_with fail
  go_end0
  exact ⟨rfl, HZE.o.1, (HF.o.mono (by simp)).trans HZE.o.2⟩
 ·rw [show decide ((n0 : Int) <= p.am) = false from decide_eq_false h0, Bool.false_and] at HG
  refine htk 11 (v := ?v11f) ?y11f hH ?r11f
  case y11f => rintro w ⟨s0, s1, s2, s3, s4, s5, s6⟩; go_simp; with_reducible rfl
  try go_frame
  refine htk 12 (v := ?v12f) ?y12f hH ?r12f
  case y12f => rintro w ⟨s0, s1, s2, s3, s4, s5, s6⟩; go_simp; with_reducible rfl
  try go_frame
  refine held_pass 13 rfl (by kernel_rfl) (by kernel_rfl) (by kernel_rfl) (fun _ _ _ h => h) rfl hH ?_
  try go_frame
  refine held_pass 14 rfl (by kernel_rfl) (by kernel_rfl) (by kernel_rfl) (fun _ _ _ h => h) rfl hH ?_
  try go_frame
  refine held_pass 15 rfl (by kernel_rfl) (by kernel_rfl) (by kernel_rfl) (fun _ _ _ h => h) rfl hH ?_
  try go_frame
  refine held_pass 16 rfl (by kernel_rfl) (by kernel_rfl) (by kernel_rfl) (fun _ _ _ h => h) rfl hH ?_
  try go_frame
  refine held_pass 17 rfl (by kernel_rfl) (by kernel_rfl) (by kernel_rfl) (fun _ _ _ h => h) rfl hH ?_
  try go_frame
  refine held_pass 18 rfl (by kernel_rfl) (by kernel_rfl) (by kernel_rfl) (fun _ _ _ h => h) rfl hH ?_
  try go_frame
  refine held_pass 19 rfl (by kernel_rfl) (by kernel_rfl) (by kernel_rfl) (fun _ _ _ h => h) rfl hH ?_
  try go_frame
  refine held_pass 20 rfl (by kernel_rfl) (by kernel_rfl) (by kernel_rfl) (fun _ _ _ h => h) rfl hH ?_
  try go_frame
  refine held_pass 21 rfl (by kernel_rfl) (by kernel_rfl) (by kernel_rfl) (fun _ _ _ h => h) rfl hH ?_
  try go_frame
  refine held_pass 22 rfl (by kernel_rfl) (by kernel_rfl) (by kernel_rfl) (fun _ _ _ h => h) rfl hH ?_
  try go_frame
  refine htk 23 (v := ?v23f) ?y23f hH ?r23f
  case y23f => rintro w ⟨s0, s1, s2, s3, s4, s5, s6⟩; go_simp; with_reducible rfl
  try go_frame
  refine wpAnyH_ready (rs := [24]) (by kernel_rfl) (by simp) ?_
  refine held_cons rfl (fun K2 hK => ?_) AllReadyH.nil
  try rw [if_pos (by rfl)]
  go_simp
  refine (HG.o _ HZd).mono ?_
  rintro e w7 ⟨rfl, HZE, hS7⟩
  refine hK.out _ _ hS7 (fun _ => ?_)
  clear hK K2
  try go_frame
  refine wpAnyH_done (by kernel_rfl) ?_ _
  go_wp2_with fail
  go_end0
  exact ⟨rfl, HZE.o.1, (HF.o.mono (by simp)).trans HZE.o.2⟩
set_option maxRecDepth 30000 in
set_option maxHeartbeats 1000000 in
theorem rend_any (w : World) (Q TT k : Nat) (p : PayM) (dn : Nat -> Bool) (o : Nat × ByteArray × ByteArray) (kd : Nat) (rn rt : ByteArray) (h : w.heap[Q]? = some (rnO TT p dn k false o)) (h1 : rn.size <= 3000) (h2 : rt.size <= 3000) :
  Calls Tryz.prog 160 #[.pointer (some ⟨Q, 0, none⟩), .int .i64 (kd : Nat), .string rn, .string rt] w fun e w' => e = .returned (.tuple #[]) /\ w'.heap[Q]? = some (rnO TT p dn k true (kd, rn, rt)) /\ Fr (fun j => j = Q) w w' := by
 have c12 : w.cell? ⟨Q, 12, none⟩ = some (.bool false) := block_cell h 12 _ rfl
 have f12 := block_frozen h 12
 have HC1 : Hid (∀ W, Calls Tryz.prog 40 #[.string rn] W fun e w' => e = .returned (.string rn) /\ F0 W w') := fun W => Clone_any rn W h1
 have HC2 : Hid (∀ W, Calls Tryz.prog 40 #[.string rt] W fun e w' => e = .returned (.string rt) /\ F0 W w') := fun W => Clone_any rt W h2
 have HH := hid (rn_end h)
 have HF : Hid (Fr (fun j => j = Q) w (w.setCell ⟨Q, 12, none⟩ (.bool true))) := (Fr.refl (fun j => j = Q) w).setCell (p := ⟨Q, 12, none⟩) (Or.inl rfl) _
 clear h h1 h2
 go_enter Tryz.func160, Tryz.ntmps160
 go_wp2_with fail
 generalize w.setCell ⟨Q, 12, none⟩ (.bool true) = W at *
 refine (HC1.o _).mono ?_
 rintro e w1 ⟨rfl, hf1⟩
 have HF1 := hid hf1
 clear hf1 c12 f12
 go_wp2_with fail
 refine (HC2.o _).mono ?_
 rintro e w2 ⟨rfl, hf2⟩
 have HF2 := hid (HF1.o.trans hf2)
 have HH2 := hid (HF2.o.whole HH.o (by simp))
 have c13 : w2.cell? ⟨Q, 13, none⟩ = some (.int .i64 (o.1 : Nat)) := block_cell HH2.o 13 _ rfl
 have c14 : w2.cell? ⟨Q, 14, none⟩ = some (.string o.2.1) := block_cell HH2.o 14 _ rfl
 have c15 : w2.cell? ⟨Q, 15, none⟩ = some (.string o.2.2) := block_cell HH2.o 15 _ rfl
 have f13 := block_frozen HH2.o 13
 have f14 := block_frozen HH2.o 14
 have f15 := block_frozen HH2.o 15
 clear hf2
 go_wp2_with fail
 go_end0
 refine ⟨rfl, rn_out HH2.o (kd, rn, rt), ?_⟩
 exact (HF.o.trans (HF2.o.mono (by simp))).trans ((((Fr.refl (fun j => j = Q) w2).setCell (p := ⟨Q, 13, none⟩) (Or.inl rfl) _).setCell (p := ⟨Q, 14, none⟩) (Or.inl rfl) _).setCell (p := ⟨Q, 15, none⟩) (Or.inl rfl) _)
set_option maxRecDepth 30000 in
set_option maxHeartbeats 1000000 in
theorem endWithout_any (w : World) (Q TT k : Nat) (p : PayM) (dn : Nat -> Bool) (o : Nat × ByteArray × ByteArray) (so : Nat) (a : Option Addr) (n c ru sk : Nat) (h : w.heap[Q]? = some (rnO TT p dn k false o)) :
  Calls Tryz.prog 126 #[.pointer (some ⟨Q, 0, none⟩), stV so a n c ru sk] w fun e w' => e = .returned (.tuple #[]) /\ w'.heap[Q]? = some (rnO TT p dn k true (2, ByteArray.empty, ByteArray.empty)) /\ Fr (fun j => j = Q) w w' := by
 have HF : Hid (F0 w (w.alloc (.cells #[.int .u8 (so : Nat), .slice a n c, .int .i64 (ru : Nat), .int .i64 (sk : Nat)] 172))) := (Fr.refl _ _).alloc _
 have HE := hid (rend_any _ Q TT k p dn o 2 ByteArray.empty ByteArray.empty (HF.o.whole h (by simp)) (by decide) (by decide))
 unfold stV
 clear h
 go_enter Tryz.func126, Tryz.ntmps126
 go_wp2_with fail
 refine HE.o.mono ?_
 rintro e w1 ⟨rfl, h1, h2⟩
 have H1 := hid h1
 have H2 := hid ((HF.o.mono (by simp)).trans h2)
 clear h1 h2
 go_wp2_with fail
 go_end0
 exact ⟨rfl, H1.o, H2.o⟩
structure NmAt (w : World) (TT Q : Nat) (ru : Nat) (nm : ByteArray) (g m nc : Nat) : Prop where
 c1 : w.cell? ⟨TT, 1, none⟩ = some (.slice (some ⟨g, 0, none⟩) m nc)
 lt : ru < m
 ce : w.cell? ⟨g, ru, none⟩ = some (.string nm)
 sz : nm.size <= 3000
 nt : TT ≠ Q
 ng : g ≠ Q
theorem NmAt.fr {w w' : World} {TT Q ru : Nat} {nm : ByteArray} {g m nc : Nat} (h : NmAt w TT Q ru nm g m nc) (hf : Fr (fun j => j = Q) w w') : NmAt w' TT Q ru nm g m nc :=
 ⟨(hf.cell (p := ⟨TT, 1, none⟩) (World.block_lt_of_cell? w _ h.c1) h.nt).trans h.c1, h.lt, (hf.cell (p := ⟨g, ru, none⟩) (World.block_lt_of_cell? w _ h.ce) h.ng).trans h.ce, h.sz, h.nt, h.ng⟩
set_option maxRecDepth 30000 in
set_option maxHeartbeats 1000000 in
theorem rdecline_any (w : World) (Q TT k : Nat) (p : PayM) (dn : Nat -> Bool) (o : Nat × ByteArray × ByteArray) (so : Nat) (a : Option Addr) (n c ru sk : Nat) (nm : ByteArray) (g m nc : Nat) (h : w.heap[Q]? = some (rnO TT p dn k false o)) (hn : NmAt w TT Q ru nm g m nc) :
  Calls Tryz.prog 123 #[.pointer (some ⟨Q, 0, none⟩), stV so a n c ru sk] w fun e w' => e = .returned (.tuple #[]) /\ w'.heap[Q]? = some (rnO TT p dn k true (3, nm, ByteArray.empty)) /\ Fr (fun j => j = Q) w w' := by
 have HF : Hid (F0 w (w.alloc (.cells #[.int .u8 (so : Nat), .slice a n c, .int .i64 (ru : Nat), .int .i64 (sk : Nat)] 172))) := (Fr.refl _ _).alloc _
 have HX : Hid ((w.alloc (.cells #[.int .u8 (so : Nat), .slice a n c, .int .i64 (ru : Nat), .int .i64 (sk : Nat)] 172)).heap[w.heap.size]? = some (.cells #[.int .u8 (so : Nat), .slice a n c, .int .i64 (ru : Nat), .int .i64 (sk : Nat)] 172)) := heap_alloc_new w _
 have hQ := (Array.getElem?_eq_some_iff.1 h).1
 have H1 := HF.o.whole h (by simp)
 have hne : Q ≠ w.heap.size := by omega
 have HN := hid (hn.fr (HF.o.mono (by simp)))
 have hlt : (ru : Int) < (m : Int) := by have := hn.lt; omega
 unfold stV
 clear h hn
 go_enter Tryz.func123, Tryz.ntmps123
 go_upto_region 1 with fail
 generalize w.alloc (.cells #[.int .u8 (so : Nat), .slice a n c, .int .i64 (ru : Nat), .int .i64 (sk : Nat)] 172) = W at *
 obtain ⟨X, hX⟩ : ∃ X, w.heap.size = X := ⟨_, rfl⟩
 rw [hX] at HX hne
 rw [hX]
 have HCE : Hid (∀ W', Fr (fun j => j = Q) W W' -> (∃ d o', W'.heap[Q]? = some (rnO TT p dn k d o')) -> W'.cell? ⟨X, 2, none⟩ = some (.int .i64 (ru : Nat)) /\ W'.cell? ⟨Q, 0, none⟩ = some (.pointer (some ⟨TT, 0, none⟩)) /\ W'.cell? ⟨TT, 1, none⟩ = some (.slice (some ⟨g, 0, none⟩) m nc) /\ W'.cell? ⟨g, ru, none⟩ = some (.string nm)) := by
  intro W' hf ⟨d, o', hq⟩
  have hx := hf.whole HX.o (fun e => hne e.symm)
  exact ⟨block_cell hx 2 _ rfl, block_cell hq 0 _ rfl, (HN.o.fr hf).c1, (HN.o.fr hf).ce⟩
 have HG : Hid (∀ W', Hid (F0 W W') -> Calls Tryz.prog 160 #[.pointer (some ⟨Q, 0, none⟩), .int .i64 3, .string nm, .string ⟨#[]⟩] W' fun e w' => e = .returned (.tuple #[]) /\ Hid (w'.heap[Q]? = some (rnO TT p dn k true (3, nm, ByteArray.empty)) /\ Fr (fun j => j = Q) W w') /\ w'.cell? ⟨X, 2, none⟩ = some (.int .i64 (ru : Nat)) /\ w'.cell? ⟨Q, 0, none⟩ = some (.pointer (some ⟨TT, 0, none⟩)) /\ w'.cell? ⟨TT, 1, none⟩ = some (.slice (some ⟨g, 0, none⟩) m nc) /\ w'.cell? ⟨g, ru, none⟩ = some (.string nm)) := by
  intro W' hf
  refine (rend_any W' Q TT k p dn o 3 nm ByteArray.empty (hf.o.whole H1 (by simp)) HN.o.sz (by decide)).mono ?_
  rintro e w' ⟨he, h2, h3⟩
  have h4 := (hf.o.mono (T := fun j => j = Q) (by simp)).trans h3
  exact ⟨he, ⟨h2, h4⟩, HCE.o _ h4 ⟨_, _, h2⟩⟩
 have hS := HCE.o W (Fr.refl _ _) ⟨_, _, H1⟩
 have HZd : Hid (F0 W W.drew) := (Fr.refl _ _).drew
 clear H1 hX HX HCE
 go_region_held3 (fun W' => W'.cell? ⟨X, 2, none⟩ = some (.int .i64 (ru : Nat)) /\ W'.cell? ⟨Q, 0, none⟩ = some (.pointer (some ⟨TT, 0, none⟩)) /\ W'.cell? ⟨TT, 1, none⟩ = some (.slice (some ⟨g, 0, none⟩) m nc) /\ W'.cell? ⟨g, ru, none⟩ = some (.string nm)) (first | assumption | go_keep) (first
  | (go_at_call 160; refine (HG.o _ (by assumption)).mono ?_; rintro e w7 ⟨rfl, HZE, hS7⟩))
 go_wp2_with fail
 go_end0
 exact ⟨rfl, HZE.o.1, (HF.o.mono (by simp)).trans HZE.o.2⟩
set_option maxRecDepth 30000 in
set_option maxHeartbeats 1000000 in
theorem endDown_any (w : World) (Q TT k : Nat) (p : PayM) (dn : Nat -> Bool) (o : Nat × ByteArray × ByteArray) (so : Nat) (a : Option Addr) (n c ru sk : Nat) (nm : ByteArray) (g m nc : Nat) (h : w.heap[Q]? = some (rnO TT p dn k false o)) (hn : NmAt w TT Q ru nm g m nc) :
  Calls Tryz.prog 162 #[.pointer (some ⟨Q, 0, none⟩), stV so a n c ru sk] w fun e w' => e = .returned (.tuple #[]) /\ w'.heap[Q]? = some (rnO TT p dn k true (4, nm, ByteArray.empty)) /\ Fr (fun j => j = Q) w w' := by
 have HF : Hid (F0 w (w.alloc (.cells #[.int .u8 (so : Nat), .slice a n c, .int .i64 (ru : Nat), .int .i64 (sk : Nat)] 172))) := (Fr.refl _ _).alloc _
 have HX : Hid ((w.alloc (.cells #[.int .u8 (so : Nat), .slice a n c, .int .i64 (ru : Nat), .int .i64 (sk : Nat)] 172)).heap[w.heap.size]? = some (.cells #[.int .u8 (so : Nat), .slice a n c, .int .i64 (ru : Nat), .int .i64 (sk : Nat)] 172)) := heap_alloc_new w _
 have hQ := (Array.getElem?_eq_some_iff.1 h).1
 have H1 := HF.o.whole h (by simp)
 have hne : Q ≠ w.heap.size := by omega
 have HN := hid (hn.fr (HF.o.mono (by simp)))
 have hlt : (ru : Int) < (m : Int) := by have := hn.lt; omega
 unfold stV
 clear h hn
 go_enter Tryz.func162, Tryz.ntmps162
 go_upto_region 1 with fail
 generalize w.alloc (.cells #[.int .u8 (so : Nat), .slice a n c, .int .i64 (ru : Nat), .int .i64 (sk : Nat)] 172) = W at *
 obtain ⟨X, hX⟩ : ∃ X, w.heap.size = X := ⟨_, rfl⟩
 rw [hX] at HX hne
 rw [hX]
 have HCE : Hid (∀ W', Fr (fun j => j = Q) W W' -> (∃ d o', W'.heap[Q]? = some (rnO TT p dn k d o')) -> W'.cell? ⟨X, 2, none⟩ = some (.int .i64 (ru : Nat)) /\ W'.cell? ⟨Q, 0, none⟩ = some (.pointer (some ⟨TT, 0, none⟩)) /\ W'.cell? ⟨TT, 1, none⟩ = some (.slice (some ⟨g, 0, none⟩) m nc) /\ W'.cell? ⟨g, ru, none⟩ = some (.string nm)) := by
  intro W' hf ⟨d, o', hq⟩
  have hx := hf.whole HX.o (fun e => hne e.symm)
  exact ⟨block_cell hx 2 _ rfl, block_cell hq 0 _ rfl, (HN.o.fr hf).c1, (HN.o.fr hf).ce⟩
 have HG : Hid (∀ W', Hid (F0 W W') -> Calls Tryz.prog 160 #[.pointer (some ⟨Q, 0, none⟩), .int .i64 4, .string nm, .string ⟨#[]⟩] W' fun e w' => e = .returned (.tuple #[]) /\ Hid (w'.heap[Q]? = some (rnO TT p dn k true (4, nm, ByteArray.empty)) /\ Fr (fun j => j = Q) W w') /\ w'.cell? ⟨X, 2, none⟩ = some (.int .i64 (ru : Nat)) /\ w'.cell? ⟨Q, 0, none⟩ = some (.pointer (some ⟨TT, 0, none⟩)) /\ w'.cell? ⟨TT, 1, none⟩ = some (.slice (some ⟨g, 0, none⟩) m nc) /\ w'.cell? ⟨g, ru, none⟩ = some (.string nm)) := by
  intro W' hf
  refine (rend_any W' Q TT k p dn o 4 nm ByteArray.empty (hf.o.whole H1 (by simp)) HN.o.sz (by decide)).mono ?_
  rintro e w' ⟨he, h2, h3⟩
  have h4 := (hf.o.mono (T := fun j => j = Q) (by simp)).trans h3
  exact ⟨he, ⟨h2, h4⟩, HCE.o _ h4 ⟨_, _, h2⟩⟩
 have hS := HCE.o W (Fr.refl _ _) ⟨_, _, H1⟩
 have HZd : Hid (F0 W W.drew) := (Fr.refl _ _).drew
 clear H1 hX HX HCE
 go_region_held3 (fun W' => W'.cell? ⟨X, 2, none⟩ = some (.int .i64 (ru : Nat)) /\ W'.cell? ⟨Q, 0, none⟩ = some (.pointer (some ⟨TT, 0, none⟩)) /\ W'.cell? ⟨TT, 1, none⟩ = some (.slice (some ⟨g, 0, none⟩) m nc) /\ W'.cell? ⟨g, ru, none⟩ = some (.string nm)) (first | assumption | go_keep) (first
  | (go_at_call 160; refine (HG.o _ (by assumption)).mono ?_; rintro e w7 ⟨rfl, HZE, hS7⟩))
 go_wp2_with fail
 go_end0
 exact ⟨rfl, HZE.o.1, (HF.o.mono (by simp)).trans HZE.o.2⟩
end Go.Proofs.YtccikgogjfbpeabGreatDoor
