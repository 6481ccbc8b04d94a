/- The reference: Form, walked. -/
import Derived.Test.YtccikgogjfbpeaaGreatDoorQr
namespace Go.Proofs.YtccikgogjfbpeaaGreatDoor
open Go.RowKit

theorem no_rest {y : Sym} {rest : List Sym} {n : Nat} (hn : (y :: rest).length = n) (h : n ≤ 1) : symRow rest = [] := by
 cases rest with
 | nil => rfl
 | cons a b => simp at hn; omega
set_option maxRecDepth 30000 in
set_option maxHeartbeats 4000000 in
theorem Form_any (w : World) (base : Nat) (v : Value) (body : List Tk) (en : Tk) (hen : en.sort = 3 ∧ en.text = ByteArray.empty) (h : w.ownsRow base 166 3 v body.length (rtkRow body)) (hb : ∀ t, t ∈ body → TkLit t) (hfew : body.length ≤ 3000)
  (N : Nat) (r : Option Nat) (hrun : formRun (body ++ [en]) N [.rules] 0 = some r) :
  Calls Tryz.prog 79 #[v] w fun e w' => e = .returned (.int .i64 (formAns (body ++ [en]) r)) ∧ Fr (fun _ => False) w w' := by
 obtain ⟨ii, hi, hz0, hz1, hz2⟩ := info_parts Tryz.infoString
 obtain ⟨av, cv, rfl, hav⟩ := ownsRow_rtok h
 have HAV : Hid (0 < body.length → ∃ g, av = some ⟨g, 0, none⟩ ∧ base ≤ g ∧ g < w.heap.size ∧ RTk w g body) := hav
 have HB : Hid (∀ t, t ∈ body → TkLit t) := hb
 have HE : Hid (en.sort = 3 ∧ en.text = ByteArray.empty) := hen
 have HRUN : Hid (formRun (body ++ [en]) N [.rules] 0 = some r) := hrun
 clear h hav hb hen hrun
 go_enter Tryz.func79, Tryz.ntmps79
 go_wp2_with fail
 go_loopg [3, 4] N (fun m o i wr => ∃ st k, i = .int .i64 (k : Nat) ∧ k ≤ body.length ∧ Hid (Low st) ∧ Hid (formRun (body ++ [en]) m st k = some r) ∧ Hid (Wt wr w.heap.size o st) ∧ Hid (Fr (fun _ => False) w wr))
 case atStart =>
  have hn := heap_alloc_new w (.cells #[.string ⟨#[114, 117, 108, 101, 115]⟩] 9)
  refine ⟨[.rules], 0, rfl, Nat.zero_le _, ⟨by simp [pot], fun m e => by (cases e), trivial⟩, HRUN.out, ⟨_, _, rfl, by simp, fun _ => ⟨w.heap.size, 0, rfl, Nat.le_refl _, by simp, fun j u hj => ?_⟩⟩, (Fr.refl _ _).alloc _⟩
  rw [Nat.zero_add]
  exact block_cell hn j _ (by simpa [symRow, symS] using hj)
 case round =>
  obtain ⟨st, k, rfl, hk, HLO, HR, HW, HF⟩ := hrel
  have hsz := HF.out.size
  cases st with
  | nil =>
   obtain ⟨a, c, rfl, hc, hcells⟩ := HW.out
   have e0 : (if (tkAt (body ++ [en]) k).sort = 3 then none else some k) = r := by
    have e := HR.out
    rw [formRun_nil] at e
    injection e
   clear hcells HW
   simp only [List.length_nil] at hc ⊢
   by_cases hlt : k < body.length
   ·obtain ⟨gv, rfl, hbv, hlv, hrow⟩ := HAV.out (by omega)
    obtain ⟨t, ht⟩ : ∃ t, body[k]? = some t := ⟨_, List.getElem?_eq_getElem hlt⟩
    obtain ⟨r0, r1, r2⟩ := (hrow.fr HF.out hlv (by simp)) k t ht
    have htk : tkAt (body ++ [en]) k = t := by
     unfold tkAt
     rw [List.getD_eq_getElem?_getD, List.getElem?_append_left hlt, ht]
     rfl
    have hs3 := (HB.out t (List.mem_of_getElem? ht)).2.2.1
    rw [htk, if_neg hs3] at e0
    have HA : Hid (formAns (body ++ [en]) r = t.line) := by show _ = _; rw [← e0]; simp only [formAns]; rw [htk, if_neg hs3]
    have hki : (k : Int) < (body.length : Int) := by omega
    clear hrow ht htk hs3 e0
    go_wp2
    go_ret
    exact ⟨ret_int HA.out.symm, HF.out⟩
   ·have htk : tkAt (body ++ [en]) k = en := by
     unfold tkAt
     rw [List.getD_eq_getElem?_getD, List.getElem?_append_right (by omega), show k - body.length = 0 from by omega]
     rfl
    rw [htk, if_pos HE.out.1] at e0
    have HA : Hid (formAns (body ++ [en]) r = 0) := by show _ = _; rw [← e0]; rfl
    have hki : ¬ (k : Int) < (body.length : Int) := by omega
    clear htk e0
    go_wp2
    go_ret
    exact ⟨ret_int HA.out.symm, HF.out⟩
  | cons y rest =>
   obtain ⟨m, rfl⟩ : ∃ m, gk = m + 1 := by
    cases gk with
    | zero => exact absurd HR.out (by simp [formRun])
    | succ m => exact ⟨m, rfl⟩
   obtain ⟨a, c, rfl, hc, hcells⟩ := HW.out
   obtain ⟨g, o, rfl, hbg, hg, hcs⟩ := hcells (by simp)
   have c0 : wr.cell? ⟨g, o, none⟩ = some (.string (symS y)) := hcs 0 _ rfl
   have HCS : Hid (∀ j u, (symRow (y :: rest))[j]? = some u → wr.cell? ⟨g, o + j, none⟩ = some u) := hcs
   clear hcells hcs HW
   obtain ⟨n, hn⟩ : ∃ n, (y :: rest).length = n := ⟨_, rfl⟩
   rw [hn] at hc ⊢
   have hn0 : (0 : Int) < (n : Int) := by simp at hn; omega
   by_cases hlt : k < body.length
   ·obtain ⟨gv, rfl, hbv, hlv, hrow⟩ := HAV.out (by omega)
    obtain ⟨t, ht⟩ : ∃ t, body[k]? = some t := ⟨_, List.getElem?_eq_getElem hlt⟩
    obtain ⟨r0, r1, r2⟩ := (hrow.fr (HF.out.alloc (.cells #[.string ⟨#[]⟩, .int .u8 101, .int .i64 0] 166)) hlv (by simp)) k t ht
    have HG : Hid (body[k]? = some t) := ht
    have hki : (k : Int) < (body.length : Int) := by omega
    clear hrow ht
    have HTK : Hid (tkAt (body ++ [en]) k = t) := by
     show _ = _
     unfold tkAt
     rw [List.getD_eq_getElem?_getD, List.getElem?_append_left hlt, HG.out]
     rfl
    have hTL := HB.out t (List.mem_of_getElem? HG.out)
    have HL : Hid (LitTk t) := hTL.1
    have HS3 : Hid (t.sort ≠ 3) := hTL.2.2.1
    have hA1 : (([78, 65, 77, 69] : List UInt8) == t.text.toList) = false := head_ne hTL.2.2.2.2.1
    have hA2 : (([73, 78, 84] : List UInt8) == t.text.toList) = false := head_ne hTL.2.2.2.2.2
    have f0 := rk110 t
    have f1 := rk105 t
    have f3 := rk101 t
    have f4 : (rkind t != 101) = true := by rw [bne, f3]; rfl
    obtain ⟨ln, hln⟩ : ∃ ln : Int, ln = t.line := ⟨_, rfl⟩
    rw [← hln] at r2
    have HLN : Hid (ln = t.line) := hln
    clear hTL hln
    go_wp2_with fail
    have hn7 := heap_alloc_new wr (.cells #[.string (t.text), .int .u8 (rkind t), .int .i64 ln] 166)
    have b0 := block_cell hn7 0 _ rfl
    have b1 := block_cell hn7 1 _ rfl
    have b2 := block_cell hn7 2 _ rfl
    have HF7 := HF.out.alloc (.cells #[.string (t.text), .int .u8 (rkind t), .int .i64 ln] 166)
    have c7 := ((Fr.refl (fun _ => False) wr).alloc (.cells #[.string (t.text), .int .u8 (rkind t), .int .i64 ln] 166)).cell (p := ⟨g, o, none⟩) hg (by simp) |>.trans c0
    have HC7 : Hid (∀ j u, (symRow (y :: rest))[j]? = some u → (wr.alloc (.cells #[.string (t.text), .int .u8 (rkind t), .int .i64 ln] 166)).cell? ⟨g, o + j, none⟩ = some u) := fun j u hj => ((Fr.refl (fun _ => False) wr).alloc (.cells #[.string (t.text), .int .u8 (rkind t), .int .i64 ln] 166)).cell (p := ⟨g, o + j, none⟩) hg (by simp) |>.trans (HCS.out j u hj)
    have hg7 : g < (wr.alloc (.cells #[.string (t.text), .int .u8 (rkind t), .int .i64 ln] 166)).heap.size := by simp; omega
    have hb7 : wr.heap.size < (wr.alloc (.cells #[.string (t.text), .int .u8 (rkind t), .int .i64 ln] 166)).heap.size := by simp
    generalize wr.alloc (.cells #[.string (t.text), .int .u8 (rkind t), .int .i64 ln] 166) = w7 at *
    have H7 : Hid (Fr (fun _ => False) w w7) := HF7
    clear HF7 hn7 c0 r0 r1 r2
    generalize hTX : t.text = T at *
    generalize rkind t = KD at *
    have HTX : Hid (T = t.text) := hTX.symm
    obtain ⟨LN, hLN⟩ : ∃ LN : Int, LN = ln := ⟨_, rfl⟩
    subst hLN
    clear hTX
    cases hbm : becomesM y t with
    | some l =>
     have HBM : Hid (becomesM y t = some l) := hbm
     clear hbm
     go_cut [6, 7] from 11 to 74 (fun s6 s7 wx => ∃ g2 c2, s6 = .slice (some ⟨g2, 0, none⟩) l.length c2 ∧ s7 = .bool true ∧ Hid (∀ j u, (symRow l)[j]? = some u → wx.cell? ⟨g2, j, none⟩ = some u) ∧ Hid (Fr (fun _ => False) w7 wx) ∧ Hid (g2 < wx.heap.size))
     case first =>
      go_region_with (go_at_call 130; refine (becomes_anyT y t T KD LN _ HLO.out.2.1 HL.out HTX.out).mono ?_; intro e w8 hT8; obtain ⟨⟨g2, c2, rfl, hg2, hl2, hcs2⟩, hf8⟩ := (BPost.some HBM.out).1 hT8; have HF8 : Hid (Fr (fun _ => False) w7 w8) := ((Fr.refl _ _).drew).trans hf8; have HCS2 : Hid (∀ j u, (symRow l)[j]? = some u → w8.cell? ⟨g2, j, none⟩ = some u) := hcs2; clear hf8 hcs2 hT8)
      all_goals (go_wp2_with fail; go_meet; exact ⟨g2, c2, rfl, rfl, HCS2, HF8, hl2⟩)
     case rest =>
      obtain ⟨g2, c2, rfl, rfl, HCS2, HF8, HG2⟩ := hcut
      have HFc : Hid (Fr (fun _ => False) w wc) := H7.out.trans HF8.out
      have HCc : Hid (∀ j u, (symRow (y :: rest))[j]? = some u → wc.cell? ⟨g, o + j, none⟩ = some u) := fun j u hj => (HF8.out.cell (p := ⟨g, o + j, none⟩) hg7 (by simp)).trans (HC7.out j u hj)
      have hgc : g < wc.heap.size := Nat.lt_of_lt_of_le hg7 HF8.out.size
      have hszc := HFc.out.size
      have hl15 : l.length + rest.length ≤ 15 := by have := low_len (low_exp HLO.out HBM.out); simpa using this
      go_wp2_with (at_builtin; refine wpList_append_own_at _ rfl (.tmp 32) (.tmp 33) 28 rfl w.heap.size 9 ii _ 1 16 Tryz.underlying28 hi hz0 hz1 hz2 rfl (by decide) (.slice none 0 0) 0 [] rfl (World.ownsRow_nil _ _ _ _) ⟨g2, 0, none⟩ l.length c2 (symRow l) rfl ?hl ?hnews ?h1 ?h63 ?hb ?hbase ?go)
      case hl => simp [symRow]
      case hnews => intro j u hj; rw [addr_add, Nat.zero_add]; exact HCS2.out j u hj
      case h1 => intro u hu; simp [symRow] at hu; obtain ⟨_, _, rfl⟩ := hu; rfl
      case h63 => unfold maxLen; omega
      case hb => omega
      case hbase => omega
      case go =>
       intro v1 w9 ho9 hg9 _ hb9
       have HO9 : Hid (w9.ownsRow w.heap.size 9 1 v1 l.length (symRow l)) := ho9
       have HF9 : Hid (Fr (fun _ => False) w w9) := HFc.out.grown hg9 (fun k hk => by simp [Value.ownBlock] at hk)
       have HC9 : Hid (∀ j u, (symRow (y :: rest))[j]? = some u → w9.cell? ⟨g, o + j, none⟩ = some u) := fun j u hj => (hg9.cell_far ⟨g, o + j, none⟩ hgc (by simp [Value.ownBlock])).trans (HCc.out j u hj)
       have hsz9 := HF9.out.size
       clear ho9 hg9 hb9
       by_cases hc1 : c = 1
       ·go_wp2_with (at_builtin; refine wpList_append_own_at _ rfl (.tmp 35) (.tmp 37) 28 rfl w.heap.size 9 ii _ 1 16 Tryz.underlying28 hi hz0 hz1 hz2 rfl (by decide) v1 l.length (symRow l) rfl HO9.out ⟨g, o, none⟩ (n - 1) 0 (symRow rest) rfl ?hlx ?hnewsx ?h1x ?h63x ?hbx ?hbasex ?gox)
        case hlx => simp [symRow]; simp at hn; omega
        case hnewsx => intro j u hj; rw [no_rest hn (by omega)] at hj; simp at hj
        case h1x => intro u hu; simp [symRow] at hu; obtain ⟨_, _, rfl⟩ := hu; rfl
        case h63x => unfold maxLen; simp at hn; omega
        case hbx => simp at hn; omega
        case hbasex => omega
        case gox =>
         intro v2 w10 ho10 hg10 _ hb10
         have HO10 : Hid (w10.ownsRow w.heap.size 9 1 v2 (l.length + (n - 1)) (symRow l ++ symRow rest)) := ho10
         have HF10 : Hid (Fr (fun _ => False) w w10) := HF9.out.grown hg10 (fun k hk => Or.inr (HO9.out.lt k hk).1)
         clear ho10 hg10 hb10
         go_wp2
         go_roundg m
         case measure => omega
         case rel =>
          refine ⟨l ++ rest, k, rfl, hk, low_exp HLO.out HBM.out, ?_, ?_, HF10⟩
          ·have e := HR.out
           simp only [formRun] at e
           rw [HTK.out, HBM.out] at e
           exact e
          ·refine Wt.of_row ?_
           have e : l.length + (n - 1) = (l ++ rest).length := by simp at hn ⊢; omega
           have e2 : symRow l ++ symRow rest = symRow (l ++ rest) := by simp [symRow]
           rw [← e, ← e2]
           exact HO10.out
       ·go_wp2_with (at_builtin; refine wpList_append_own_at _ rfl (.tmp 35) (.tmp 37) 28 rfl w.heap.size 9 ii _ 1 16 Tryz.underlying28 hi hz0 hz1 hz2 rfl (by decide) v1 l.length (symRow l) rfl HO9.out ⟨g, o + 1, none⟩ (n - 1) (c - 1) (symRow rest) rfl ?hlz ?hnewsz ?h1z ?h63z ?hbz ?hbasez ?goz)
        case hlz => simp [symRow]; simp at hn; omega
        case hnewsz => intro j u hj; rw [addr_add, show o + 1 + j = o + (j + 1) from by omega]; exact HC9.out (j + 1) u (by simpa [symRow] using hj)
        case h1z => intro u hu; simp [symRow] at hu; obtain ⟨_, _, rfl⟩ := hu; rfl
        case h63z => unfold maxLen; simp at hn; omega
        case hbz => simp at hn; omega
        case hbasez => omega
        case goz =>
         intro v2 w10 ho10 hg10 _ hb10
         have HO10 : Hid (w10.ownsRow w.heap.size 9 1 v2 (l.length + (n - 1)) (symRow l ++ symRow rest)) := ho10
         have HF10 : Hid (Fr (fun _ => False) w w10) := HF9.out.grown hg10 (fun k hk => Or.inr (HO9.out.lt k hk).1)
         clear ho10 hg10 hb10
         go_wp2
         go_roundg m
         case measure => omega
         case rel =>
          refine ⟨l ++ rest, k, rfl, hk, low_exp HLO.out HBM.out, ?_, ?_, HF10⟩
          ·have e := HR.out
           simp only [formRun] at e
           rw [HTK.out, HBM.out] at e
           exact e
          ·refine Wt.of_row ?_
           have e : l.length + (n - 1) = (l ++ rest).length := by simp at hn ⊢; omega
           have e2 : symRow l ++ symRow rest = symRow (l ++ rest) := by simp [symRow]
           rw [← e, ← e2]
           exact HO10.out
    | none =>
     have HBM : Hid (becomesM y t = none) := hbm
     clear hbm
     go_cut [6, 7] from 11 to 74 (fun s6 s7 wx => s6 = .slice none 0 0 ∧ s7 = .bool false ∧ Hid (Fr (fun _ => False) w7 wx))
     case first =>
      go_region_with (go_at_call 130; refine (becomes_anyT y t T KD LN _ HLO.out.2.1 HL.out HTX.out).mono ?_; intro e w8 hT8; obtain ⟨rfl, hf8⟩ := (BPost.none HBM.out).1 hT8; have HF8 : Hid (Fr (fun _ => False) w7 w8) := ((Fr.refl _ _).drew).trans hf8; clear hf8 hT8)
      all_goals (go_wp2_with fail; go_meet; exact ⟨rfl, rfl, HF8⟩)
     case rest =>
      obtain ⟨rfl, rfl, HF8⟩ := hcut
      have HFc : Hid (Fr (fun _ => False) w wc) := H7.out.trans HF8.out
      have HCc : Hid (∀ j u, (symRow (y :: rest))[j]? = some u → wc.cell? ⟨g, o + j, none⟩ = some u) := fun j u hj => (HF8.out.cell (p := ⟨g, o + j, none⟩) hg7 (by simp)).trans (HC7.out j u hj)
      have cc : wc.cell? ⟨g, o, none⟩ = some (.string (symS y)) := HCc.out 0 _ rfl
      have d0 := (HF8.out.cell (p := ⟨wr.heap.size, 0, none⟩) hb7 (by simp)).trans b0
      have d1 := (HF8.out.cell (p := ⟨wr.heap.size, 1, none⟩) hb7 (by simp)).trans b1
      have d2 := (HF8.out.cell (p := ⟨wr.heap.size, 2, none⟩) hb7 (by simp)).trans b2
      have hgc : g < wc.heap.size := Nat.lt_of_lt_of_le hg7 HF8.out.size
      clear b0 b1 b2 c7
      have HFin : Hid (fitsM y t = false → r = some k) := fun hf => by
       have e := HR.out
       simp only [formRun] at e
       rw [HTK.out, HBM.out, hf] at e
       simp at e
       exact e.symm
      have HGo : Hid (fitsM y t = true → formRun (body ++ [en]) m rest (k + 1) = some r) := fun hf => by
       have e := HR.out
       simp only [formRun] at e
       rw [HTK.out, HBM.out, hf] at e
       exact e
      have HA' : Hid (fitsM y t = false → formAns (body ++ [en]) r = LN) := fun hf => by
       rw [HFin.out hf]
       simp only [formAns]
       rw [HTK.out, if_neg HS3.out]
       exact HLN.out.symm
      cases y with
      | NAME =>
       have x1 : ((symS .NAME).toList == [78, 65, 77, 69]) = true := tl_eq (by decide)
       have x2 : ((symS .NAME).toList == [73, 78, 84]) = false := tl_ne (by decide)
       have x3 : ((symS .NAME).toList == T.toList) = false := by rw [ByteArray.toList_eq]; exact hA1
       generalize symS .NAME = X at *
       cases hz : decide (t.sort = 0) with
       | true =>
        rw [hz] at f0
        have HFT : Hid (fitsM .NAME t = true) := hz
        clear hz
        by_cases hc1 : c = 1
        ·go_wp2_with fail
         go_big_quiet ((fail))
         go_wp2
         go_roundg m
         case measure => omega
         case rel => exact ⟨rest, k + 1, by go_num, hlt, HLO.out.2.2, HGo.out HFT.out, Wt.pop1 hn (by omega), HFc.out.trans ⟨rfl, rfl, rfl, Nat.le_refl _, fun _ _ _ => rfl⟩⟩
        ·go_wp2_with fail
         go_big_quiet ((fail))
         go_wp2
         go_roundg m
         case measure => omega
         case rel => exact ⟨rest, k + 1, by go_num, hlt, HLO.out.2.2, HGo.out HFT.out, (Wt.pop hn hc hbg hgc HCc.out).fr ⟨rfl, rfl, rfl, Nat.le_refl _, fun _ _ _ => rfl⟩, HFc.out.trans ⟨rfl, rfl, rfl, Nat.le_refl _, fun _ _ _ => rfl⟩⟩
       | false =>
        rw [hz] at f0
        have HA : Hid (formAns (body ++ [en]) r = LN) := HA'.out hz
        clear hz
        go_wp2_with fail
        go_big_quiet ((fail))
        go_wp2
        go_ret
        exact ⟨ret_int HA.out.symm, HFc.out.trans ⟨rfl, rfl, rfl, Nat.le_refl _, fun _ _ _ => rfl⟩⟩
      | INT =>
       have x1 : ((symS .INT).toList == [78, 65, 77, 69]) = false := tl_ne (by decide)
       have x2 : ((symS .INT).toList == [73, 78, 84]) = true := tl_eq (by decide)
       have x3 : ((symS .INT).toList == T.toList) = false := by rw [ByteArray.toList_eq]; exact hA2
       generalize symS .INT = X at *
       cases hz : decide (t.sort = 1) with
       | true =>
        rw [hz] at f1
        have HFT : Hid (fitsM .INT t = true) := hz
        clear hz
        by_cases hc1 : c = 1
        ·go_wp2_with fail
         go_big_quiet ((fail))
         go_wp2
         go_roundg m
         case measure => omega
         case rel => exact ⟨rest, k + 1, by go_num, hlt, HLO.out.2.2, HGo.out HFT.out, Wt.pop1 hn (by omega), HFc.out.trans ⟨rfl, rfl, rfl, Nat.le_refl _, fun _ _ _ => rfl⟩⟩
        ·go_wp2_with fail
         go_big_quiet ((fail))
         go_wp2
         go_roundg m
         case measure => omega
         case rel => exact ⟨rest, k + 1, by go_num, hlt, HLO.out.2.2, HGo.out HFT.out, (Wt.pop hn hc hbg hgc HCc.out).fr ⟨rfl, rfl, rfl, Nat.le_refl _, fun _ _ _ => rfl⟩, HFc.out.trans ⟨rfl, rfl, rfl, Nat.le_refl _, fun _ _ _ => rfl⟩⟩
       | false =>
        rw [hz] at f1
        have HA : Hid (formAns (body ++ [en]) r = LN) := HA'.out hz
        clear hz
        go_wp2_with fail
        go_big_quiet ((fail))
        go_wp2
        go_ret
        exact ⟨ret_int HA.out.symm, HFc.out.trans ⟨rfl, rfl, rfl, Nat.le_refl _, fun _ _ _ => rfl⟩⟩
      | lit x =>
       have hx := HLO.out.2.1 x rfl
       have x1 : (x.toList == [78, 65, 77, 69]) = false := tl_ne (lits_words x hx).1
       have x2 : (x.toList == [73, 78, 84]) = false := tl_ne (lits_words x hx).2
       have x3 := lit_flip HL.out hx HTX.out
       simp only [symS] at cc
       clear hx
       cases hz : isFix t x with
       | true =>
        rw [hz] at x3
        have HFT : Hid (fitsM (.lit x) t = true) := hz
        clear hz
        by_cases hc1 : c = 1
        ·go_wp2_with fail
         go_big_quiet ((fail))
         go_wp2
         go_roundg m
         case measure => omega
         case rel => exact ⟨rest, k + 1, by go_num, hlt, HLO.out.2.2, HGo.out HFT.out, Wt.pop1 hn (by omega), HFc.out.trans ⟨rfl, rfl, rfl, Nat.le_refl _, fun _ _ _ => rfl⟩⟩
        ·go_wp2_with fail
         go_big_quiet ((fail))
         go_wp2
         go_roundg m
         case measure => omega
         case rel => exact ⟨rest, k + 1, by go_num, hlt, HLO.out.2.2, HGo.out HFT.out, (Wt.pop hn hc hbg hgc HCc.out).fr ⟨rfl, rfl, rfl, Nat.le_refl _, fun _ _ _ => rfl⟩, HFc.out.trans ⟨rfl, rfl, rfl, Nat.le_refl _, fun _ _ _ => rfl⟩⟩
       | false =>
        rw [hz] at x3
        have HA : Hid (formAns (body ++ [en]) r = LN) := HA'.out hz
        clear hz
        go_wp2_with fail
        go_big_quiet ((fail))
        go_wp2
        go_ret
        exact ⟨ret_int HA.out.symm, HFc.out.trans ⟨rfl, rfl, rfl, Nat.le_refl _, fun _ _ _ => rfl⟩⟩
      | _ => exact absurd HBM.out (by simp [becomesM])
   ·have hki : ¬ (k : Int) < (body.length : Int) := by omega
    have HTK : Hid (tkAt (body ++ [en]) k = en) := by
     show _ = _
     unfold tkAt
     rw [List.getD_eq_getElem?_getD, List.getElem?_append_right (by omega), show k - body.length = 0 from by omega]
     rfl
    have HL : Hid (LitTk en) := by
     have e : en = ⟨3, ByteArray.empty, en.line⟩ := by
      have h1 := HE.out
      cases en
      simp at h1
      obtain ⟨rfl, rfl⟩ := h1
      rfl
     show LitTk en
     rw [e]
     exact lit_of_end _
    have r0 : True := trivial
    have r1 : True := trivial
    have r2 : True := trivial
    have hA1 : (([78, 65, 77, 69] : List UInt8) == (⟨#[]⟩ : ByteArray).toList) = false := head_ne (by decide)
    have hA2 : (([73, 78, 84] : List UInt8) == (⟨#[]⟩ : ByteArray).toList) = false := head_ne (by decide)
    go_wp2_with fail
    have hn7 := heap_alloc_new wr (.cells #[.string ⟨#[]⟩, .int .u8 101, .int .i64 0] 166)
    have b0 := block_cell hn7 0 _ rfl
    have b1 := block_cell hn7 1 _ rfl
    have b2 := block_cell hn7 2 _ rfl
    have HF7 := HF.out.alloc (.cells #[.string ⟨#[]⟩, .int .u8 101, .int .i64 0] 166)
    have c7 := ((Fr.refl (fun _ => False) wr).alloc (.cells #[.string ⟨#[]⟩, .int .u8 101, .int .i64 0] 166)).cell (p := ⟨g, o, none⟩) hg (by simp) |>.trans c0
    have HC7 : Hid (∀ j u, (symRow (y :: rest))[j]? = some u → (wr.alloc (.cells #[.string ⟨#[]⟩, .int .u8 101, .int .i64 0] 166)).cell? ⟨g, o + j, none⟩ = some u) := fun j u hj => ((Fr.refl (fun _ => False) wr).alloc (.cells #[.string ⟨#[]⟩, .int .u8 101, .int .i64 0] 166)).cell (p := ⟨g, o + j, none⟩) hg (by simp) |>.trans (HCS.out j u hj)
    have hg7 : g < (wr.alloc (.cells #[.string ⟨#[]⟩, .int .u8 101, .int .i64 0] 166)).heap.size := by simp; omega
    have hb7 : wr.heap.size < (wr.alloc (.cells #[.string ⟨#[]⟩, .int .u8 101, .int .i64 0] 166)).heap.size := by simp
    generalize wr.alloc (.cells #[.string ⟨#[]⟩, .int .u8 101, .int .i64 0] 166) = w7 at *
    have H7 : Hid (Fr (fun _ => False) w w7) := HF7
    clear HF7 hn7 c0 r0 r1 r2
    obtain ⟨T, hTX⟩ : ∃ T : ByteArray, T = ⟨#[]⟩ := ⟨_, rfl⟩
    rw [← hTX] at b0 hA1 hA2
    have HTX : Hid (T = en.text) := hTX.trans HE.out.2.symm
    obtain ⟨KD, hKD⟩ : ∃ KD : Int, KD = 101 := ⟨_, rfl⟩
    rw [← hKD] at b1
    have f0 : (KD == 110) = false := by simp [hKD]
    have f1 : (KD == 105) = false := by simp [hKD]
    have f3 : (KD == 101) = true := by simp [hKD]
    have f4 : (KD != 101) = false := by simp [hKD]
    obtain ⟨LN, hLN⟩ : ∃ LN : Int, LN = 0 := ⟨_, rfl⟩
    rw [← hLN] at b2
    clear hTX hKD hLN
    cases hbm : becomesM y en with
    | some l =>
     have HBM : Hid (becomesM y en = some l) := hbm
     clear hbm
     go_cut [6, 7] from 11 to 74 (fun s6 s7 wx => ∃ g2 c2, s6 = .slice (some ⟨g2, 0, none⟩) l.length c2 ∧ s7 = .bool true ∧ Hid (∀ j u, (symRow l)[j]? = some u → wx.cell? ⟨g2, j, none⟩ = some u) ∧ Hid (Fr (fun _ => False) w7 wx) ∧ Hid (g2 < wx.heap.size))
     case first =>
      go_region_with (go_at_call 130; refine (becomes_anyT y en T KD LN _ HLO.out.2.1 HL.out HTX.out).mono ?_; intro e w8 hT8; obtain ⟨⟨g2, c2, rfl, hg2, hl2, hcs2⟩, hf8⟩ := (BPost.some HBM.out).1 hT8; have HF8 : Hid (Fr (fun _ => False) w7 w8) := ((Fr.refl _ _).drew).trans hf8; have HCS2 : Hid (∀ j u, (symRow l)[j]? = some u → w8.cell? ⟨g2, j, none⟩ = some u) := hcs2; clear hf8 hcs2 hT8)
      all_goals (go_wp2_with fail; go_meet; exact ⟨g2, c2, rfl, rfl, HCS2, HF8, hl2⟩)
     case rest =>
      obtain ⟨g2, c2, rfl, rfl, HCS2, HF8, HG2⟩ := hcut
      have HFc : Hid (Fr (fun _ => False) w wc) := H7.out.trans HF8.out
      have HCc : Hid (∀ j u, (symRow (y :: rest))[j]? = some u → wc.cell? ⟨g, o + j, none⟩ = some u) := fun j u hj => (HF8.out.cell (p := ⟨g, o + j, none⟩) hg7 (by simp)).trans (HC7.out j u hj)
      have hgc : g < wc.heap.size := Nat.lt_of_lt_of_le hg7 HF8.out.size
      have hszc := HFc.out.size
      have hl15 : l.length + rest.length ≤ 15 := by have := low_len (low_exp HLO.out HBM.out); simpa using this
      go_wp2_with (at_builtin; refine wpList_append_own_at _ rfl (.tmp 32) (.tmp 33) 28 rfl w.heap.size 9 ii _ 1 16 Tryz.underlying28 hi hz0 hz1 hz2 rfl (by decide) (.slice none 0 0) 0 [] rfl (World.ownsRow_nil _ _ _ _) ⟨g2, 0, none⟩ l.length c2 (symRow l) rfl ?hl ?hnews ?h1 ?h63 ?hb ?hbase ?go)
      case hl => simp [symRow]
      case hnews => intro j u hj; rw [addr_add, Nat.zero_add]; exact HCS2.out j u hj
      case h1 => intro u hu; simp [symRow] at hu; obtain ⟨_, _, rfl⟩ := hu; rfl
      case h63 => unfold maxLen; omega
      case hb => omega
      case hbase => omega
      case go =>
       intro v1 w9 ho9 hg9 _ hb9
       have HO9 : Hid (w9.ownsRow w.heap.size 9 1 v1 l.length (symRow l)) := ho9
       have HF9 : Hid (Fr (fun _ => False) w w9) := HFc.out.grown hg9 (fun k hk => by simp [Value.ownBlock] at hk)
       have HC9 : Hid (∀ j u, (symRow (y :: rest))[j]? = some u → w9.cell? ⟨g, o + j, none⟩ = some u) := fun j u hj => (hg9.cell_far ⟨g, o + j, none⟩ hgc (by simp [Value.ownBlock])).trans (HCc.out j u hj)
       have hsz9 := HF9.out.size
       clear ho9 hg9 hb9
       by_cases hc1 : c = 1
       ·go_wp2_with (at_builtin; refine wpList_append_own_at _ rfl (.tmp 35) (.tmp 37) 28 rfl w.heap.size 9 ii _ 1 16 Tryz.underlying28 hi hz0 hz1 hz2 rfl (by decide) v1 l.length (symRow l) rfl HO9.out ⟨g, o, none⟩ (n - 1) 0 (symRow rest) rfl ?hlx ?hnewsx ?h1x ?h63x ?hbx ?hbasex ?gox)
        case hlx => simp [symRow]; simp at hn; omega
        case hnewsx => intro j u hj; rw [no_rest hn (by omega)] at hj; simp at hj
        case h1x => intro u hu; simp [symRow] at hu; obtain ⟨_, _, rfl⟩ := hu; rfl
        case h63x => unfold maxLen; simp at hn; omega
        case hbx => simp at hn; omega
        case hbasex => omega
        case gox =>
         intro v2 w10 ho10 hg10 _ hb10
         have HO10 : Hid (w10.ownsRow w.heap.size 9 1 v2 (l.length + (n - 1)) (symRow l ++ symRow rest)) := ho10
         have HF10 : Hid (Fr (fun _ => False) w w10) := HF9.out.grown hg10 (fun k hk => Or.inr (HO9.out.lt k hk).1)
         clear ho10 hg10 hb10
         go_wp2
         go_roundg m
         case measure => omega
         case rel =>
          refine ⟨l ++ rest, k, rfl, hk, low_exp HLO.out HBM.out, ?_, ?_, HF10⟩
          ·have e := HR.out
           simp only [formRun] at e
           rw [HTK.out, HBM.out] at e
           exact e
          ·refine Wt.of_row ?_
           have e : l.length + (n - 1) = (l ++ rest).length := by simp at hn ⊢; omega
           have e2 : symRow l ++ symRow rest = symRow (l ++ rest) := by simp [symRow]
           rw [← e, ← e2]
           exact HO10.out
       ·go_wp2_with (at_builtin; refine wpList_append_own_at _ rfl (.tmp 35) (.tmp 37) 28 rfl w.heap.size 9 ii _ 1 16 Tryz.underlying28 hi hz0 hz1 hz2 rfl (by decide) v1 l.length (symRow l) rfl HO9.out ⟨g, o + 1, none⟩ (n - 1) (c - 1) (symRow rest) rfl ?hlz ?hnewsz ?h1z ?h63z ?hbz ?hbasez ?goz)
        case hlz => simp [symRow]; simp at hn; omega
        case hnewsz => intro j u hj; rw [addr_add, show o + 1 + j = o + (j + 1) from by omega]; exact HC9.out (j + 1) u (by simpa [symRow] using hj)
        case h1z => intro u hu; simp [symRow] at hu; obtain ⟨_, _, rfl⟩ := hu; rfl
        case h63z => unfold maxLen; simp at hn; omega
        case hbz => simp at hn; omega
        case hbasez => omega
        case goz =>
         intro v2 w10 ho10 hg10 _ hb10
         have HO10 : Hid (w10.ownsRow w.heap.size 9 1 v2 (l.length + (n - 1)) (symRow l ++ symRow rest)) := ho10
         have HF10 : Hid (Fr (fun _ => False) w w10) := HF9.out.grown hg10 (fun k hk => Or.inr (HO9.out.lt k hk).1)
         clear ho10 hg10 hb10
         go_wp2
         go_roundg m
         case measure => omega
         case rel =>
          refine ⟨l ++ rest, k, rfl, hk, low_exp HLO.out HBM.out, ?_, ?_, HF10⟩
          ·have e := HR.out
           simp only [formRun] at e
           rw [HTK.out, HBM.out] at e
           exact e
          ·refine Wt.of_row ?_
           have e : l.length + (n - 1) = (l ++ rest).length := by simp at hn ⊢; omega
           have e2 : symRow l ++ symRow rest = symRow (l ++ rest) := by simp [symRow]
           rw [← e, ← e2]
           exact HO10.out
    | none =>
     have HBM : Hid (becomesM y en = none) := hbm
     clear hbm
     go_cut [6, 7] from 11 to 74 (fun s6 s7 wx => s6 = .slice none 0 0 ∧ s7 = .bool false ∧ Hid (Fr (fun _ => False) w7 wx))
     case first =>
      go_region_with (go_at_call 130; refine (becomes_anyT y en T KD LN _ HLO.out.2.1 HL.out HTX.out).mono ?_; intro e w8 hT8; obtain ⟨rfl, hf8⟩ := (BPost.none HBM.out).1 hT8; have HF8 : Hid (Fr (fun _ => False) w7 w8) := ((Fr.refl _ _).drew).trans hf8; clear hf8 hT8)
      all_goals (go_wp2_with fail; go_meet; exact ⟨rfl, rfl, HF8⟩)
     case rest =>
      obtain ⟨rfl, rfl, HF8⟩ := hcut
      have HFc : Hid (Fr (fun _ => False) w wc) := H7.out.trans HF8.out
      have HCc : Hid (∀ j u, (symRow (y :: rest))[j]? = some u → wc.cell? ⟨g, o + j, none⟩ = some u) := fun j u hj => (HF8.out.cell (p := ⟨g, o + j, none⟩) hg7 (by simp)).trans (HC7.out j u hj)
      have cc : wc.cell? ⟨g, o, none⟩ = some (.string (symS y)) := HCc.out 0 _ rfl
      have d0 := (HF8.out.cell (p := ⟨wr.heap.size, 0, none⟩) hb7 (by simp)).trans b0
      have d1 := (HF8.out.cell (p := ⟨wr.heap.size, 1, none⟩) hb7 (by simp)).trans b1
      have d2 := (HF8.out.cell (p := ⟨wr.heap.size, 2, none⟩) hb7 (by simp)).trans b2
      have hgc : g < wc.heap.size := Nat.lt_of_lt_of_le hg7 HF8.out.size
      clear b0 b1 b2 c7
      have HFin : Hid (fitsM y en = false → r = some k) := fun hf => by
       have e := HR.out
       simp only [formRun] at e
       rw [HTK.out, HBM.out, hf] at e
       simp at e
       exact e.symm
      have HGo : Hid (fitsM y en = true → formRun (body ++ [en]) m rest (k + 1) = some r) := fun hf => by
       have e := HR.out
       simp only [formRun] at e
       rw [HTK.out, HBM.out, hf] at e
       exact e
      have HA : Hid (formAns (body ++ [en]) r = -1) := by
       show _ = _
       rw [HFin.out (by cases y <;> simp [fitsM, isFix, HE.out.1])]
       simp only [formAns]
       rw [HTK.out, if_pos HE.out.1]
      cases y with
      | NAME =>
       have x1 : ((symS .NAME).toList == [78, 65, 77, 69]) = true := tl_eq (by decide)
       have x2 : ((symS .NAME).toList == [73, 78, 84]) = false := tl_ne (by decide)
       have x3 : ((symS .NAME).toList == T.toList) = false := by rw [ByteArray.toList_eq]; exact hA1
       generalize symS .NAME = X at *
       go_wp2_with fail
       go_big_quiet ((fail))
       go_wp2
       go_ret
       exact ⟨ret_int HA.out.symm, HFc.out.trans ⟨rfl, rfl, rfl, Nat.le_refl _, fun _ _ _ => rfl⟩⟩
      | INT =>
       have x1 : ((symS .INT).toList == [78, 65, 77, 69]) = false := tl_ne (by decide)
       have x2 : ((symS .INT).toList == [73, 78, 84]) = true := tl_eq (by decide)
       have x3 : ((symS .INT).toList == T.toList) = false := by rw [ByteArray.toList_eq]; exact hA2
       generalize symS .INT = X at *
       go_wp2_with fail
       go_big_quiet ((fail))
       go_wp2
       go_ret
       exact ⟨ret_int HA.out.symm, HFc.out.trans ⟨rfl, rfl, rfl, Nat.le_refl _, fun _ _ _ => rfl⟩⟩
      | lit x =>
       have hx := HLO.out.2.1 x rfl
       have x1 : (x.toList == [78, 65, 77, 69]) = false := tl_ne (lits_words x hx).1
       have x2 : (x.toList == [73, 78, 84]) = false := tl_ne (lits_words x hx).2
       have x3 := lit_flip HL.out hx HTX.out
       rw [show isFix en x = false from by simp [isFix, HE.out.1]] at x3
       simp only [symS] at cc
       clear hx
       go_wp2_with fail
       go_big_quiet ((fail))
       go_wp2
       go_ret
       exact ⟨ret_int HA.out.symm, HFc.out.trans ⟨rfl, rfl, rfl, Nat.le_refl _, fun _ _ _ => rfl⟩⟩
      | _ => exact absurd HBM.out (by simp [becomesM])
end Go.Proofs.YtccikgogjfbpeaaGreatDoor
