import Derived.Test.YtccikgogjfbpeaaGreatDoorQl
namespace Go.Proofs.YtccikgogjfbpeaaGreatDoor
set_option maxRecDepth 30000
set_option maxHeartbeats 8000000
open Go.RowKit
def TokPost (x : Except Nat (List Tk)) (w : World) (e : Ending) (w' : World) : Prop :=
 match x with
 | .ok ts => (∃ v, e = .returned (.tuple #[v, .int .i64 0]) /\ w'.ownsRow w.heap.size 166 3 v ts.dropLast.length (rtkRow ts.dropLast)) /\ F0 w w'
 | .error l => e = .returned (.tuple #[.slice none 0 0, .int .i64 l]) /\ F0 w w'
theorem TokPost.ok {x : Except Nat (List Tk)} {w w' : World} {e : Ending} {ts : List Tk} (h : x = .ok ts) : TokPost x w e w' ↔ (∃ v, e = .returned (.tuple #[v, .int .i64 0]) /\ w'.ownsRow w.heap.size 166 3 v ts.dropLast.length (rtkRow ts.dropLast)) /\ F0 w w' := by subst h; exact Iff.rfl
theorem TokPost.err {x : Except Nat (List Tk)} {w w' : World} {e : Ending} {l : Nat} (h : x = .error l) : TokPost x w e w' ↔ e = .returned (.tuple #[.slice none 0 0, .int .i64 l]) /\ F0 w w' := by subst h; exact Iff.rfl
theorem kw_size {x : ByteArray} (h : isKwB x = true) : x.size <= 8 := by
 rw [isKwB_data] at h
 have h2 : x.data.toList ∈ kws := by simpa using h
 have h3 : ∀ l, l ∈ kws -> l.length <= 8 := by decide
 have := h3 _ h2
 simpa using this
theorem sign_kw (s : ByteArray) (k : Nat) (hle : k + signM s k <= s.size) : isKwB (s.extract k (k + signM s k)) = false := by
 rw [Bool.eq_false_iff];intro h;rw [isKwB_data] at h
 have h2 : (s.extract k (k + signM s k)).data.toList ∈ kws := by simpa using h
 have h3 : ∀ l, l ∈ kws -> 2 < l.length := by decide
 have h4 := h3 _ h2
 have h5 : signM s k <= 2 := by unfold signM; split <;> (try split) <;> omega
 have h6 : (s.extract k (k + signM s k)).data.toList.length = (s.extract k (k + signM s k)).size := by rw [Array.length_toList]; rfl
 rw [h6, ByteArray.size_extract] at h4;omega
theorem runAt_go (p : Int -> Bool) (s : ByteArray) (k j n : Nat) (hj : j < s.size) (h : n = j - k + runAt p s j) (hk : k <= j) (hp : p (bAt s j) = true) : n = j + 1 - k + runAt p s (j + 1) := by
 rw [h];unfold runAt;rw [runLen_step p s j hj, if_pos hp];omega
theorem runAt_stop (p : Int -> Bool) (s : ByteArray) (j : Nat) (hj : j < s.size) (hp : p (bAt s j) = false) : runAt p s j = 0 := by
 unfold runAt;rw [runLen_step p s j hj, hp];rfl
theorem runAt_over (p : Int -> Bool) (s : ByteArray) (j : Nat) (hj : ¬ j < s.size) : runAt p s j = 0 := runLen_end p s j (by omega)
theorem Tokens_any (s : ByteArray) (w : World) (hs : s.size <= 3000) : Calls Tryz.prog 78 #[.string s] w (TokPost (lexFrom s 0 1 []) w) := by
 obtain ⟨ii, hi, hz0, hz1, hz2⟩ := info_parts Tryz.infoTok;go_enter Tryz.func78, Tryz.ntmps78;go_wp2_with fail
 go_loopg [4, 5, 6] s.size (fun m o l i wr => ∃ k line acc, k <= s.size /\ m = s.size - k /\ l = .int .i64 (line : Nat) /\ i = .int .i64 (k : Nat) /\ line <= k + 1 /\ acc.length <= k /\ Hid (wr.ownsRow w.heap.size 166 3 o acc.length (rtkRow acc)) /\ Hid (F0 w wr) /\ Hid (lexFrom s 0 1 [] = lexFrom s k line acc))
 case atStart => exact ⟨0, 1, [], Nat.zero_le _, rfl, rfl, rfl, by omega, by simp, oZ _ _ _ _, Fr.refl _ _, rfl⟩
 case round =>
  obtain ⟨k, line, acc, hk, rfl, rfl, rfl, hln, hac, HO, HF, HL⟩ := hrel;have hsz := HF.o.size;by_cases hlt : k < s.size
  ·have HLT := hid hlt
   have hki : (k : Int) < (s.size : Int) := by omega
   have hix := fun w => index_at (P := Tryz.prog) Tryz.underlying9 s k (k : Int) rfl hlt w
   by_cases h10 : bAt s k = 10
   ·have HT : Hid (lexStep s k line = .skip (k + 1) (line + 1)) := by show _ = _; simp [lexStep, h10]
    rw [h10] at hix;clear h10;go_wp2;go_roundg (s.size - (k + 1))
    case measure => omega
    case rel => exact ⟨k + 1, line + 1, acc, by omega, rfl, by go_num, by go_num, by omega, by omega, HO, HF, HL.o.trans (lexFrom_skip HLT.o HT.o)⟩
   by_cases h32 : bAt s k = 32
   ·have HT : Hid (lexStep s k line = .skip (k + 1) line) := by show _ = _; simp [lexStep, h32]
    rw [h32] at hix;clear h10 h32;go_wp2;go_roundg (s.size - (k + 1))
    case measure => omega
    case rel => exact ⟨k + 1, line, acc, by omega, rfl, rfl, by go_num, by omega, by omega, HO, HF, HL.o.trans (lexFrom_skip HLT.o HT.o)⟩
   by_cases h9 : bAt s k = 9
   ·have HT : Hid (lexStep s k line = .skip (k + 1) line) := by show _ = _; simp [lexStep, h9]
    rw [h9] at hix;clear h10 h32 h9;go_wp2;go_roundg (s.size - (k + 1))
    case measure => omega
    case rel => exact ⟨k + 1, line, acc, by omega, rfl, rfl, by go_num, by omega, by omega, HO, HF, HL.o.trans (lexFrom_skip HLT.o HT.o)⟩
   by_cases h35 : bAt s k = 35
   ·have HT : Hid (lexStep s k line = .skip (k + runAt inRemarkB s k) line) := by show _ = _; simp [lexStep, h35]
    have hpos := runAt_pos inRemarkB s k hlt (by simp [inRemarkB, h35]);rw [h35] at hix;clear h10 h32 h9 h35;obtain ⟨n, hn⟩ : ∃ n, n = runAt inRemarkB s k := ⟨_, rfl⟩;rw [<- hn] at HT hpos
    have HN : Hid (n = k - k + runAt inRemarkB s k) := by show _ = _; omega
    clear hn;go_wp2_with fail
    go_loop [6] (fun i => ∃ j : Nat, k <= j /\ j <= s.size /\ i = .int .i64 j /\ Hid (n = j - k + runAt inRemarkB s j)) (fun i => s.size - (intOf i).toNat)
    case atStart => exact ⟨k, Nat.le_refl _, hk, rfl, HN⟩
    case round =>
     obtain ⟨j, hj1, hj2, rfl, HJ⟩ := hrel;by_cases hjl : j < s.size
     ·have hji : (j : Int) < (s.size : Int) := by omega
      have hjx := fun w => index_at (P := Tryz.prog) Tryz.underlying9 s j (j : Int) rfl hjl w
      by_cases hb : bAt s j = 10
      ·have HZ : Hid (runAt inRemarkB s j = 0) := runAt_stop _ s j hjl (by simp [inRemarkB, hb])
       rw [hb] at hjx;clear hb hix;go_wp2;go_roundg (s.size - j)
       case measure => have := HJ.o; have := HZ.o; omega
       case rel =>
        have e : j = k + n := by have := HJ.o; have := HZ.o; omega
        exact ⟨j, line, acc, by omega, rfl, rfl, rfl, by omega, by omega, HO, HF, by rw [e]; exact HL.o.trans (lexFrom_skip HLT.o HT.o)⟩
      ·have HJ1 := hid (runAt_go inRemarkB s k j n hjl HJ.o hj1 (by simp [inRemarkB, hb]))
       have hb1 : (bAt s j == 10) = false := by simp [hb]
       have hb2 : (bAt s j != 10) = true := by simp [hb]
       generalize bAt s j = c at *;clear hb hix;go_wp2;exact ⟨⟨j + 1, by omega, by omega, by go_num, HJ1⟩, by simp [intOf]; omega⟩
     ·have hji : ¬ (j : Int) < (s.size : Int) := by omega
      have HZ : Hid (runAt inRemarkB s j = 0) := runAt_over _ s j hjl;clear hix;go_wp2;go_roundg (s.size - j)
      case measure => have := HJ.o; have := HZ.o; omega
      case rel =>
       have e : j = k + n := by have := HJ.o; have := HZ.o; omega
       exact ⟨j, line, acc, by omega, rfl, rfl, rfl, by omega, by omega, HO, HF, by rw [e]; exact HL.o.trans (lexFrom_skip HLT.o HT.o)⟩
   have d10 : (bAt s k == 10) = false := by simp [h10]
   have d32 : (bAt s k == 32) = false := by simp [h32]
   have d9 : (bAt s k == 9) = false := by simp [h9]
   have d35 : (bAt s k == 35) = false := by simp [h35]
   have hn : ¬ (bAt s k = 32 \/ bAt s k = 9) := by omega
   by_cases hdg : 48 <= bAt s k /\ bAt s k <= 57
   ·have hD : iD (bAt s k) = true := by simp [iD]; exact hdg
    have hS : isSmallB (bAt s k) = false := by simp [isSmallB]; omega
    have HB : Hid (9 < runAt iD s k -> lexStep s k line = .bad) := fun h => by simp [lexStep, h10, hn, h35, hS, hD, h]
    have HG : Hid (¬ 9 < runAt iD s k -> lexStep s k line = .tok ⟨1, s.extract k (k + runAt iD s k), line⟩ (k + runAt iD s k)) := fun h => by simp [lexStep, h10, hn, h35, hS, hD, h]
    have hpos := runAt_pos iD s k hlt hD;have hle := runAt_le iD s k hk;obtain ⟨g1, g2⟩ := hdg;obtain ⟨n, hn⟩ : ∃ n, n = runAt iD s k := ⟨_, rfl⟩;rw [<- hn] at HB HG hpos hle
    have HN : Hid (n = k - k + runAt iD s k) := by show _ = _; omega
    clear hn hD hS h10 h32 h9 h35;generalize bAt s k = c at *;go_wp2_with fail
    go_loop [8] (fun i => ∃ j : Nat, k <= j /\ j <= s.size /\ i = .int .i64 j /\ Hid (n = j - k + runAt iD s j)) (fun i => s.size - (intOf i).toNat)
    case atStart => exact ⟨k, Nat.le_refl _, hk, rfl, HN⟩
    case round =>
     obtain ⟨j, hj1, hj2, rfl, HJ⟩ := hrel;clear hix d10 d32 d9 d35 g1 g2;have hws : IntKind.i64.wrap ((j : Int) - (k : Int)) = (j : Int) - (k : Int) := IntWalk.i64_in _ (by omega);by_cases hst : j < s.size /\ iD (bAt s j) = true
     ·obtain ⟨hjl, hb⟩ := hst
      have hji : (j : Int) < (s.size : Int) := by omega
      have hjx := fun w => index_at (P := Tryz.prog) Tryz.underlying9 s j (j : Int) rfl hjl w
      have HJ1 := hid (runAt_go iD s k j n hjl HJ.o hj1 hb);simp only [iD, decide_eq_true_eq] at hb;obtain ⟨g1, g2⟩ := hb;generalize bAt s j = c at *;go_wp2;exact ⟨⟨j + 1, by omega, by omega, by go_num, HJ1⟩, by simp [intOf]; omega⟩
     ·have HE : Hid (j = k + n) := by
       show _ = _
       have h0 : runAt iD s j = 0 := by
        by_cases hjl : j < s.size
        ·exact runAt_stop _ s j hjl (by simpa using fun h => hst ⟨hjl, h⟩)
        ·exact runAt_over _ s j hjl
       have := HJ.o;omega
      by_cases h9 : 9 < n
      ·have hgt : (9 : Int) < (j : Int) - (k : Int) := by have := HE.o; omega
       have HT := hid (HB.o h9);clear h9;by_cases hjl : j < s.size
       ·have hji : (j : Int) < (s.size : Int) := by omega
        have hjx := fun w => index_at (P := Tryz.prog) Tryz.underlying9 s j (j : Int) rfl hjl w
        have hb : ¬ (48 <= bAt s j /\ bAt s j <= 57) := fun h => hst ⟨hjl, by simp [iD]; exact h⟩
        generalize bAt s j = c at *;clear hst;by_cases g1 : 48 <= c
        ·have g2 : ¬ c <= 57 := fun h => hb ⟨g1, h⟩
         clear hb
         go_wp2_with (first | (go_at_call 128; refine (keyword_any _ _).mono ?_; rintro e w' ⟨rfl, he⟩; replace he := he.symm; subst he; simp only [hkw]) | (go_at_call 129; refine (sign_any _ _ _ HLT.o hs).mono ?_; rintro e w' ⟨rfl, he⟩; replace he := he.symm; subst he; rw [HSG.o]))
         go_ret2
         exact (TokPost.err (HL.o.trans (lexFrom_bad HLT.o HT.o))).2 ⟨rfl, HF.o⟩
        ·clear hb
         go_wp2_with (first | (go_at_call 128; refine (keyword_any _ _).mono ?_; rintro e w' ⟨rfl, he⟩; replace he := he.symm; subst he; simp only [hkw]) | (go_at_call 129; refine (sign_any _ _ _ HLT.o hs).mono ?_; rintro e w' ⟨rfl, he⟩; replace he := he.symm; subst he; rw [HSG.o]))
         go_ret2
         exact (TokPost.err (HL.o.trans (lexFrom_bad HLT.o HT.o))).2 ⟨rfl, HF.o⟩
       ·have hji : ¬ (j : Int) < (s.size : Int) := by omega
        clear hst
        go_wp2_with (first | (go_at_call 128; refine (keyword_any _ _).mono ?_; rintro e w' ⟨rfl, he⟩; replace he := he.symm; subst he; simp only [hkw]) | (go_at_call 129; refine (sign_any _ _ _ HLT.o hs).mono ?_; rintro e w' ⟨rfl, he⟩; replace he := he.symm; subst he; rw [HSG.o]))
        go_ret2
        exact (TokPost.err (HL.o.trans (lexFrom_bad HLT.o HT.o))).2 ⟨rfl, HF.o⟩
      ·have hgt : ¬ (9 : Int) < (j : Int) - (k : Int) := by have := HE.o; omega
       have HT : Hid (lexStep s k line = .tok ⟨1, s.extract k j, line⟩ j) := by have := HG.o h9; rw [<- HE.o] at this; exact this
       have HK : Hid (rkind ⟨1, s.extract k j, line⟩ = 105) := rfl
       have hlo : k < j := by have := HE.o; omega
       have hi1 : (k : Int) <= (j : Int) := by omega
       have hi2 : (j : Int) <= (s.size : Int) := by omega
       clear h9;by_cases hjl : j < s.size
       ·have hji : (j : Int) < (s.size : Int) := by omega
        have hjx := fun w => index_at (P := Tryz.prog) Tryz.underlying9 s j (j : Int) rfl hjl w
        have hb : ¬ (48 <= bAt s j /\ bAt s j <= 57) := fun h => hst ⟨hjl, by simp [iD]; exact h⟩
        generalize bAt s j = c at *;clear hst;by_cases g1 : 48 <= c
        ·have g2 : ¬ c <= 57 := fun h => hb ⟨g1, h⟩
         clear hb
         go_wp2_with (first | (go_at_call 128; refine (keyword_any _ _).mono ?_; rintro e w' ⟨rfl, he⟩; replace he := he.symm; subst he; simp only [hkw]) | (go_at_call 129; refine (sign_any _ _ _ HLT.o hs).mono ?_; rintro e w' ⟨rfl, he⟩; replace he := he.symm; subst he; rw [HSG.o]) | (at_builtin; refine wpList_append_lies _ rfl (.tmp 138) (.tmp 146) 67 rfl w.heap.size 166 ii _ 3 32 Tryz.underlying67 hi hz0 hz1 hz2 rfl (by decide) u4 acc.length (rtkRow acc) rfl ?h1a ⟨wr.heap.size, 0, none⟩ 1 1 [.string (s.extract k j), .int .u8 105, .int .i64 line] rfl rfl ?h2a ?h3a (by decide) ?h4a ?h5a ?h6a _ rfl ?h7a))
         case h1a => exact HO.o.alloc _
         try case h2a => exact World.news_of_block (aN wr _)
         case h3a => simp [Value.oneCell']
         case h4a => unfold maxLen; omega
         case h5a => omega
         case h6a => first | omega | (simp; omega)
         case h7a =>
          intro g2 cap2 w4 hown hgrow _ _
          have hrow : ∀ k, u4.ownBlock = some k -> w.heap.size <= k := fun k hk => (HO.o.lt k hk).1
          have HO4 := hid hown;have HF4 := hid ((HF.o.alloc _).grown hgrow (fun k hk => Or.inr (hrow k hk)));clear hgrow hown hrow;go_wp2;go_roundg (s.size - j)
          case measure => omega
          case rel =>
           refine ⟨j, line, acc ++ [⟨1, s.extract k j, line⟩], by omega, rfl, rfl, by go_num, by omega, by simp; omega, ?_, HF4, ?_⟩
           ·show World.ownsRow _ _ _ _ _ _ _
            have e2 : rtkCells ⟨1, s.extract k j, line⟩ = [.string (s.extract k j), .int .u8 105, .int .i64 line] := by unfold rtkCells; rw [HK.o]
            rw [rtkRow_snoc, lA, e2];exact HO4.o
           ·show _ = _
            exact HL.o.trans (lexFrom_tok HLT.o HT.o)
        ·clear hb
         go_wp2_with (first | (go_at_call 128; refine (keyword_any _ _).mono ?_; rintro e w' ⟨rfl, he⟩; replace he := he.symm; subst he; simp only [hkw]) | (go_at_call 129; refine (sign_any _ _ _ HLT.o hs).mono ?_; rintro e w' ⟨rfl, he⟩; replace he := he.symm; subst he; rw [HSG.o]) | (at_builtin; refine wpList_append_lies _ rfl (.tmp 138) (.tmp 146) 67 rfl w.heap.size 166 ii _ 3 32 Tryz.underlying67 hi hz0 hz1 hz2 rfl (by decide) u4 acc.length (rtkRow acc) rfl ?h1b ⟨wr.heap.size, 0, none⟩ 1 1 [.string (s.extract k j), .int .u8 105, .int .i64 line] rfl rfl ?h2b ?h3b (by decide) ?h4b ?h5b ?h6b _ rfl ?h7b))
         case h1b => exact HO.o.alloc _
         try case h2b => exact World.news_of_block (aN wr _)
         case h3b => simp [Value.oneCell']
         case h4b => unfold maxLen; omega
         case h5b => omega
         case h6b => first | omega | (simp; omega)
         case h7b =>
          intro g2 cap2 w4 hown hgrow _ _
          have hrow : ∀ k, u4.ownBlock = some k -> w.heap.size <= k := fun k hk => (HO.o.lt k hk).1
          have HO4 := hid hown;have HF4 := hid ((HF.o.alloc _).grown hgrow (fun k hk => Or.inr (hrow k hk)));clear hgrow hown hrow;go_wp2;go_roundg (s.size - j)
          case measure => omega
          case rel =>
           refine ⟨j, line, acc ++ [⟨1, s.extract k j, line⟩], by omega, rfl, rfl, by go_num, by omega, by simp; omega, ?_, HF4, ?_⟩
           ·show World.ownsRow _ _ _ _ _ _ _
            have e2 : rtkCells ⟨1, s.extract k j, line⟩ = [.string (s.extract k j), .int .u8 105, .int .i64 line] := by unfold rtkCells; rw [HK.o]
            rw [rtkRow_snoc, lA, e2];exact HO4.o
           ·show _ = _
            exact HL.o.trans (lexFrom_tok HLT.o HT.o)
       ·have hji : ¬ (j : Int) < (s.size : Int) := by omega
        clear hst
        go_wp2_with (first | (go_at_call 128; refine (keyword_any _ _).mono ?_; rintro e w' ⟨rfl, he⟩; replace he := he.symm; subst he; simp only [hkw]) | (go_at_call 129; refine (sign_any _ _ _ HLT.o hs).mono ?_; rintro e w' ⟨rfl, he⟩; replace he := he.symm; subst he; rw [HSG.o]) | (at_builtin; refine wpList_append_lies _ rfl (.tmp 138) (.tmp 146) 67 rfl w.heap.size 166 ii _ 3 32 Tryz.underlying67 hi hz0 hz1 hz2 rfl (by decide) u4 acc.length (rtkRow acc) rfl ?h1c ⟨wr.heap.size, 0, none⟩ 1 1 [.string (s.extract k j), .int .u8 105, .int .i64 line] rfl rfl ?h2c ?h3c (by decide) ?h4c ?h5c ?h6c _ rfl ?h7c))
        case h1c => exact HO.o.alloc _
        try case h2c => exact World.news_of_block (aN wr _)
        case h3c => simp [Value.oneCell']
        case h4c => unfold maxLen; omega
        case h5c => omega
        case h6c => first | omega | (simp; omega)
        case h7c =>
         intro g2 cap2 w4 hown hgrow _ _
         have hrow : ∀ k, u4.ownBlock = some k -> w.heap.size <= k := fun k hk => (HO.o.lt k hk).1
         have HO4 := hid hown;have HF4 := hid ((HF.o.alloc _).grown hgrow (fun k hk => Or.inr (hrow k hk)));clear hgrow hown hrow;go_wp2;go_roundg (s.size - j)
         case measure => omega
         case rel =>
          refine ⟨j, line, acc ++ [⟨1, s.extract k j, line⟩], by omega, rfl, rfl, by go_num, by omega, by simp; omega, ?_, HF4, ?_⟩
          ·show World.ownsRow _ _ _ _ _ _ _
           have e2 : rtkCells ⟨1, s.extract k j, line⟩ = [.string (s.extract k j), .int .u8 105, .int .i64 line] := by unfold rtkCells; rw [HK.o]
           rw [rtkRow_snoc, lA, e2];exact HO4.o
          ·show _ = _
           exact HL.o.trans (lexFrom_tok HLT.o HT.o)
   by_cases hsm : 97 <= bAt s k /\ bAt s k <= 122
   ·have hD : iD (bAt s k) = false := by simp [iD]; omega
    have hS : isSmallB (bAt s k) = true := by simp [isSmallB]; exact hsm
    have HW : Hid (isKwB (s.extract k (k + runAt inWordB s k)) = true -> lexStep s k line = .tok ⟨2, s.extract k (k + runAt inWordB s k), line⟩ (k + runAt inWordB s k)) := fun h => by simp [lexStep, h10, hn, h35, hS, h]
    have HB : Hid (isKwB (s.extract k (k + runAt inWordB s k)) = false -> 8 < runAt inWordB s k -> lexStep s k line = .bad) := fun h h2 => by simp [lexStep, h10, hn, h35, hS, h, h2]
    have HG : Hid (isKwB (s.extract k (k + runAt inWordB s k)) = false -> ¬ 8 < runAt inWordB s k -> lexStep s k line = .tok ⟨0, s.extract k (k + runAt inWordB s k), line⟩ (k + runAt inWordB s k)) := fun h h2 => by simp [lexStep, h10, hn, h35, hS, h, h2]
    have hpos := runAt_pos inWordB s k hlt (by simp [inWordB, hS]);have hle := runAt_le inWordB s k hk;obtain ⟨g1, g2⟩ := hsm
    have g3 : ¬ bAt s k <= 57 := by omega
    obtain ⟨n, hn⟩ : ∃ n, n = runAt inWordB s k := ⟨_, rfl⟩;rw [<- hn] at HB HG HW hpos hle
    have HN : Hid (n = k - k + runAt inWordB s k) := by show _ = _; omega
    clear hn hD hS h10 h32 h9 h35 hdg;generalize bAt s k = c at *;go_wp2_with fail
    go_loop [8] (fun i => ∃ j : Nat, k <= j /\ j <= s.size /\ i = .int .i64 j /\ Hid (n = j - k + runAt inWordB s j)) (fun i => s.size - (intOf i).toNat)
    case atStart => exact ⟨k, Nat.le_refl _, hk, rfl, HN⟩
    case round =>
     obtain ⟨j, hj1, hj2, rfl, HJ⟩ := hrel;clear hix d10 d32 d9 d35 g1 g2 g3;have hws : IntKind.i64.wrap ((j : Int) - (k : Int)) = (j : Int) - (k : Int) := IntWalk.i64_in _ (by omega);by_cases hst : j < s.size /\ inWordB (bAt s j) = true
     ·obtain ⟨hjl, hb⟩ := hst
      have hji : (j : Int) < (s.size : Int) := by omega
      have hjx := fun w => index_at (P := Tryz.prog) Tryz.underlying9 s j (j : Int) rfl hjl w
      have HJ1 := hid (runAt_go inWordB s k j n hjl HJ.o hj1 hb);simp only [inWordB, isSmallB, iD, Bool.or_eq_true, decide_eq_true_eq] at hb;generalize bAt s j = c at *;by_cases g1 : 97 <= c
      ·have g2 : c <= 122 := by omega
       clear hb;go_wp2;exact ⟨⟨j + 1, by omega, by omega, by go_num, HJ1⟩, by simp [intOf]; omega⟩
      ·have g2 : 48 <= c := by omega
       have g3 : c <= 57 := by omega
       clear hb;go_wp2;exact ⟨⟨j + 1, by omega, by omega, by go_num, HJ1⟩, by simp [intOf]; omega⟩
     ·have HE : Hid (j = k + n) := by
       show _ = _
       have h0 : runAt inWordB s j = 0 := by
        by_cases hjl : j < s.size
        ·exact runAt_stop _ s j hjl (by simpa using fun h => hst ⟨hjl, h⟩)
        ·exact runAt_over _ s j hjl
       have := HJ.o;omega
      have hlo : k < j := by have := HE.o; omega
      have hi1 : (k : Int) <= (j : Int) := by omega
      have hi2 : (j : Int) <= (s.size : Int) := by omega
      have HQ := hid hst;clear hst;rw [<- HE.o] at HW HB HG
      cases hkw : isKwB (s.extract k j) with
      | true =>
       have HT := hid (HW.o hkw)
       have HK : Hid (rkind ⟨2, s.extract k j, line⟩ = 107) := by show _ = _; simp [rkind, hkw]
       have hle8 : ¬ (8 : Int) < (j : Int) - (k : Int) := by
        have h8 := kw_size hkw
        have hz : (s.extract k j).size = j - k := by rw [ByteArray.size_extract]; omega
        omega
       by_cases hjl : j < s.size
       ·have hji : (j : Int) < (s.size : Int) := by omega
        have hjx := fun w => index_at (P := Tryz.prog) Tryz.underlying9 s j (j : Int) rfl hjl w
        have hb : inWordB (bAt s j) = false := by simpa using fun h => HQ.o ⟨hjl, h⟩
        simp only [inWordB, isSmallB, iD, Bool.or_eq_false_iff, decide_eq_false_iff_not] at hb;generalize bAt s j = c at *;by_cases g1 : 97 <= c
        ·have g2 : ¬ c <= 122 := by omega
         have g3 : 48 <= c := by omega
         have g4 : ¬ c <= 57 := by omega
         clear hb
         go_wp2_with (first | (go_at_call 128; refine (keyword_any _ _).mono ?_; rintro e w' ⟨rfl, he⟩; replace he := he.symm; subst he; simp only [hkw]) | (go_at_call 129; refine (sign_any _ _ _ HLT.o hs).mono ?_; rintro e w' ⟨rfl, he⟩; replace he := he.symm; subst he; rw [HSG.o]) | (at_builtin; refine wpList_append_lies _ rfl (.tmp 138) (.tmp 146) 67 rfl w.heap.size 166 ii _ 3 32 Tryz.underlying67 hi hz0 hz1 hz2 rfl (by decide) u4 acc.length (rtkRow acc) rfl ?h1d ⟨wr.heap.size, 0, none⟩ 1 1 [.string (s.extract k j), .int .u8 107, .int .i64 line] rfl rfl ?h2d ?h3d (by decide) ?h4d ?h5d ?h6d _ rfl ?h7d))
         case h1d => exact HO.o.alloc _
         try case h2d => exact World.news_of_block (aN wr _)
         case h3d => simp [Value.oneCell']
         case h4d => unfold maxLen; omega
         case h5d => omega
         case h6d => first | omega | (simp; omega)
         case h7d =>
          intro g2 cap2 w4 hown hgrow _ _
          have hrow : ∀ k, u4.ownBlock = some k -> w.heap.size <= k := fun k hk => (HO.o.lt k hk).1
          have HO4 := hid hown;have HF4 := hid ((HF.o.alloc _).grown hgrow (fun k hk => Or.inr (hrow k hk)));clear hgrow hown hrow;go_wp2;go_roundg (s.size - j)
          case measure => omega
          case rel =>
           refine ⟨j, line, acc ++ [⟨2, s.extract k j, line⟩], by omega, rfl, rfl, by go_num, by omega, by simp; omega, ?_, HF4, ?_⟩
           ·show World.ownsRow _ _ _ _ _ _ _
            have e2 : rtkCells ⟨2, s.extract k j, line⟩ = [.string (s.extract k j), .int .u8 107, .int .i64 line] := by unfold rtkCells; rw [HK.o]
            rw [rtkRow_snoc, lA, e2];exact HO4.o
           ·show _ = _
            exact HL.o.trans (lexFrom_tok HLT.o HT.o)
        ·by_cases g3 : 48 <= c
         ·have g4 : ¬ c <= 57 := by omega
          clear hb
          go_wp2_with (first | (go_at_call 128; refine (keyword_any _ _).mono ?_; rintro e w' ⟨rfl, he⟩; replace he := he.symm; subst he; simp only [hkw]) | (go_at_call 129; refine (sign_any _ _ _ HLT.o hs).mono ?_; rintro e w' ⟨rfl, he⟩; replace he := he.symm; subst he; rw [HSG.o]) | (at_builtin; refine wpList_append_lies _ rfl (.tmp 138) (.tmp 146) 67 rfl w.heap.size 166 ii _ 3 32 Tryz.underlying67 hi hz0 hz1 hz2 rfl (by decide) u4 acc.length (rtkRow acc) rfl ?h1e ⟨wr.heap.size, 0, none⟩ 1 1 [.string (s.extract k j), .int .u8 107, .int .i64 line] rfl rfl ?h2e ?h3e (by decide) ?h4e ?h5e ?h6e _ rfl ?h7e))
          case h1e => exact HO.o.alloc _
          try case h2e => exact World.news_of_block (aN wr _)
          case h3e => simp [Value.oneCell']
          case h4e => unfold maxLen; omega
          case h5e => omega
          case h6e => first | omega | (simp; omega)
          case h7e =>
           intro g2 cap2 w4 hown hgrow _ _
           have hrow : ∀ k, u4.ownBlock = some k -> w.heap.size <= k := fun k hk => (HO.o.lt k hk).1
           have HO4 := hid hown;have HF4 := hid ((HF.o.alloc _).grown hgrow (fun k hk => Or.inr (hrow k hk)));clear hgrow hown hrow;go_wp2;go_roundg (s.size - j)
           case measure => omega
           case rel =>
            refine ⟨j, line, acc ++ [⟨2, s.extract k j, line⟩], by omega, rfl, rfl, by go_num, by omega, by simp; omega, ?_, HF4, ?_⟩
            ·show World.ownsRow _ _ _ _ _ _ _
             have e2 : rtkCells ⟨2, s.extract k j, line⟩ = [.string (s.extract k j), .int .u8 107, .int .i64 line] := by unfold rtkCells; rw [HK.o]
             rw [rtkRow_snoc, lA, e2];exact HO4.o
            ·show _ = _
             exact HL.o.trans (lexFrom_tok HLT.o HT.o)
         ·clear hb
          go_wp2_with (first | (go_at_call 128; refine (keyword_any _ _).mono ?_; rintro e w' ⟨rfl, he⟩; replace he := he.symm; subst he; simp only [hkw]) | (go_at_call 129; refine (sign_any _ _ _ HLT.o hs).mono ?_; rintro e w' ⟨rfl, he⟩; replace he := he.symm; subst he; rw [HSG.o]) | (at_builtin; refine wpList_append_lies _ rfl (.tmp 138) (.tmp 146) 67 rfl w.heap.size 166 ii _ 3 32 Tryz.underlying67 hi hz0 hz1 hz2 rfl (by decide) u4 acc.length (rtkRow acc) rfl ?h1f ⟨wr.heap.size, 0, none⟩ 1 1 [.string (s.extract k j), .int .u8 107, .int .i64 line] rfl rfl ?h2f ?h3f (by decide) ?h4f ?h5f ?h6f _ rfl ?h7f))
          case h1f => exact HO.o.alloc _
          try case h2f => exact World.news_of_block (aN wr _)
          case h3f => simp [Value.oneCell']
          case h4f => unfold maxLen; omega
          case h5f => omega
          case h6f => first | omega | (simp; omega)
          case h7f =>
           intro g2 cap2 w4 hown hgrow _ _
           have hrow : ∀ k, u4.ownBlock = some k -> w.heap.size <= k := fun k hk => (HO.o.lt k hk).1
           have HO4 := hid hown;have HF4 := hid ((HF.o.alloc _).grown hgrow (fun k hk => Or.inr (hrow k hk)));clear hgrow hown hrow;go_wp2;go_roundg (s.size - j)
           case measure => omega
           case rel =>
            refine ⟨j, line, acc ++ [⟨2, s.extract k j, line⟩], by omega, rfl, rfl, by go_num, by omega, by simp; omega, ?_, HF4, ?_⟩
            ·show World.ownsRow _ _ _ _ _ _ _
             have e2 : rtkCells ⟨2, s.extract k j, line⟩ = [.string (s.extract k j), .int .u8 107, .int .i64 line] := by unfold rtkCells; rw [HK.o]
             rw [rtkRow_snoc, lA, e2];exact HO4.o
            ·show _ = _
             exact HL.o.trans (lexFrom_tok HLT.o HT.o)
       ·have hji : ¬ (j : Int) < (s.size : Int) := by omega
        go_wp2_with (first | (go_at_call 128; refine (keyword_any _ _).mono ?_; rintro e w' ⟨rfl, he⟩; replace he := he.symm; subst he; simp only [hkw]) | (go_at_call 129; refine (sign_any _ _ _ HLT.o hs).mono ?_; rintro e w' ⟨rfl, he⟩; replace he := he.symm; subst he; rw [HSG.o]) | (at_builtin; refine wpList_append_lies _ rfl (.tmp 138) (.tmp 146) 67 rfl w.heap.size 166 ii _ 3 32 Tryz.underlying67 hi hz0 hz1 hz2 rfl (by decide) u4 acc.length (rtkRow acc) rfl ?h1g ⟨wr.heap.size, 0, none⟩ 1 1 [.string (s.extract k j), .int .u8 107, .int .i64 line] rfl rfl ?h2g ?h3g (by decide) ?h4g ?h5g ?h6g _ rfl ?h7g))
        case h1g => exact HO.o.alloc _
        try case h2g => exact World.news_of_block (aN wr _)
        case h3g => simp [Value.oneCell']
        case h4g => unfold maxLen; omega
        case h5g => omega
        case h6g => first | omega | (simp; omega)
        case h7g =>
         intro g2 cap2 w4 hown hgrow _ _
         have hrow : ∀ k, u4.ownBlock = some k -> w.heap.size <= k := fun k hk => (HO.o.lt k hk).1
         have HO4 := hid hown;have HF4 := hid ((HF.o.alloc _).grown hgrow (fun k hk => Or.inr (hrow k hk)));clear hgrow hown hrow;go_wp2;go_roundg (s.size - j)
         case measure => omega
         case rel =>
          refine ⟨j, line, acc ++ [⟨2, s.extract k j, line⟩], by omega, rfl, rfl, by go_num, by omega, by simp; omega, ?_, HF4, ?_⟩
          ·show World.ownsRow _ _ _ _ _ _ _
           have e2 : rtkCells ⟨2, s.extract k j, line⟩ = [.string (s.extract k j), .int .u8 107, .int .i64 line] := by unfold rtkCells; rw [HK.o]
           rw [rtkRow_snoc, lA, e2];exact HO4.o
          ·show _ = _
           exact HL.o.trans (lexFrom_tok HLT.o HT.o)
      | false =>
       by_cases h8 : 8 < n
       ·have hle8 : (8 : Int) < (j : Int) - (k : Int) := by have := HE.o; omega
        have HT := hid (HB.o hkw h8);clear h8;by_cases hjl : j < s.size
        ·have hji : (j : Int) < (s.size : Int) := by omega
         have hjx := fun w => index_at (P := Tryz.prog) Tryz.underlying9 s j (j : Int) rfl hjl w
         have hb : inWordB (bAt s j) = false := by simpa using fun h => HQ.o ⟨hjl, h⟩
         simp only [inWordB, isSmallB, iD, Bool.or_eq_false_iff, decide_eq_false_iff_not] at hb;generalize bAt s j = c at *;by_cases g1 : 97 <= c
         ·have g2 : ¬ c <= 122 := by omega
          have g3 : 48 <= c := by omega
          have g4 : ¬ c <= 57 := by omega
          clear hb
          go_wp2_with (first | (go_at_call 128; refine (keyword_any _ _).mono ?_; rintro e w' ⟨rfl, he⟩; replace he := he.symm; subst he; simp only [hkw]) | (go_at_call 129; refine (sign_any _ _ _ HLT.o hs).mono ?_; rintro e w' ⟨rfl, he⟩; replace he := he.symm; subst he; rw [HSG.o]))
          go_ret2
          exact (TokPost.err (HL.o.trans (lexFrom_bad HLT.o HT.o))).2 ⟨rfl, HF.o⟩
         ·by_cases g3 : 48 <= c
          ·have g4 : ¬ c <= 57 := by omega
           clear hb
           go_wp2_with (first | (go_at_call 128; refine (keyword_any _ _).mono ?_; rintro e w' ⟨rfl, he⟩; replace he := he.symm; subst he; simp only [hkw]) | (go_at_call 129; refine (sign_any _ _ _ HLT.o hs).mono ?_; rintro e w' ⟨rfl, he⟩; replace he := he.symm; subst he; rw [HSG.o]))
           go_ret2
           exact (TokPost.err (HL.o.trans (lexFrom_bad HLT.o HT.o))).2 ⟨rfl, HF.o⟩
          ·clear hb
           go_wp2_with (first | (go_at_call 128; refine (keyword_any _ _).mono ?_; rintro e w' ⟨rfl, he⟩; replace he := he.symm; subst he; simp only [hkw]) | (go_at_call 129; refine (sign_any _ _ _ HLT.o hs).mono ?_; rintro e w' ⟨rfl, he⟩; replace he := he.symm; subst he; rw [HSG.o]))
           go_ret2
           exact (TokPost.err (HL.o.trans (lexFrom_bad HLT.o HT.o))).2 ⟨rfl, HF.o⟩
        ·have hji : ¬ (j : Int) < (s.size : Int) := by omega
         go_wp2_with (first | (go_at_call 128; refine (keyword_any _ _).mono ?_; rintro e w' ⟨rfl, he⟩; replace he := he.symm; subst he; simp only [hkw]) | (go_at_call 129; refine (sign_any _ _ _ HLT.o hs).mono ?_; rintro e w' ⟨rfl, he⟩; replace he := he.symm; subst he; rw [HSG.o]))
         go_ret2
         exact (TokPost.err (HL.o.trans (lexFrom_bad HLT.o HT.o))).2 ⟨rfl, HF.o⟩
       ·have hle8 : ¬ (8 : Int) < (j : Int) - (k : Int) := by have := HE.o; omega
        have HT := hid (HG.o hkw h8);have HK : Hid (rkind ⟨0, s.extract k j, line⟩ = 110) := rfl;clear h8;by_cases hjl : j < s.size
        ·have hji : (j : Int) < (s.size : Int) := by omega
         have hjx := fun w => index_at (P := Tryz.prog) Tryz.underlying9 s j (j : Int) rfl hjl w
         have hb : inWordB (bAt s j) = false := by simpa using fun h => HQ.o ⟨hjl, h⟩
         simp only [inWordB, isSmallB, iD, Bool.or_eq_false_iff, decide_eq_false_iff_not] at hb;generalize bAt s j = c at *;by_cases g1 : 97 <= c
         ·have g2 : ¬ c <= 122 := by omega
          have g3 : 48 <= c := by omega
          have g4 : ¬ c <= 57 := by omega
          clear hb
          go_wp2_with (first | (go_at_call 128; refine (keyword_any _ _).mono ?_; rintro e w' ⟨rfl, he⟩; replace he := he.symm; subst he; simp only [hkw]) | (go_at_call 129; refine (sign_any _ _ _ HLT.o hs).mono ?_; rintro e w' ⟨rfl, he⟩; replace he := he.symm; subst he; rw [HSG.o]) | (at_builtin; refine wpList_append_lies _ rfl (.tmp 138) (.tmp 146) 67 rfl w.heap.size 166 ii _ 3 32 Tryz.underlying67 hi hz0 hz1 hz2 rfl (by decide) u4 acc.length (rtkRow acc) rfl ?h1h ⟨wr.heap.size, 0, none⟩ 1 1 [.string (s.extract k j), .int .u8 110, .int .i64 line] rfl rfl ?h2h ?h3h (by decide) ?h4h ?h5h ?h6h _ rfl ?h7h))
          case h1h => exact HO.o.alloc _
          try case h2h => exact World.news_of_block (aN wr _)
          case h3h => simp [Value.oneCell']
          case h4h => unfold maxLen; omega
          case h5h => omega
          case h6h => first | omega | (simp; omega)
          case h7h =>
           intro g2 cap2 w4 hown hgrow _ _
           have hrow : ∀ k, u4.ownBlock = some k -> w.heap.size <= k := fun k hk => (HO.o.lt k hk).1
           have HO4 := hid hown;have HF4 := hid ((HF.o.alloc _).grown hgrow (fun k hk => Or.inr (hrow k hk)));clear hgrow hown hrow;go_wp2;go_roundg (s.size - j)
           case measure => omega
           case rel =>
            refine ⟨j, line, acc ++ [⟨0, s.extract k j, line⟩], by omega, rfl, rfl, by go_num, by omega, by simp; omega, ?_, HF4, ?_⟩
            ·show World.ownsRow _ _ _ _ _ _ _
             have e2 : rtkCells ⟨0, s.extract k j, line⟩ = [.string (s.extract k j), .int .u8 110, .int .i64 line] := by unfold rtkCells; rw [HK.o]
             rw [rtkRow_snoc, lA, e2];exact HO4.o
            ·show _ = _
             exact HL.o.trans (lexFrom_tok HLT.o HT.o)
         ·by_cases g3 : 48 <= c
          ·have g4 : ¬ c <= 57 := by omega
           clear hb
           go_wp2_with (first | (go_at_call 128; refine (keyword_any _ _).mono ?_; rintro e w' ⟨rfl, he⟩; replace he := he.symm; subst he; simp only [hkw]) | (go_at_call 129; refine (sign_any _ _ _ HLT.o hs).mono ?_; rintro e w' ⟨rfl, he⟩; replace he := he.symm; subst he; rw [HSG.o]) | (at_builtin; refine wpList_append_lies _ rfl (.tmp 138) (.tmp 146) 67 rfl w.heap.size 166 ii _ 3 32 Tryz.underlying67 hi hz0 hz1 hz2 rfl (by decide) u4 acc.length (rtkRow acc) rfl ?h1i ⟨wr.heap.size, 0, none⟩ 1 1 [.string (s.extract k j), .int .u8 110, .int .i64 line] rfl rfl ?h2i ?h3i (by decide) ?h4i ?h5i ?h6i _ rfl ?h7i))
           case h1i => exact HO.o.alloc _
           try case h2i => exact World.news_of_block (aN wr _)
           case h3i => simp [Value.oneCell']
           case h4i => unfold maxLen; omega
           case h5i => omega
           case h6i => first | omega | (simp; omega)
           case h7i =>
            intro g2 cap2 w4 hown hgrow _ _
            have hrow : ∀ k, u4.ownBlock = some k -> w.heap.size <= k := fun k hk => (HO.o.lt k hk).1
            have HO4 := hid hown;have HF4 := hid ((HF.o.alloc _).grown hgrow (fun k hk => Or.inr (hrow k hk)));clear hgrow hown hrow;go_wp2;go_roundg (s.size - j)
            case measure => omega
            case rel =>
             refine ⟨j, line, acc ++ [⟨0, s.extract k j, line⟩], by omega, rfl, rfl, by go_num, by omega, by simp; omega, ?_, HF4, ?_⟩
             ·show World.ownsRow _ _ _ _ _ _ _
              have e2 : rtkCells ⟨0, s.extract k j, line⟩ = [.string (s.extract k j), .int .u8 110, .int .i64 line] := by unfold rtkCells; rw [HK.o]
              rw [rtkRow_snoc, lA, e2];exact HO4.o
             ·show _ = _
              exact HL.o.trans (lexFrom_tok HLT.o HT.o)
          ·clear hb
           go_wp2_with (first | (go_at_call 128; refine (keyword_any _ _).mono ?_; rintro e w' ⟨rfl, he⟩; replace he := he.symm; subst he; simp only [hkw]) | (go_at_call 129; refine (sign_any _ _ _ HLT.o hs).mono ?_; rintro e w' ⟨rfl, he⟩; replace he := he.symm; subst he; rw [HSG.o]) | (at_builtin; refine wpList_append_lies _ rfl (.tmp 138) (.tmp 146) 67 rfl w.heap.size 166 ii _ 3 32 Tryz.underlying67 hi hz0 hz1 hz2 rfl (by decide) u4 acc.length (rtkRow acc) rfl ?h1j ⟨wr.heap.size, 0, none⟩ 1 1 [.string (s.extract k j), .int .u8 110, .int .i64 line] rfl rfl ?h2j ?h3j (by decide) ?h4j ?h5j ?h6j _ rfl ?h7j))
           case h1j => exact HO.o.alloc _
           try case h2j => exact World.news_of_block (aN wr _)
           case h3j => simp [Value.oneCell']
           case h4j => unfold maxLen; omega
           case h5j => omega
           case h6j => first | omega | (simp; omega)
           case h7j =>
            intro g2 cap2 w4 hown hgrow _ _
            have hrow : ∀ k, u4.ownBlock = some k -> w.heap.size <= k := fun k hk => (HO.o.lt k hk).1
            have HO4 := hid hown;have HF4 := hid ((HF.o.alloc _).grown hgrow (fun k hk => Or.inr (hrow k hk)));clear hgrow hown hrow;go_wp2;go_roundg (s.size - j)
            case measure => omega
            case rel =>
             refine ⟨j, line, acc ++ [⟨0, s.extract k j, line⟩], by omega, rfl, rfl, by go_num, by omega, by simp; omega, ?_, HF4, ?_⟩
             ·show World.ownsRow _ _ _ _ _ _ _
              have e2 : rtkCells ⟨0, s.extract k j, line⟩ = [.string (s.extract k j), .int .u8 110, .int .i64 line] := by unfold rtkCells; rw [HK.o]
              rw [rtkRow_snoc, lA, e2];exact HO4.o
             ·show _ = _
              exact HL.o.trans (lexFrom_tok HLT.o HT.o)
        ·have hji : ¬ (j : Int) < (s.size : Int) := by omega
         go_wp2_with (first | (go_at_call 128; refine (keyword_any _ _).mono ?_; rintro e w' ⟨rfl, he⟩; replace he := he.symm; subst he; simp only [hkw]) | (go_at_call 129; refine (sign_any _ _ _ HLT.o hs).mono ?_; rintro e w' ⟨rfl, he⟩; replace he := he.symm; subst he; rw [HSG.o]) | (at_builtin; refine wpList_append_lies _ rfl (.tmp 138) (.tmp 146) 67 rfl w.heap.size 166 ii _ 3 32 Tryz.underlying67 hi hz0 hz1 hz2 rfl (by decide) u4 acc.length (rtkRow acc) rfl ?h1k ⟨wr.heap.size, 0, none⟩ 1 1 [.string (s.extract k j), .int .u8 110, .int .i64 line] rfl rfl ?h2k ?h3k (by decide) ?h4k ?h5k ?h6k _ rfl ?h7k))
         case h1k => exact HO.o.alloc _
         try case h2k => exact World.news_of_block (aN wr _)
         case h3k => simp [Value.oneCell']
         case h4k => unfold maxLen; omega
         case h5k => omega
         case h6k => first | omega | (simp; omega)
         case h7k =>
          intro g2 cap2 w4 hown hgrow _ _
          have hrow : ∀ k, u4.ownBlock = some k -> w.heap.size <= k := fun k hk => (HO.o.lt k hk).1
          have HO4 := hid hown;have HF4 := hid ((HF.o.alloc _).grown hgrow (fun k hk => Or.inr (hrow k hk)));clear hgrow hown hrow;go_wp2;go_roundg (s.size - j)
          case measure => omega
          case rel =>
           refine ⟨j, line, acc ++ [⟨0, s.extract k j, line⟩], by omega, rfl, rfl, by go_num, by omega, by simp; omega, ?_, HF4, ?_⟩
           ·show World.ownsRow _ _ _ _ _ _ _
            have e2 : rtkCells ⟨0, s.extract k j, line⟩ = [.string (s.extract k j), .int .u8 110, .int .i64 line] := by unfold rtkCells; rw [HK.o]
            rw [rtkRow_snoc, lA, e2];exact HO4.o
           ·show _ = _
            exact HL.o.trans (lexFrom_tok HLT.o HT.o)
   have hS : isSmallB (bAt s k) = false := by simp [isSmallB]; omega
   have hD : iD (bAt s k) = false := by simp [iD]; omega
   have hT : lexStep s k line = if signM s k = 0 then .bad else .tok ⟨2, s.extract k (k + signM s k), line⟩ (k + signM s k) := by
    unfold lexStep signM;rw [if_neg h10, if_neg hn, if_neg h35, hS, hD];simp only [Bool.false_eq_true, if_false];by_cases h2 : (two s k 46 46 || two s k 45 62) = true
    ·have hm : ¬ (bAt s k = 59 \/ bAt s k = 58 \/ bAt s k = 44) := by
      simp only [Bool.or_eq_true] at h2;rcases h2 with h2 | h2
      ·have := two_at h2; omega
      ·have := two_at h2; omega
     simp [h2, hm]
    ·by_cases hm : bAt s k = 59 \/ bAt s k = 58 \/ bAt s k = 44
     ·simp [h2, hm]
     ·simp [h2, hm]
   obtain ⟨n, hn0⟩ : ∃ n, signM s k = n := ⟨_, rfl⟩;have HSG := hid hn0
   have hn2 : n <= 2 /\ k + n <= s.size := by
    rw [<- hn0];unfold signM
    split
    ·rename_i h2
     simp only [Bool.or_eq_true] at h2
     have : k + 2 <= s.size := by rcases h2 with h2 | h2 <;> exact two_le h2
     omega
    ·split <;> omega
   rw [hn0] at hT
   have HX : Hid (isKwB (s.extract k (k + n)) = false) := by
    show _ = _
    rw [<- hn0];exact sign_kw s k (by rw [hn0]; exact hn2.2)
   by_cases hgd : 48 <= bAt s k
   ·have hgd2 : ¬ bAt s k <= 57 := by omega
    by_cases hgs : 97 <= bAt s k
    ·have hgs2 : ¬ bAt s k <= 122 := by omega
     generalize bAt s k = c at *;clear h10 h32 h9 h35 hn hS hD hn0 hdg hsm;by_cases h0 : n = 0
     ·have hz : (((n : Nat) : Int) == 0) = true := by simp; omega
      rw [if_pos h0] at hT;have HT := hid hT;clear hT h0
      go_wp2_with (first | (go_at_call 128; refine (keyword_any _ _).mono ?_; rintro e w' ⟨rfl, he⟩; replace he := he.symm; subst he; simp only [hkw]) | (go_at_call 129; refine (sign_any _ _ _ HLT.o hs).mono ?_; rintro e w' ⟨rfl, he⟩; replace he := he.symm; subst he; rw [HSG.o]))
      go_ret2
      exact (TokPost.err (HL.o.trans (lexFrom_bad HLT.o HT.o))).2 ⟨rfl, HF.o⟩
     ·have hz : (((n : Nat) : Int) == 0) = false := by simp; omega
      rw [if_neg h0] at hT;have HT := hid hT
      have HK : Hid (rkind ⟨2, s.extract k (k + n), line⟩ = 115) := by show _ = _; simp [rkind, HX.o]
      have hwr : IntKind.i64.wrap ((k : Int) + (n : Int)) = (k : Int) + (n : Int) := IntWalk.i64_in _ (by omega)
      have et : ((k : Int) + (n : Int)).toNat = k + n := by omega
      have hi1 : (k : Int) <= (k : Int) + (n : Int) := by omega
      have hi2 : (k : Int) + (n : Int) <= (s.size : Int) := by omega
      have hn1 : 1 <= n := by omega
      clear hT h0
      go_wp2_with (first | (go_at_call 128; refine (keyword_any _ _).mono ?_; rintro e w' ⟨rfl, he⟩; replace he := he.symm; subst he; simp only [hkw]) | (go_at_call 129; refine (sign_any _ _ _ HLT.o hs).mono ?_; rintro e w' ⟨rfl, he⟩; replace he := he.symm; subst he; rw [HSG.o]) | (at_builtin; refine wpList_append_lies _ rfl (.tmp 138) (.tmp 146) 67 rfl w.heap.size 166 ii _ 3 32 Tryz.underlying67 hi hz0 hz1 hz2 rfl (by decide) u4 acc.length (rtkRow acc) rfl ?h1s1 ⟨wr.heap.size, 0, none⟩ 1 1 [.string (s.extract k (k+n)), .int .u8 115, .int .i64 line] rfl rfl ?h2s1 ?h3s1 (by decide) ?h4s1 ?h5s1 ?h6s1 _ rfl ?h7s1))
      case h1s1 => exact HO.o.alloc _
      try case h2s1 => exact World.news_of_block (aN wr _)
      case h3s1 => simp [Value.oneCell']
      case h4s1 => unfold maxLen; omega
      case h5s1 => omega
      case h6s1 => first | omega | (simp; omega)
      case h7s1 =>
       intro g2 cap2 w4 hown hgrow _ _
       have hrow : ∀ k, u4.ownBlock = some k -> w.heap.size <= k := fun k hk => (HO.o.lt k hk).1
       have HO4 := hid hown;have HF4 := hid ((HF.o.alloc _).grown hgrow (fun k hk => Or.inr (hrow k hk)));clear hgrow hown hrow;go_wp2;go_roundg (s.size - (k+n))
       case measure => omega
       case rel =>
        refine ⟨(k+n), line, acc ++ [⟨2, s.extract k (k+n), line⟩], by omega, rfl, rfl, by go_num, by omega, by simp; omega, ?_, HF4, ?_⟩
        ·show World.ownsRow _ _ _ _ _ _ _
         have e2 : rtkCells ⟨2, s.extract k (k+n), line⟩ = [.string (s.extract k (k+n)), .int .u8 115, .int .i64 line] := by unfold rtkCells; rw [HK.o]
         rw [rtkRow_snoc, lA, e2];exact HO4.o
        ·show _ = _
         exact HL.o.trans (lexFrom_tok HLT.o HT.o)
    ·generalize bAt s k = c at *
     clear h10 h32 h9 h35 hn hS hD hn0 hdg hsm;by_cases h0 : n = 0
     ·have hz : (((n : Nat) : Int) == 0) = true := by simp; omega
      rw [if_pos h0] at hT;have HT := hid hT;clear hT h0
      go_wp2_with (first | (go_at_call 128; refine (keyword_any _ _).mono ?_; rintro e w' ⟨rfl, he⟩; replace he := he.symm; subst he; simp only [hkw]) | (go_at_call 129; refine (sign_any _ _ _ HLT.o hs).mono ?_; rintro e w' ⟨rfl, he⟩; replace he := he.symm; subst he; rw [HSG.o]))
      go_ret2
      exact (TokPost.err (HL.o.trans (lexFrom_bad HLT.o HT.o))).2 ⟨rfl, HF.o⟩
     ·have hz : (((n : Nat) : Int) == 0) = false := by simp; omega
      rw [if_neg h0] at hT;have HT := hid hT
      have HK : Hid (rkind ⟨2, s.extract k (k + n), line⟩ = 115) := by show _ = _; simp [rkind, HX.o]
      have hwr : IntKind.i64.wrap ((k : Int) + (n : Int)) = (k : Int) + (n : Int) := IntWalk.i64_in _ (by omega)
      have et : ((k : Int) + (n : Int)).toNat = k + n := by omega
      have hi1 : (k : Int) <= (k : Int) + (n : Int) := by omega
      have hi2 : (k : Int) + (n : Int) <= (s.size : Int) := by omega
      have hn1 : 1 <= n := by omega
      clear hT h0
      go_wp2_with (first | (go_at_call 128; refine (keyword_any _ _).mono ?_; rintro e w' ⟨rfl, he⟩; replace he := he.symm; subst he; simp only [hkw]) | (go_at_call 129; refine (sign_any _ _ _ HLT.o hs).mono ?_; rintro e w' ⟨rfl, he⟩; replace he := he.symm; subst he; rw [HSG.o]) | (at_builtin; refine wpList_append_lies _ rfl (.tmp 138) (.tmp 146) 67 rfl w.heap.size 166 ii _ 3 32 Tryz.underlying67 hi hz0 hz1 hz2 rfl (by decide) u4 acc.length (rtkRow acc) rfl ?h1s2 ⟨wr.heap.size, 0, none⟩ 1 1 [.string (s.extract k (k+n)), .int .u8 115, .int .i64 line] rfl rfl ?h2s2 ?h3s2 (by decide) ?h4s2 ?h5s2 ?h6s2 _ rfl ?h7s2))
      case h1s2 => exact HO.o.alloc _
      try case h2s2 => exact World.news_of_block (aN wr _)
      case h3s2 => simp [Value.oneCell']
      case h4s2 => unfold maxLen; omega
      case h5s2 => omega
      case h6s2 => first | omega | (simp; omega)
      case h7s2 =>
       intro g2 cap2 w4 hown hgrow _ _
       have hrow : ∀ k, u4.ownBlock = some k -> w.heap.size <= k := fun k hk => (HO.o.lt k hk).1
       have HO4 := hid hown;have HF4 := hid ((HF.o.alloc _).grown hgrow (fun k hk => Or.inr (hrow k hk)));clear hgrow hown hrow;go_wp2;go_roundg (s.size - (k+n))
       case measure => omega
       case rel =>
        refine ⟨(k+n), line, acc ++ [⟨2, s.extract k (k+n), line⟩], by omega, rfl, rfl, by go_num, by omega, by simp; omega, ?_, HF4, ?_⟩
        ·show World.ownsRow _ _ _ _ _ _ _
         have e2 : rtkCells ⟨2, s.extract k (k+n), line⟩ = [.string (s.extract k (k+n)), .int .u8 115, .int .i64 line] := by unfold rtkCells; rw [HK.o]
         rw [rtkRow_snoc, lA, e2];exact HO4.o
        ·show _ = _
         exact HL.o.trans (lexFrom_tok HLT.o HT.o)
   ·have hgs : ¬ 97 <= bAt s k := by omega
    generalize bAt s k = c at *;clear h10 h32 h9 h35 hn hS hD hn0 hdg hsm;by_cases h0 : n = 0
    ·have hz : (((n : Nat) : Int) == 0) = true := by simp; omega
     rw [if_pos h0] at hT;have HT := hid hT;clear hT h0
     go_wp2_with (first | (go_at_call 128; refine (keyword_any _ _).mono ?_; rintro e w' ⟨rfl, he⟩; replace he := he.symm; subst he; simp only [hkw]) | (go_at_call 129; refine (sign_any _ _ _ HLT.o hs).mono ?_; rintro e w' ⟨rfl, he⟩; replace he := he.symm; subst he; rw [HSG.o]))
     go_ret2
     exact (TokPost.err (HL.o.trans (lexFrom_bad HLT.o HT.o))).2 ⟨rfl, HF.o⟩
    ·have hz : (((n : Nat) : Int) == 0) = false := by simp; omega
     rw [if_neg h0] at hT;have HT := hid hT
     have HK : Hid (rkind ⟨2, s.extract k (k + n), line⟩ = 115) := by show _ = _; simp [rkind, HX.o]
     have hwr : IntKind.i64.wrap ((k : Int) + (n : Int)) = (k : Int) + (n : Int) := IntWalk.i64_in _ (by omega)
     have et : ((k : Int) + (n : Int)).toNat = k + n := by omega
     have hi1 : (k : Int) <= (k : Int) + (n : Int) := by omega
     have hi2 : (k : Int) + (n : Int) <= (s.size : Int) := by omega
     have hn1 : 1 <= n := by omega
     clear hT h0
     go_wp2_with (first | (go_at_call 128; refine (keyword_any _ _).mono ?_; rintro e w' ⟨rfl, he⟩; replace he := he.symm; subst he; simp only [hkw]) | (go_at_call 129; refine (sign_any _ _ _ HLT.o hs).mono ?_; rintro e w' ⟨rfl, he⟩; replace he := he.symm; subst he; rw [HSG.o]) | (at_builtin; refine wpList_append_lies _ rfl (.tmp 138) (.tmp 146) 67 rfl w.heap.size 166 ii _ 3 32 Tryz.underlying67 hi hz0 hz1 hz2 rfl (by decide) u4 acc.length (rtkRow acc) rfl ?h1s3 ⟨wr.heap.size, 0, none⟩ 1 1 [.string (s.extract k (k+n)), .int .u8 115, .int .i64 line] rfl rfl ?h2s3 ?h3s3 (by decide) ?h4s3 ?h5s3 ?h6s3 _ rfl ?h7s3))
     case h1s3 => exact HO.o.alloc _
     try case h2s3 => exact World.news_of_block (aN wr _)
     case h3s3 => simp [Value.oneCell']
     case h4s3 => unfold maxLen; omega
     case h5s3 => omega
     case h6s3 => first | omega | (simp; omega)
     case h7s3 =>
      intro g2 cap2 w4 hown hgrow _ _
      have hrow : ∀ k, u4.ownBlock = some k -> w.heap.size <= k := fun k hk => (HO.o.lt k hk).1
      have HO4 := hid hown;have HF4 := hid ((HF.o.alloc _).grown hgrow (fun k hk => Or.inr (hrow k hk)));clear hgrow hown hrow;go_wp2;go_roundg (s.size - (k+n))
      case measure => omega
      case rel =>
       refine ⟨(k+n), line, acc ++ [⟨2, s.extract k (k+n), line⟩], by omega, rfl, rfl, by go_num, by omega, by simp; omega, ?_, HF4, ?_⟩
       ·show World.ownsRow _ _ _ _ _ _ _
        have e2 : rtkCells ⟨2, s.extract k (k+n), line⟩ = [.string (s.extract k (k+n)), .int .u8 115, .int .i64 line] := by unfold rtkCells; rw [HK.o]
        rw [rtkRow_snoc, lA, e2];exact HO4.o
       ·show _ = _
        exact HL.o.trans (lexFrom_tok HLT.o HT.o)
  ·have hki : ¬ (k : Int) < (s.size : Int) := by omega
   have HE := hid (HL.o.trans (lexFrom_end hlt));go_wp2
   go_ret2
   refine (TokPost.ok HE.o).2 ⟨⟨_, rfl, ?_⟩, HF.o⟩;rw [List.dropLast_concat];exact HO.o
