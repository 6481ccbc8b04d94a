/- Texts put together are read, whatever blanks and remarks stand between; plain. The plain text of rules of raw numbers, and the text with blanks and remarks put in: what is read; plain. -/
import Derived.Test.YtccikgogjfbpeaaGreatDoorVKh
namespace Go.Proofs.YtccikgogjfbpeaaGreatDoor

/-- What is asked of a way of reading. -/
structure LxL (L : List UInt8 → Nat → List Tk → Prop) : Prop where
 nil : ∀ line, L [] line [⟨3, ByteArray.empty, line⟩]
 blank : ∀ {l line ts}, L l line ts → L (32 :: l) line ts
 nl : ∀ {l line ts}, L l (line + 1) ts → L (10 :: l) line ts
 nm : ∀ {w l line ts}, NmL w → Stops inWordB l → L l line ts → L (w ++ l) line (nT w line :: ts)
 dg : ∀ {w l line ts}, DgL w → Stops isDigitB l → L l line ts → L (w ++ l) line (dT w line :: ts)
 word : ∀ {m : ByteArray} {l line ts}, m ∈ [kwRoute, kwRule, kwBin, kwMcc, kwAmount, kwCur, kwDecline, kwCheapest] → Stops inWordB l → L l line ts → L (m.data.toList ++ l) line (kt m line :: ts)
 sign : ∀ {c : UInt8} {l line ts}, c = 58 ∨ c = 44 → L l line ts → L (c :: l) line (⟨2, bs [c], line⟩ :: ts)
 two : ∀ {a b : UInt8} {l line ts}, (a = 46 ∧ b = 46) ∨ (a = 45 ∧ b = 62) → L l line ts → L (a :: b :: l) line (⟨2, bs [a, b], line⟩ :: ts)
 semi : ∀ l line, ∃ line', ∀ ts, L l line' ts → L (59 :: l) line (kt mSemi line :: ts)
section
variable {L : List UInt8 → Nat → List Tk → Prop}
theorem LxL.dgc (H : LxL L) {w l : List UInt8} {c : UInt8} {line : Nat} {ts : List Tk} (hw : DgL w) (h : L (c :: l) line ts) (hc : isDigitB (c.toNat : Int) = false := by decide) : L (w ++ c :: l) line (dT w line :: ts) := H.dg hw hc h
theorem LxL.nmc (H : LxL L) {w l : List UInt8} {c : UInt8} {line : Nat} {ts : List Tk} (hw : NmL w) (h : L (c :: l) line ts) (hc : inWordB (c.toNat : Int) = false := by decide) : L (w ++ c :: l) line (nT w line :: ts) := H.nm hw hc h
theorem LxL.wordc (H : LxL L) {m : ByteArray} {l : List UInt8} {c : UInt8} {line : Nat} {ts : List Tk} (hm : m ∈ [kwRoute, kwRule, kwBin, kwMcc, kwAmount, kwCur, kwDecline, kwCheapest]) (h : L (c :: l) line ts) (hc : inWordB (c.toNat : Int) = false := by decide) : L (m.data.toList ++ c :: l) line (kt m line :: ts) := H.word hm hc h
theorem commaX_dgG (H : LxL L) {l : List UInt8} {line : Nat} {ts : List Tk} (hl : Stops isDigitB l) (h : L l line ts) : ∀ (ws : List (List UInt8)), (∀ w, w ∈ ws → DgL w) → L (commaX ws ++ l) line (listT line (ws.map fun w => dT w line) ++ ts)
 | [], _ => h
 | [w], hw => H.dg (hw w (by simp)) hl h
 | w :: v :: r, hw => by
  have ih := commaX_dgG H hl h (v :: r) (fun x hx => hw x (by simp [hx]))
  have := H.dgc (hw w (by simp)) (H.sign (c := 44) (.inr rfl) (H.blank ih))
  simpa [commaX, listT, moreT, List.flatMap_cons, kt, mComma] using this
theorem commaX_nmG (H : LxL L) {l : List UInt8} {line : Nat} {ts : List Tk} (hl : Stops inWordB l) (h : L l line ts) : ∀ (ws : List (List UInt8)), (∀ w, w ∈ ws → NmL w) → L (commaX ws ++ l) line (listT line (ws.map fun w => nT w line) ++ ts)
 | [], _ => h
 | [w], hw => H.nm (hw w (by simp)) hl h
 | w :: v :: r, hw => by
  have ih := commaX_nmG H hl h (v :: r) (fun x hx => hw x (by simp [hx]))
  have := H.nmc (hw w (by simp)) (H.sign (c := 44) (.inr rfl) (H.blank ih))
  simpa [commaX, listT, moreT, List.flatMap_cons, kt, mComma] using this
theorem gdX_lexG (H : LxL L) {kw : ByteArray} (hk : kw ∈ [kwRoute, kwRule, kwBin, kwMcc, kwAmount, kwCur, kwDecline, kwCheapest]) {l : List UInt8} {line : Nat} {ts : List Tk} (hl : Stops isDigitB l) (h : L l line ts) {ws : List (List UInt8)} (hw : ∀ w, w ∈ ws → DgL w) : L (gdX kw ws ++ l) line (gdT kw line (ws.map fun w => dT w line) ++ ts) := by
 cases ws with
 | nil => exact h
 | cons w r =>
  have := H.blank (H.wordc hk (H.blank (commaX_dgG H hl h (w :: r) hw)))
  simpa [gdX, gdT] using this
theorem amX_lexG (H : LxL L) {l : List UInt8} {line : Nat} {ts : List Tk} (hl : Stops isDigitB l) (h : L l line ts) {o : Option (List UInt8 × List UInt8)} (ho : ∀ ab, o = some ab → DgL ab.1 ∧ DgL ab.2) : L (amX o ++ l) line (amT line (o.map fun ab => (dT ab.1 line, dT ab.2 line)) ++ ts) := by
 cases o with
 | none => exact h
 | some ab =>
  obtain ⟨h1, h2⟩ := ho ab rfl
  have := H.blank (H.wordc (m := kwAmount) (by simp) (H.blank (H.dgc h1 (H.two (a := 46) (b := 46) (.inl ⟨rfl, rfl⟩) (H.dg h2 hl h)))))
  simpa [amX, amT, kt, mDots] using this
theorem acX_lexG (H : LxL L) {l : List UInt8} {line : Nat} {ts : List Tk} (hl : Stops inWordB l) (h : L l line ts) {r : RuX} (hr : r.Ok) : L (acX r ++ l) line (acT line (r.ent line).act ++ ts) := by
 unfold acX RuX.ent acT
 dsimp only
 cases hd : r.dec with
 | true => exact H.word (m := kwDecline) (by simp) hl h
 | false =>
  cases hc : r.ch with
  | true =>
   have := H.wordc (m := kwCheapest) (by simp) (H.blank (commaX_nmG H hl h r.rts hr.rts))
   simpa using this
  | false => simpa using commaX_nmG H hl h r.rts hr.rts
theorem rule_lexG (H : LxL L) (l : List UInt8) (line : Nat) {r : RuX} (hr : r.Ok) : ∃ line', ∀ ts, L l line' ts → L (r.text ++ l) line (ruT line (r.ent line) ++ (kt mSemi line :: ts)) := by
 obtain ⟨line', hs⟩ := H.semi l line
 refine ⟨line', fun ts h => ?_⟩
 have h1 := acX_lexG H (l := 59 :: l) (show inWordB _ = false from by decide) (hs ts h) hr
 have h2 := H.blank (H.two (a := 45) (b := 62) (.inr ⟨rfl, rfl⟩) (H.blank h1))
 have s2 : Stops isDigitB (32 :: 45 :: 62 :: 32 :: (acX r ++ 59 :: l)) := (show isDigitB _ = false from by decide)
 have h3 := gdX_lexG H (kw := kwCur) (by simp) s2 h2 hr.cur
 have h4 := amX_lexG H (stops_gd s2) h3 hr.am
 have h5 := gdX_lexG H (kw := kwMcc) (by simp) (stops_am (stops_gd s2)) h4 hr.mcc
 have h6 := H.two (a := 46) (b := 46) (.inl ⟨rfl, rfl⟩) (H.dg hr.hi (stops_gd (stops_am (stops_gd s2))) h5)
 have h7 := H.dgc hr.lo h6
 have h8 := H.wordc (m := kwBin) (by simp) (H.blank h7)
 have h9 := H.dgc hr.rk (H.sign (c := 58) (.inl rfl) (H.blank h8))
 have h10 := H.nmc hr.nm (H.blank h9)
 have h11 := H.wordc (m := kwRule) (by simp) (H.blank h10)
 simpa [RuX.text, gX, ruT, RuX.ent, kt, mSemi, mColon, mDots, mArrow, kwRule, kwBin] using h11
/-- A text comes to this, whatever line it begins at. -/
def UnG (L : List UInt8 → Nat → List Tk → Prop) (l : List UInt8) (rts : List RouteM) (rls : List RuleM) (res : Except (Nat × Nat) (List RouteM × List RuleM)) : Prop := ∀ line, ∃ ts xs, L l line ts ∧ PrL ts xs ∧ underM rts rls xs = res
theorem un_nil (H : LxL L) (rts : List RouteM) (rls : List RuleM) : UnG L [] rts rls (.ok (rts, rls)) := fun line => ⟨_, _, H.nil line, prL_end line, rfl⟩
theorem un_blank (H : LxL L) {l : List UInt8} {rts : List RouteM} {rls : List RuleM} {res : Except (Nat × Nat) (List RouteM × List RuleM)} (h : UnG L l rts rls res) : UnG L (32 :: l) rts rls res := fun line => by
 obtain ⟨ts, xs, h1, h2⟩ := h line
 exact ⟨ts, xs, H.blank h1, h2⟩
theorem un_nl (H : LxL L) {l : List UInt8} {rts : List RouteM} {rls : List RuleM} {res : Except (Nat × Nat) (List RouteM × List RuleM)} (h : UnG L l rts rls res) : UnG L (10 :: l) rts rls res := fun line => by
 obtain ⟨ts, xs, h1, h2⟩ := h (line + 1)
 exact ⟨ts, xs, H.nl h1, h2⟩
theorem un_rule (H : LxL L) {l : List UInt8} {rts : List RouteM} {rls : List RuleM} {res : Except (Nat × Nat) (List RouteM × List RuleM)} {r : RuX} {ps : List Nat} (hr : r.Ok) (h8 : rls.length < 8) (hn : hasName (bs r.nm) rls = false) (hf : r.Fit) (hp : ∀ line, plsFrom rts 0 (r.rts.map fun w => nT w line) = .ok ps) (h : UnG L l rts (rls ++ [r.rl ps rts.length]) res) : UnG L (r.text ++ l) rts rls res := fun line => by
 obtain ⟨line', h3⟩ := rule_lexG H l line hr
 obtain ⟨ts, xs, h1, h2, h4⟩ := h line'
 exact ⟨_, _, h3 ts h1, prL_rule (hr.tk line) h2, by rw [under_rule h8 hn hf (hp line)]; exact h4⟩
theorem un_route (H : LxL L) {l : List UInt8} {rts : List RouteM} {rls : List RuleM} {res : Except (Nat × Nat) (List RouteM × List RuleM)} {nm b c : List UInt8} (hn : NmL nm) (hb : DgL b) (hc : DgL c) (h6 : rts.length ≠ 6) (hp : placeFrom (bs nm) 0 rts < 0) (hb2 : numOf b ≤ 1000000) (hc2 : numOf c ≤ 1000) (h : UnG L l (rts ++ [⟨bs nm, numOf b, numOf c⟩]) rls res) : UnG L (rtX nm b c ++ l) rts rls res := fun line => by
 obtain ⟨line', hs⟩ := H.semi l line
 obtain ⟨ts, xs, h1, h2, h4⟩ := h line'
 refine ⟨_, _, ?_, prL_route (line := line) (r := ⟨nT nm line, dT b line, dT c line⟩) ⟨rfl, rfl, rfl⟩ h2, by rw [under_route h6 hp hb2 hc2]; exact h4⟩
 have e3 := H.dgc hc (hs ts h1)
 have e4 := H.dgc hb (H.blank e3)
 have e5 := H.nmc hn (H.blank e4)
 have e6 := H.wordc (m := kwRoute) (by simp) (H.blank e5)
 simpa [rtX, rtT, kt, mSemi, kwRoute] using e6
theorem un_rs (H : LxL L) (l : List Int) {t : List UInt8} {res : Except (Nat × Nat) (List RouteM × List RuleM)} : ∀ (k i : Nat) (rls : List RuleM), i + k ≤ 8 → rls.length + k ≤ 8 → (∀ j, i ≤ j → j < i + k → hasName (bs (rN j)) rls = false) → UnG L t rts3 (rls ++ rsM l i k) res → UnG L (rsT l i k ++ t) rts3 rls res
 | 0, _, rls, _, _, _, h => by simpa [rsT, rsM] using h
 | k + 1, i, rls, h1, h2, hn, h => by
  have ih := un_rs H l k (i + 1) (rls ++ [rlM i (rawK l i)]) (by omega) (by simp; omega) (fun j h1 h2 => by
   rw [hasName_app, hn j (by omega) (by omega)]
   show hasName _ [rlM i (rawK l i)] = false
   have e := rN_ne (i := j) (j := i) (by omega)
   simp only [hasName]
   rw [show (rlM i (rawK l i)).name = bs (rN i) from rfl, if_neg (by rw [e]; decide)]) (by rw [List.append_assoc]; exact h)
  have := un_rule H (rlX_ok (i := i) (by omega) (rawK l i)) (by omega) (hn i (by omega) (by omega)) (rlX_fit i _) (fun line => pls3 (rlK_lt _)) (un_nl H ih)
  simpa [rsT, rlT] using this
/-- The three routes, whatever stands between. -/
theorem un_three (H : LxL L) {t : List UInt8} {res : Except (Nat × Nat) (List RouteM × List RuleM)} (b : UInt8) (hb : b = 32 ∨ b = 10) (h : UnG L t rts3 [] res) : UnG L (rtX [97] [49, 48] [50] ++ (b :: (rtX [98] [53, 48, 48] [48] ++ (b :: (rtX [99] [48] [57] ++ (10 :: t)))))) [] [] res := by
 have hs : ∀ {l : List UInt8} {rts : List RouteM}, UnG L l rts [] res → UnG L (b :: l) rts [] res := fun h => by
  rcases hb with rfl | rfl
  ·exact un_blank H h
  ·exact un_nl H h
 refine un_route H (nmL_of rfl (by decide) (by decide) (by decide) (by decide)) (dgL_of (by decide) (by decide) (by decide)) (dgL_of (by decide) (by decide) (by decide)) (by decide) (by decide) (by decide) (by decide) (hs ?_)
 refine un_route H (nmL_of rfl (by decide) (by decide) (by decide) (by decide)) (dgL_of (by decide) (by decide) (by decide)) (dgL_of (by decide) (by decide) (by decide)) (by decide) (by rw [List.nil_append, place_ne (by decide)]; decide) (by decide) (by decide) (hs ?_)
 refine un_route H (nmL_of rfl (by decide) (by decide) (by decide) (by decide)) (dgL_of (by decide) (by decide) (by decide)) (dgL_of (by decide) (by decide) (by decide)) (by decide) (by rw [List.nil_append, List.cons_append, place_ne (by decide), List.nil_append, place_ne (by decide)]; decide) (by decide) (by decide) (un_nl H ?_)
 exact h
end
theorem lxL_plain : LxL LexL where
 nil := lexL_nil
 blank := lexL_blank
 nl := lexL_nl
 nm := lexL_nm
 dg := lexL_dg
 word := lexL_word
 sign := fun h => lexL_sign (h.elim (fun e => .inr (.inl e)) (fun e => .inr (.inr e)))
 two := lexL_two
 semi := fun _ line => ⟨line, fun _ h => lexL_sign (.inl rfl) h⟩
theorem read_un {l : List UInt8} {res : Except (Nat × Nat) (List RouteM × List RuleM)} (h : UnG LexL l [] [] res) (hs : l.length ≤ 3000) : readM (bs l) = res := by
 obtain ⟨ts, xs, h1, h2, h3⟩ := h 1
 rw [readM_of ⟨ts, h1, h2⟩ hs, h3]
/-- More behind each blank, and behind each semicolon. -/
def oddF (X Y : List UInt8) (c : UInt8) : List UInt8 := if c = 32 then 32 :: X else if c = 59 then 59 :: Y else [c]
def odd (X Y l : List UInt8) : List UInt8 := l.flatMap (oddF X Y)
theorem odd_app (X Y a b : List UInt8) : odd X Y (a ++ b) = odd X Y a ++ odd X Y b := by simp [odd]
theorem odd_plain (X Y : List UInt8) : ∀ (w l : List UInt8), (∀ x, x ∈ w → x ≠ 32 ∧ x ≠ 59) → odd X Y (w ++ l) = w ++ odd X Y l
 | [], _, _ => rfl
 | c :: w, l, h => by
  have h0 := h c (by simp)
  have ih := odd_plain X Y w l (fun x hx => h x (by simp [hx]))
  simp only [odd, List.cons_append, List.flatMap_cons] at ih ⊢
  rw [ih, oddF, if_neg h0.1, if_neg h0.2]
  rfl
theorem odd_stops {p : Int → Bool} {X Y : List UInt8} {l : List UInt8} (h : Stops p l) : Stops p (odd X Y l) := by
 cases l with
 | nil => trivial
 | cons c r =>
  simp only [odd, List.flatMap_cons, oddF]
  split
  ·rename_i e; subst e; exact h
  ·split
   ·rename_i e; subst e; exact h
   ·exact h
theorem inWord_ne {x : UInt8} (h : inWordB (x.toNat : Int) = true) : x ≠ 32 ∧ x ≠ 59 := by
 constructor <;> (rintro rfl; revert h; decide)
theorem isDigit_ne {x : UInt8} (h : isDigitB (x.toNat : Int) = true) : x ≠ 32 ∧ x ≠ 59 := by
 constructor <;> (rintro rfl; revert h; decide)
theorem lxL_odd {X Y : List UInt8} (hX : ∀ l line ts, LexL l line ts → LexL (X ++ l) line ts) (hY : ∀ l line, ∃ line', ∀ ts, LexL l line' ts → LexL (Y ++ l) line ts) : LxL (fun l line ts => LexL (odd X Y l) line ts) where
 nil := fun line => lexL_nil line
 blank := fun {l line ts} h => by
  show LexL ((oddF X Y 32) ++ odd X Y l) line ts
  exact lexL_blank (hX _ _ _ h)
 nl := fun {l line ts} h => lexL_nl h
 nm := fun {w l line ts} hw hs h => by
  show LexL (odd X Y (w ++ l)) _ _
  rw [odd_plain X Y w l (fun x hx => inWord_ne (hw.2.1 x hx))]
  exact lexL_nm hw (odd_stops hs) h
 dg := fun {w l line ts} hw hs h => by
  show LexL (odd X Y (w ++ l)) _ _
  rw [odd_plain X Y w l (fun x hx => isDigit_ne (hw.2.2 x hx))]
  exact lexL_dg hw (odd_stops hs) h
 word := fun {m l line ts} hm hs h => by
  have e : ∀ x, x ∈ m.data.toList → x ≠ 32 ∧ x ≠ 59 := by
   simp only [List.mem_cons, List.not_mem_nil, or_false] at hm
   rcases hm with rfl | rfl | rfl | rfl | rfl | rfl | rfl | rfl <;> decide
  show LexL (odd X Y (m.data.toList ++ l)) _ _
  rw [odd_plain X Y _ l e]
  exact lexL_word hm (odd_stops hs) h
 sign := fun {c l line ts} hc h => by
  rcases hc with rfl | rfl
  ·exact lexL_sign (c := 58) (.inr (.inl rfl)) h
  ·exact lexL_sign (c := 44) (.inr (.inr rfl)) h
 two := fun {a b l line ts} hc h => by
  rcases hc with ⟨rfl, rfl⟩ | ⟨rfl, rfl⟩
  ·exact lexL_two (a := 46) (b := 46) (.inl ⟨rfl, rfl⟩) h
  ·exact lexL_two (a := 45) (b := 62) (.inr ⟨rfl, rfl⟩) h
 semi := fun l line => by
  obtain ⟨line', h⟩ := hY (odd X Y l) line
  exact ⟨line', fun ts ht => lexL_sign (c := 59) (.inl rfl) (h ts ht)⟩
theorem lexL_tab {l : List UInt8} {line : Nat} {ts : List Tk} (h : LexL l line ts) : LexL (9 :: l) line ts := by
 intro pre acc
 have e := bAt_mid pre 9 l
 rw [lexFrom_skip (k' := pre.length + 1) (l' := line) (by simp [bs_size]) (by unfold lexStep; rw [e]; rfl)]
 have := h (pre ++ [9]) acc
 simpa using this
theorem lexL_remark {w l : List UInt8} {line : Nat} {ts : List Tk} (hw : ∀ x, x ∈ w → inRemarkB (x.toNat : Int) = true) (h : LexL (10 :: l) line ts) : LexL ((35 :: w) ++ 10 :: l) line ts := by
 intro pre acc
 have e : bAt (bs (pre ++ ((35 :: w) ++ 10 :: l))) pre.length = 35 := bAt_mid pre 35 (w ++ 10 :: l)
 have r : runAt inRemarkB (bs (pre ++ ((35 :: w) ++ 10 :: l))) pre.length = (35 :: w).length := by
  rw [runAt_mid, runLen_app (l := 10 :: l) _ (show inRemarkB _ = false from by decide) (35 :: w) (fun x hx => by
   rcases List.mem_cons.1 hx with rfl | hx
   ·decide
   ·exact hw x hx)]
 rw [lexFrom_skip (k' := pre.length + (35 :: w).length) (l' := line) (by simp [bs_size]) (by unfold lexStep; rw [e, r]; rfl)]
 have := h (pre ++ (35 :: w)) acc
 simpa using this
end Go.Proofs.YtccikgogjfbpeaaGreatDoor

namespace Go.Proofs.YtccikgogjfbpeaaGreatDoor

theorem digL_pos : ∀ (m n : Nat), n = m → 0 < n → digL n 0 = digL n 1 := by
 intro m n _ h
 rw [digL_step (by omega), digL_step (w := 1) (by omega)]
theorem dec_eq : ∀ (m n : Nat), n = m → Lib.decDigits n = digL n 1 := by
 intro m
 induction m using Nat.strongRecOn with
 | ind m ih =>
  intro n hn
  rw [Lib.decDigits]
  by_cases h : n < 10
  ·rw [dif_pos h, dig1 h]
  ·rw [dif_neg h, digL_step (by omega), show 1 - 1 = 0 from rfl, digL_pos _ _ rfl (by omega), ih (n / 10) (by omega) (n / 10) rfl]
theorem decN_eq (n : Nat) : decN n = digL n 1 := dec_eq n n rfl
theorem dg_of {w : List UInt8} (h9 : w.length ≤ 9) (h : ∀ x, x ∈ w → 48 ≤ x.toNat ∧ x.toNat ≤ 57) : Dg (bs w) := by
 refine ⟨h9, fun k hk => ?_⟩
 have hk' : k < w.length := hk
 have := h _ (List.getElem_mem hk')
 unfold bAt
 rw [bs_data, List.getD_eq_getElem?_getD, List.getElem?_eq_getElem hk']
 simp
 omega
theorem padL_eq {n w : Nat} (h : n < 10 ^ w) (h1 : 1 ≤ w) (h9 : w ≤ 9) : padL n w = digL n w := by
 have hl := digL_len w n h
 have e := (pad_val (dT (digL n w) 0) (dg_of (by omega) (digL_dg _ n w rfl)) (by show 1 ≤ (digL n w).length; omega)).1
 rw [valOf_dT, digL_num _ n w rfl] at e
 unfold padL decN
 rw [show (dT (digL n w) 0).text.size = w from hl] at e
 exact e
theorem commaN_X : ∀ (ws : List (List UInt8)), commaN ws = commaX ws
 | [] => rfl
 | [w] => by simp [commaN, commaX]
 | w :: v :: r => by
  have ih := commaN_X (v :: r)
  simp only [commaN, commaX, List.flatMap_cons] at ih ⊢
  rw [← ih]
  simp
theorem map_dec (ns : List Nat) : (((ns.map fun n => digL n 1).map numOf).map decN) = ns.map fun n => digL n 1 := by
 rw [List.map_map, List.map_map]
 congr 1
 funext n
 simp [decN_eq, tx_num]
theorem gJ_X (kw : ByteArray) (ns : List Nat) : gJ kw.data.toList ((ns.map fun n => digL n 1).map numOf) = gdX kw (ns.map fun n => digL n 1) := by
 unfold gJ gdX
 cases ns with
 | nil => rfl
 | cons n r =>
  rw [if_neg (by simp), if_neg (by simp), map_dec, commaN_X]
def gMn (c : Int) : List Nat := if pickK (c.tdiv 7) 3 = 1 then [pickK (c.tdiv 11) 5, pickK (c.tdiv 13) 5] else []
def gCn (c : Int) : List Nat := if pickK (c.tdiv 29) 3 = 1 then [pickK (c.tdiv 37) 4] else []
theorem gMcc_n (c : Int) : gMcc c = (gMn c).map fun n => digL n 1 := by unfold gMcc gMn; split <;> rfl
theorem gCur_n (c : Int) : gCur c = (gCn c).map fun n => digL n 1 := by unfold gCur gCn; split <;> rfl
theorem aJ_X (c : Int) : aJ ((gAm c).map fun ab => (numOf ab.1, numOf ab.2)) = amX (gAm c) := by
 unfold gAm
 split
 ·simp [aJ, amX, decN_eq, tx_num, kwAmount]
 ·rfl
theorem acJ_X {k : Nat} (h : k < 6) (r : RuleM) (h1 : r.decline = actD k) (h2 : r.cheapest = actC k) (h3 : r.routes = actP k) : acJ rts3 r = 32 :: actT k := by
 unfold acJ
 rw [h1, h2, h3]
 have : k = 0 ∨ k = 1 ∨ k = 2 ∨ k = 3 ∨ k = 4 ∨ k = 5 := by omega
 rcases this with rfl | rfl | rfl | rfl | rfl | rfl <;> rfl
theorem pl_rule (i : Nat) (c : Int) : plRl rts3 (rlM i c) = rlT i c := by
 have hw := gw_in c
 have e1 := padL_eq (gf_lt c) hw.1 (by omega)
 have e2 := padL_eq (gt_lt c).2 hw.1 (by omega)
 have l1 := digL_len (gw c) (gf c) (gf_lt c)
 rw [rlT_eq]
 unfold plRl
 rw [acJ_X (rlK_lt c) (rlM i c) rfl rfl rfl, show (rlM i c).name.data.toList = 114 :: digL i 1 from rfl, show (rlM i c).rank = numOf (digL (pickK (c.tdiv 41) 3) 1) from rfl, tx_num, decN_eq,
  show (rlM i c).lo = numOf (digL (gf c) (gw c)) from rfl, show (rlM i c).hi = numOf (digL (gt c) (gw c)) from rfl, show (rlM i c).digits = (digL (gf c) (gw c)).length from rfl, l1, digL_num _ _ _ rfl, digL_num _ _ _ rfl, e1, e2,
  show (rlM i c).mcc = (gMcc c).map numOf from rfl, show (rlM i c).cur = (gCur c).map numOf from rfl, show (rlM i c).am = (gAm c).map fun ab => (numOf ab.1, numOf ab.2) from rfl, gMcc_n, gCur_n, aJ_X]
 rw [show ([109, 99, 99] : Bs) = kwMcc.data.toList from rfl, show ([99, 117, 114] : Bs) = kwCur.data.toList from rfl, gJ_X, gJ_X, ← gMcc_n, ← gCur_n]
 simp only [g3, g2, g1, g0, List.append_assoc, List.cons_append, List.nil_append]
def rP : List UInt8 := rtX [97] [49, 48] [50] ++ (10 :: (rtX [98] [53, 48, 48] [48] ++ (10 :: (rtX [99] [48] [57] ++ [10]))))
theorem decN_1 {n : Nat} (h : n < 10) : decN n = [UInt8.ofNat (48 + n)] := by rw [decN_eq, dig1 h]
theorem pl_routes : rts3.flatMap plRt = rP := by
 have d10 : decN 10 = [49, 48] := by unfold decN; rw [Lib.decDigits, dif_neg (by decide), Lib.decDigits, dif_pos (by decide)]; rfl
 have d500 : decN 500 = [53, 48, 48] := by unfold decN; rw [Lib.decDigits, dif_neg (by decide), Lib.decDigits, dif_neg (by decide), Lib.decDigits, dif_pos (by decide)]; rfl
 have d2 : decN 2 = [50] := decN_1 (by decide)
 have d0 : decN 0 = [48] := decN_1 (by decide)
 have d9 : decN 9 = [57] := decN_1 (by decide)
 simp [rts3, plRt, d10, d500, d2, d0, d9, rP, rtX]
theorem book_rs (l : List Int) : ∀ (k i : Nat), bookFrom rts3 3 (rsM l i k) = rsT l i k
 | 0, _ => rfl
 | k + 1, i => by
  simp only [rsM, bookFrom, rsT]
  rw [show (rlM i (rawK l i)).ahead = 3 from rfl, pl_rule, book_rs l k (i + 1)]
  rfl
theorem book_text (l : List Int) (m : Nat) : bookJ rts3 (rsM l 0 m) = rP ++ rsT l 0 m := by
 cases m with
 | zero =>
  show rts3.flatMap plRt = _
  rw [pl_routes]
  simp [rsT]
 | succ m =>
  unfold bookJ
  simp only [rsM, bookFrom, rsT]
  rw [show (rlM 0 (rawK l 0)).ahead = 3 from rfl, pl_rule, book_rs l m 1]
  show rts3.flatMap plRt ++ _ = _
  rw [pl_routes]
theorem un_whole {L : List UInt8 → Nat → List Tk → Prop} (H : LxL L) (l : List Int) (m : Nat) (hm : m ≤ 8) : UnG L (routes3 ++ rsT l 0 m) [] [] (.ok (rts3, rsM l 0 m)) := by
 have h := un_three H 32 (.inl rfl) (t := rsT l 0 m ++ []) (un_rs H l m 0 [] (by omega) (by simp; omega) (fun _ _ _ => rfl) (un_nil H rts3 ([] ++ rsM l 0 m)))
 simpa [routes3, rtX] using h
theorem plain_read (l : List Int) (m : Nat) (hm : m ≤ 8) : readM (bs (bookJ rts3 (rsM l 0 m))) = .ok (rts3, rsM l 0 m) := by
 have h := un_three lxL_plain 10 (.inr rfl) (t := rsT l 0 m ++ []) (un_rs lxL_plain l m 0 [] (by omega) (by simp; omega) (fun _ _ _ => rfl) (un_nil lxL_plain rts3 ([] ++ rsM l 0 m)))
 have hl := rsT_len l m 0 (by omega)
 rw [book_text]
 refine read_un ?_ (by simp [rP, rtX]; omega)
 simpa [rP] using h
def oX (b : Bool) : List UInt8 := if b then [9, 32] else []
def oY (b : Bool) : List UInt8 := if b then [32, 35, 32, 115, 111, 59, 32, 105, 116, 32, 105, 115, 10] else []
def oH : List UInt8 := [35, 32, 114, 117, 108, 101, 115, 10]
theorem odd_read (l : List Int) (m : Nat) (hm : m ≤ 8) (x y : Bool) (hs : (oH ++ odd (oX x) (oY y) (routes3 ++ rsT l 0 m)).length ≤ 3000) : readM (bs (oH ++ odd (oX x) (oY y) (routes3 ++ rsT l 0 m))) = .ok (rts3, rsM l 0 m) := by
 have hX : ∀ l line ts, LexL l line ts → LexL (oX x ++ l) line ts := fun l line ts h => by
  cases x with
  | true => exact lexL_tab (lexL_blank h)
  | false => exact h
 have hY : ∀ l line, ∃ line', ∀ ts, LexL l line' ts → LexL (oY y ++ l) line ts := fun l line => by
  cases y with
  | true => exact ⟨line + 1, fun ts h => lexL_blank (lexL_remark (w := [32, 115, 111, 59, 32, 105, 116, 32, 105, 115]) (by decide) (lexL_nl h))⟩
  | false => exact ⟨line, fun ts h => h⟩
 obtain ⟨ts, xs, h1, h2, h3⟩ := un_whole (lxL_odd hX hY) l m hm 2
 have h4 : LexL (oH ++ odd (oX x) (oY y) (routes3 ++ rsT l 0 m)) 1 ts := lexL_remark (w := [32, 114, 117, 108, 101, 115]) (by decide) (lexL_nl h1)
 rw [readM_of ⟨ts, h4, h2⟩ hs, h3]
end Go.Proofs.YtccikgogjfbpeaaGreatDoor
