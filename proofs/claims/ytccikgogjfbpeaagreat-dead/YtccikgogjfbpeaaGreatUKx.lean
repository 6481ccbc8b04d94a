/- Texts put together are read, whatever blanks and remarks stand between; plain. -/
import Derived.Test.YtccikgogjfbpeaaGreatUKh
namespace Go.Proofs.YtccikgogjfbpeaaGreat

/-- What is asked of a way of reading. -/
structure LxL (L : List UInt8 → Nat → List Tk → Prop) : Prop where
 nil : ∀ line, L [] line [⟨3, ByteArray.empty, line⟩]
 blank : ∀ {l line ts}, L l line ts → L (32 :: l) line ts
 nl : ∀ {l line ts}, L l (line + 1) ts → L (10 :: l) line ts
 nm : ∀ {w l line ts}, NmL w → Stops inWordB l → L l line ts → L (w ++ l) line (nT w line :: ts)
 dg : ∀ {w l line ts}, DgL w → Stops isDigitB l → L l line ts → L (w ++ l) line (dT w line :: ts)
 word : ∀ {m : ByteArray} {l line ts}, m ∈ [kwRoute, kwRule, kwBin, kwMcc, kwAmount, kwCur, kwDecline, kwCheapest] → Stops inWordB l → L l line ts → L (m.data.toList ++ l) line (kt m line :: ts)
 sign : ∀ {c : UInt8} {l line ts}, c = 58 ∨ c = 44 → L l line ts → L (c :: l) line (⟨2, bs [c], line⟩ :: ts)
 two : ∀ {a b : UInt8} {l line ts}, (a = 46 ∧ b = 46) ∨ (a = 45 ∧ b = 62) → L l line ts → L (a :: b :: l) line (⟨2, bs [a, b], line⟩ :: ts)
 semi : ∀ l line, ∃ line', ∀ ts, L l line' ts → L (59 :: l) line (kt mSemi line :: ts)
section
variable {L : List UInt8 → Nat → List Tk → Prop}
theorem LxL.dgc (H : LxL L) {w l : List UInt8} {c : UInt8} {line : Nat} {ts : List Tk} (hw : DgL w) (h : L (c :: l) line ts) (hc : isDigitB (c.toNat : Int) = false := by decide) : L (w ++ c :: l) line (dT w line :: ts) := H.dg hw hc h
theorem LxL.nmc (H : LxL L) {w l : List UInt8} {c : UInt8} {line : Nat} {ts : List Tk} (hw : NmL w) (h : L (c :: l) line ts) (hc : inWordB (c.toNat : Int) = false := by decide) : L (w ++ c :: l) line (nT w line :: ts) := H.nm hw hc h
theorem LxL.wordc (H : LxL L) {m : ByteArray} {l : List UInt8} {c : UInt8} {line : Nat} {ts : List Tk} (hm : m ∈ [kwRoute, kwRule, kwBin, kwMcc, kwAmount, kwCur, kwDecline, kwCheapest]) (h : L (c :: l) line ts) (hc : inWordB (c.toNat : Int) = false := by decide) : L (m.data.toList ++ c :: l) line (kt m line :: ts) := H.word hm hc h
theorem commaX_dgG (H : LxL L) {l : List UInt8} {line : Nat} {ts : List Tk} (hl : Stops isDigitB l) (h : L l line ts) : ∀ (ws : List (List UInt8)), (∀ w, w ∈ ws → DgL w) → L (commaX ws ++ l) line (listT line (ws.map fun w => dT w line) ++ ts)
 | [], _ => h
 | [w], hw => H.dg (hw w (by simp)) hl h
 | w :: v :: r, hw => by
  have ih := commaX_dgG H hl h (v :: r) (fun x hx => hw x (by simp [hx]))
  have := H.dgc (hw w (by simp)) (H.sign (c := 44) (.inr rfl) (H.blank ih))
  simpa [commaX, listT, moreT, List.flatMap_cons, kt, mComma] using this
theorem commaX_nmG (H : LxL L) {l : List UInt8} {line : Nat} {ts : List Tk} (hl : Stops inWordB l) (h : L l line ts) : ∀ (ws : List (List UInt8)), (∀ w, w ∈ ws → NmL w) → L (commaX ws ++ l) line (listT line (ws.map fun w => nT w line) ++ ts)
 | [], _ => h
 | [w], hw => H.nm (hw w (by simp)) hl h
 | w :: v :: r, hw => by
  have ih := commaX_nmG H hl h (v :: r) (fun x hx => hw x (by simp [hx]))
  have := H.nmc (hw w (by simp)) (H.sign (c := 44) (.inr rfl) (H.blank ih))
  simpa [commaX, listT, moreT, List.flatMap_cons, kt, mComma] using this
theorem gdX_lexG (H : LxL L) {kw : ByteArray} (hk : kw ∈ [kwRoute, kwRule, kwBin, kwMcc, kwAmount, kwCur, kwDecline, kwCheapest]) {l : List UInt8} {line : Nat} {ts : List Tk} (hl : Stops isDigitB l) (h : L l line ts) {ws : List (List UInt8)} (hw : ∀ w, w ∈ ws → DgL w) : L (gdX kw ws ++ l) line (gdT kw line (ws.map fun w => dT w line) ++ ts) := by
 cases ws with
 | nil => exact h
 | cons w r =>
  have := H.blank (H.wordc hk (H.blank (commaX_dgG H hl h (w :: r) hw)))
  simpa [gdX, gdT] using this
theorem amX_lexG (H : LxL L) {l : List UInt8} {line : Nat} {ts : List Tk} (hl : Stops isDigitB l) (h : L l line ts) {o : Option (List UInt8 × List UInt8)} (ho : ∀ ab, o = some ab → DgL ab.1 ∧ DgL ab.2) : L (amX o ++ l) line (amT line (o.map fun ab => (dT ab.1 line, dT ab.2 line)) ++ ts) := by
 cases o with
 | none => exact h
 | some ab =>
  obtain ⟨h1, h2⟩ := ho ab rfl
  have := H.blank (H.wordc (m := kwAmount) (by simp) (H.blank (H.dgc h1 (H.two (a := 46) (b := 46) (.inl ⟨rfl, rfl⟩) (H.dg h2 hl h)))))
  simpa [amX, amT, kt, mDots] using this
theorem acX_lexG (H : LxL L) {l : List UInt8} {line : Nat} {ts : List Tk} (hl : Stops inWordB l) (h : L l line ts) {r : RuX} (hr : r.Ok) : L (acX r ++ l) line (acT line (r.ent line).act ++ ts) := by
 unfold acX RuX.ent acT
 dsimp only
 cases hd : r.dec with
 | true => exact H.word (m := kwDecline) (by simp) hl h
 | false =>
  cases hc : r.ch with
  | true =>
   have := H.wordc (m := kwCheapest) (by simp) (H.blank (commaX_nmG H hl h r.rts hr.rts))
   simpa using this
  | false => simpa using commaX_nmG H hl h r.rts hr.rts
theorem rule_lexG (H : LxL L) (l : List UInt8) (line : Nat) {r : RuX} (hr : r.Ok) : ∃ line', ∀ ts, L l line' ts → L (r.text ++ l) line (ruT line (r.ent line) ++ (kt mSemi line :: ts)) := by
 obtain ⟨line', hs⟩ := H.semi l line
 refine ⟨line', fun ts h => ?_⟩
 have h1 := acX_lexG H (l := 59 :: l) (show inWordB _ = false from by decide) (hs ts h) hr
 have h2 := H.blank (H.two (a := 45) (b := 62) (.inr ⟨rfl, rfl⟩) (H.blank h1))
 have s2 : Stops isDigitB (32 :: 45 :: 62 :: 32 :: (acX r ++ 59 :: l)) := (show isDigitB _ = false from by decide)
 have h3 := gdX_lexG H (kw := kwCur) (by simp) s2 h2 hr.cur
 have h4 := amX_lexG H (stops_gd s2) h3 hr.am
 have h5 := gdX_lexG H (kw := kwMcc) (by simp) (stops_am (stops_gd s2)) h4 hr.mcc
 have h6 := H.two (a := 46) (b := 46) (.inl ⟨rfl, rfl⟩) (H.dg hr.hi (stops_gd (stops_am (stops_gd s2))) h5)
 have h7 := H.dgc hr.lo h6
 have h8 := H.wordc (m := kwBin) (by simp) (H.blank h7)
 have h9 := H.dgc hr.rk (H.sign (c := 58) (.inl rfl) (H.blank h8))
 have h10 := H.nmc hr.nm (H.blank h9)
 have h11 := H.wordc (m := kwRule) (by simp) (H.blank h10)
 simpa [RuX.text, gX, ruT, RuX.ent, kt, mSemi, mColon, mDots, mArrow, kwRule, kwBin] using h11
/-- A text comes to this, whatever line it begins at. -/
def UnG (L : List UInt8 → Nat → List Tk → Prop) (l : List UInt8) (rts : List RouteM) (rls : List RuleM) (res : Except (Nat × Nat) (List RouteM × List RuleM)) : Prop := ∀ line, ∃ ts xs, L l line ts ∧ PrL ts xs ∧ underM rts rls xs = res
theorem un_nil (H : LxL L) (rts : List RouteM) (rls : List RuleM) : UnG L [] rts rls (.ok (rts, rls)) := fun line => ⟨_, _, H.nil line, prL_end line, rfl⟩
theorem un_blank (H : LxL L) {l : List UInt8} {rts : List RouteM} {rls : List RuleM} {res : Except (Nat × Nat) (List RouteM × List RuleM)} (h : UnG L l rts rls res) : UnG L (32 :: l) rts rls res := fun line => by
 obtain ⟨ts, xs, h1, h2⟩ := h line
 exact ⟨ts, xs, H.blank h1, h2⟩
theorem un_nl (H : LxL L) {l : List UInt8} {rts : List RouteM} {rls : List RuleM} {res : Except (Nat × Nat) (List RouteM × List RuleM)} (h : UnG L l rts rls res) : UnG L (10 :: l) rts rls res := fun line => by
 obtain ⟨ts, xs, h1, h2⟩ := h (line + 1)
 exact ⟨ts, xs, H.nl h1, h2⟩
theorem un_rule (H : LxL L) {l : List UInt8} {rts : List RouteM} {rls : List RuleM} {res : Except (Nat × Nat) (List RouteM × List RuleM)} {r : RuX} {ps : List Nat} (hr : r.Ok) (h8 : rls.length < 8) (hn : hasName (bs r.nm) rls = false) (hf : r.Fit) (hp : ∀ line, plsFrom rts 0 (r.rts.map fun w => nT w line) = .ok ps) (h : UnG L l rts (rls ++ [r.rl ps rts.length]) res) : UnG L (r.text ++ l) rts rls res := fun line => by
 obtain ⟨line', h3⟩ := rule_lexG H l line hr
 obtain ⟨ts, xs, h1, h2, h4⟩ := h line'
 exact ⟨_, _, h3 ts h1, prL_rule (hr.tk line) h2, by rw [under_rule h8 hn hf (hp line)]; exact h4⟩
theorem un_route (H : LxL L) {l : List UInt8} {rts : List RouteM} {rls : List RuleM} {res : Except (Nat × Nat) (List RouteM × List RuleM)} {nm b c : List UInt8} (hn : NmL nm) (hb : DgL b) (hc : DgL c) (h6 : rts.length ≠ 6) (hp : placeFrom (bs nm) 0 rts < 0) (hb2 : numOf b ≤ 1000000) (hc2 : numOf c ≤ 1000) (h : UnG L l (rts ++ [⟨bs nm, numOf b, numOf c⟩]) rls res) : UnG L (rtX nm b c ++ l) rts rls res := fun line => by
 obtain ⟨line', hs⟩ := H.semi l line
 obtain ⟨ts, xs, h1, h2, h4⟩ := h line'
 refine ⟨_, _, ?_, prL_route (line := line) (r := ⟨nT nm line, dT b line, dT c line⟩) ⟨rfl, rfl, rfl⟩ h2, by rw [under_route h6 hp hb2 hc2]; exact h4⟩
 have e3 := H.dgc hc (hs ts h1)
 have e4 := H.dgc hb (H.blank e3)
 have e5 := H.nmc hn (H.blank e4)
 have e6 := H.wordc (m := kwRoute) (by simp) (H.blank e5)
 simpa [rtX, rtT, kt, mSemi, kwRoute] using e6
/-- The three routes, whatever stands between. -/
theorem un_three (H : LxL L) {t : List UInt8} {res : Except (Nat × Nat) (List RouteM × List RuleM)} (b : UInt8) (hb : b = 32 ∨ b = 10) (h : UnG L t rts3 [] res) : UnG L (rtX [97] [49, 48] [50] ++ (b :: (rtX [98] [53, 48, 48] [48] ++ (b :: (rtX [99] [48] [57] ++ (10 :: t)))))) [] [] res := by
 have hs : ∀ {l : List UInt8} {rts : List RouteM}, UnG L l rts [] res → UnG L (b :: l) rts [] res := fun h => by
  rcases hb with rfl | rfl
  ·exact un_blank H h
  ·exact un_nl H h
 refine un_route H (nmL_of rfl (by decide) (by decide) (by decide) (by decide)) (dgL_of (by decide) (by decide) (by decide)) (dgL_of (by decide) (by decide) (by decide)) (by decide) (by decide) (by decide) (by decide) (hs ?_)
 refine un_route H (nmL_of rfl (by decide) (by decide) (by decide) (by decide)) (dgL_of (by decide) (by decide) (by decide)) (dgL_of (by decide) (by decide) (by decide)) (by decide) (by rw [List.nil_append, place_ne (by decide)]; decide) (by decide) (by decide) (hs ?_)
 refine un_route H (nmL_of rfl (by decide) (by decide) (by decide) (by decide)) (dgL_of (by decide) (by decide) (by decide)) (dgL_of (by decide) (by decide) (by decide)) (by decide) (by rw [List.nil_append, List.cons_append, place_ne (by decide), List.nil_append, place_ne (by decide)]; decide) (by decide) (by decide) (un_nl H ?_)
 exact h
end
theorem lxL_plain : LxL LexL where
 nil := lexL_nil
 blank := lexL_blank
 nl := lexL_nl
 nm := lexL_nm
 dg := lexL_dg
 word := lexL_word
 sign := fun h => lexL_sign (h.elim (fun e => .inr (.inl e)) (fun e => .inr (.inr e)))
 two := lexL_two
 semi := fun _ line => ⟨line, fun _ h => lexL_sign (.inl rfl) h⟩
theorem read_un {l : List UInt8} {res : Except (Nat × Nat) (List RouteM × List RuleM)} (h : UnG LexL l [] [] res) (hs : l.length ≤ 3000) : readM (bs l) = res := by
 obtain ⟨ts, xs, h1, h2, h3⟩ := h 1
 rw [readM_of ⟨ts, h1, h2⟩ hs, h3]
end Go.Proofs.YtccikgogjfbpeaaGreat
