/- Where the tokens of entries stand; plain, over the parser. The document's plain text of entries, plain. What is shown of the tokens, by the parser; plain. The plain text, entry by entry; plain. -/
import Derived.Test.YtccikgogjfbpeabGreatDoorWQo
namespace Go.Proofs.YtccikgogjfbpeabGreatDoor
section
variable {body : List Tk} {en : Tk}
theorem tk_body (he : en.sort = 3) {i : Nat} (h : (tkAt (body ++ [en]) i).sort ≠ 3) : body[i]? = some (tkAt (body ++ [en]) i) := by
 unfold tkAt at h ⊢
 rw [List.getD_eq_getElem?_getD] at h ⊢
 by_cases hi : i < body.length
 ·rw [List.getElem?_append_left hi, List.getElem?_eq_getElem hi]
  rfl
 ·exfalso
  apply h
  rw [List.getElem?_append_right (by omega)]
  by_cases h0 : i - body.length = 0
  ·rw [h0]; exact he
  ·rw [List.getElem?_eq_none (by simp; omega)]; rfl
theorem take_at (he : en.sort = 3) {i want : Nat} {t : Tk} {k : Nat} (hw : want ≠ 3) (h : takeM (body ++ [en]) i want = .ok (t, k)) : body[i]? = some t /\ t.sort = want /\ k = i + 1 := by
 obtain ⟨rfl, h2, h3⟩ := takeM_ok h
 exact ⟨tk_body he (by rw [h2]; exact hw), h2, h3⟩
theorem fix_at (he : en.sort = 3) {i : Nat} {m : ByteArray} (h : isFix (tkAt (body ++ [en]) i) m = true) : ∃ t, body[i]? = some t /\ (t.text.toList == m.data.toList) = true /\ t.sort = 2 := by
 simp only [isFix, Bool.and_eq_true, decide_eq_true_eq] at h
 exact ⟨_, tk_body he (by rw [h.1]; decide), by rw [<- ByteArray.toList_eq m]; exact h.2, h.1⟩
theorem expect_at (he : en.sort = 3) {i : Nat} {m : ByteArray} {u : Unit} {k : Nat} (h : expectM (body ++ [en]) i m = .ok (u, k)) : (∃ t, body[i]? = some t /\ (t.text.toList == m.data.toList) = true /\ t.sort = 2) /\ k = i + 1 := by
 refine ⟨?_, expectM_ok h⟩
 unfold expectM at h
 split at h
 ·rename_i hf; exact fix_at he hf
 ·cases h
theorem rest_at (he : en.sort = 3) {want : Nat} (hw : want ≠ 3) : ∀ (m i : Nat) (acc l : List Tk) (k : Nat), (body ++ [en]).length - i = m -> restM (body ++ [en]) i want acc = .ok (l, k) ->
  ∃ r, l = acc ++ r /\ (∀ j t, r[j]? = some t -> body[i + 1 + 2 * j]? = some t) /\ (∀ j, j < r.length -> ∃ t, body[i + 2 * j]? = some t /\ (t.text.toList == [44]) = true) /\ k = i + 2 * r.length /\ ¬ isFix (tkAt (body ++ [en]) k) mComma = true := by
 intro m
 induction m using Nat.strongRecOn with
 | ind m ih =>
  intro i acc l k hm hr
  rw [restM] at hr
  split at hr
  ·rename_i hq
   have hlt := isFix_lt hq
   split at hr
   ·cases hr
   ·rename_i t i' ht
    obtain ⟨h1, h2, h3⟩ := take_at he hw ht
    obtain ⟨r, e1, e2, e3, e4, e5⟩ := ih ((body ++ [en]).length - i') (by omega) i' _ l k rfl hr
    obtain ⟨tc, c1, c2, _⟩ := fix_at he hq
    refine ⟨t :: r, by rw [e1, List.append_assoc]; rfl, fun j u hj => ?_, fun j hj => ?_, by simp only [List.length_cons]; omega, e5⟩
    ·cases j with
     | zero => simp at hj; subst hj; exact h1
     | succ j =>
      have := e2 j u (by simpa using hj)
      rw [show i + 1 + 2 * (j + 1) = i' + 1 + 2 * j from by omega]
      exact this
    ·cases j with
     | zero => exact ⟨tc, c1, c2⟩
     | succ j =>
      obtain ⟨u, u1, u2⟩ := e3 j (by simpa using hj)
      rw [show i + 2 * (j + 1) = i' + 2 * j from by omega]
      exact ⟨u, u1, u2⟩
  ·rename_i hq
   injection hr with hr
   injection hr with h1 h2
   subst h1 h2
   exact ⟨[], by simp, fun j t hj => by simp at hj, fun j hj => by simp at hj, by simp, hq⟩
end
end Go.Proofs.YtccikgogjfbpeabGreatDoor

namespace Go.Proofs.YtccikgogjfbpeabGreatDoor
abbrev Bs := List UInt8
def decT (t : Tk) : Bs := Lib.decDigits (valOf t)
def txtT (t : Tk) : Bs := t.text.data.toList
def moreS (sh : Tk -> Bs) (l : List Tk) : List Bs := l.flatMap fun t => [[44], sh t]
def listS (sh : Tk -> Bs) : List Tk -> List Bs
 | [] => []
 | t :: r => sh t :: moreS sh r
def guardS (kw : Bs) (l : List Tk) : List Bs := if l = [] then [] else kw :: listS decT l
def amS : Option (Tk × Tk) -> List Bs
 | none => []
 | some ab => [[97, 109, 111, 117, 110, 116], decT ab.1, [46, 46], decT ab.2]
def actS (a : ActE) : List Bs := if a.decline then [[100, 101, 99, 108, 105, 110, 101]] else (if a.cheapest then [[99, 104, 101, 97, 112, 101, 115, 116]] else []) ++ listS txtT a.routes
def entS : EntE -> List Bs
 | .route r => [[114, 111, 117, 116, 101], txtT r.name, decT r.base, decT r.rate, [59]]
 | .rule r => [[114, 117, 108, 101], txtT r.name, decT r.rank, [58], [98, 105, 110], txtT r.bin.1, [46, 46], txtT r.bin.2] ++ guardS [109, 99, 99] r.mcc ++ amS r.amount ++ guardS [99, 117, 114] r.cur ++ [[45, 62]] ++ actS r.act ++ [[59]]
def Seg (body : List Tk) (i : Nat) (ss : List Bs) : Prop := shownFrom body i ss.length = ss
theorem shownFrom_add (ts : List Tk) : ∀ (a k b : Nat), shownFrom ts k (a + b) = shownFrom ts k a ++ shownFrom ts (k + a) b
 | 0, k, b => by rw [Nat.zero_add]; rfl
 | a + 1, k, b => by
  rw [show a + 1 + b = (a + b) + 1 from by omega]
  show shown ts k :: shownFrom ts (k + 1) (a + b) = shown ts k :: shownFrom ts (k + 1) a ++ _
  rw [shownFrom_add ts a (k + 1) b, show k + 1 + a = k + (a + 1) from by omega]
  rfl
theorem Seg.nil (body : List Tk) (i : Nat) : Seg body i [] := rfl
theorem Seg.append {body : List Tk} {i : Nat} {s1 s2 : List Bs} (h1 : Seg body i s1) (h2 : Seg body (i + s1.length) s2) : Seg body i (s1 ++ s2) := by
 unfold Seg at *
 rw [List.length_append, shownFrom_add, h1, h2]
theorem Seg.one {body : List Tk} {i : Nat} {s : Bs} (h : shown body i = s) : Seg body i [s] := by
 unfold Seg
 show shown body i :: shownFrom body (i + 1) 0 = [s]
 rw [h]
 rfl
theorem Seg.cons {body : List Tk} {i : Nat} {s : Bs} {r : List Bs} (h : shown body i = s) (h2 : Seg body (i + 1) r) : Seg body i (s :: r) := Seg.append (Seg.one h) h2
theorem isT_other {t : Tk} {a b : Bs} (h : (t.text.toList == a) = true) (hab : (a == b) = false) : isT t b = false := by
 unfold isT
 have e : t.text.toList = a := by simpa using h
 rw [e]
 exact hab
theorem isT_same {t : Tk} {a : Bs} (h : (t.text.toList == a) = true) : isT t a = true := h
section
variable {body : List Tk}
theorem isT_plain {t : Tk} (hl : LitTk t) (hs : t.sort ≠ 2) {m : ByteArray} (hm : m ∈ lits) : isT t m.data.toList = false := by
 unfold isT
 have h := hl m hm
 rw [ByteArray.toList_eq m] at h
 rw [<- h]
 simp [isFix, hs]
theorem digB_prev {i : Nat} {tp : Tk} (h : body[i]? = some tp) (h1 : isT tp [98, 105, 110] = false) (h2 : isT tp [46, 46] = false) : digB body (i + 1) = false := by
 unfold digB
 rw [show i + 1 - 1 = i from by omega, tkAt_of h, h1, h2]
 simp
theorem digB_dots {i : Nat} {tp tq : Tk} (h : body[i + 2]? = some tp) (hq : body[i]? = some tq) (h1 : isT tp [98, 105, 110] = false) (h2 : isT tq [98, 105, 110] = false) : digB body (i + 3) = false := by
 unfold digB
 rw [show i + 3 - 1 = i + 2 from by omega, show i + 3 - 3 = i from by omega, tkAt_of h, tkAt_of hq, h1, h2]
 simp
theorem digB_bin {i : Nat} {tp : Tk} (h : body[i]? = some tp) (h1 : isT tp [98, 105, 110] = true) : digB body (i + 1) = true := by
 unfold digB
 rw [show i + 1 - 1 = i from by omega, tkAt_of h, h1]
 simp
theorem digB_bin3 {i : Nat} {tp tq : Tk} (h : body[i + 2]? = some tp) (hq : body[i]? = some tq) (h1 : isT tp [46, 46] = true) (h2 : isT tq [98, 105, 110] = true) : digB body (i + 3) = true := by
 unfold digB
 rw [show i + 3 - 1 = i + 2 from by omega, show i + 3 - 3 = i from by omega, tkAt_of h, tkAt_of hq, h1, h2]
 simp
theorem shown_plain {i : Nat} {t : Tk} (h : body[i]? = some t) (hs : t.sort ≠ 1) : shown body i = txtT t := by
 unfold shown
 rw [tkAt_of h, show decide (t.sort = 1) = false from by simpa using hs]
 rfl
theorem shown_kw {i : Nat} {t : Tk} {a : Bs} (h : body[i]? = some t) (hs : t.sort = 2) (hk : (t.text.toList == a) = true) : shown body i = a := by
 rw [shown_plain h (by omega)]
 have e : t.text.toList = a := by simpa using hk
 rw [ByteArray.toList_eq] at e
 exact e
theorem shown_dec {i : Nat} {t : Tk} (h : body[i]? = some t) (hs : t.sort = 1) (hd : Dg t.text) (h1 : 1 <= t.text.size) (hb : digB body i = false) : shown body i = decT t := by
 unfold shown
 rw [tkAt_of h, hb, show decide (t.sort = 1) = true from by simpa using hs]
 exact short_val t hd h1
theorem shown_all {i : Nat} {t : Tk} (h : body[i]? = some t) (hb : digB body i = true) : shown body i = txtT t := by
 unfold shown
 rw [tkAt_of h, hb]
 simp [txtT]
end
/-! ### Blanks -/
def Word (s : Bs) : Prop := tightB s = false
end Go.Proofs.YtccikgogjfbpeabGreatDoor

namespace Go.Proofs.YtccikgogjfbpeabGreatDoor
structure BOk (body : List Tk) : Prop where
 lit : ∀ t, t ∈ body -> LitTk t
 ns : ∀ t, t ∈ body -> t.sort ≠ 3
 dg : ∀ t, t ∈ body -> t.sort = 1 -> Dg t.text /\ 1 <= t.text.size
section
variable {body : List Tk} {en : Tk}
theorem moreS_length (sh : Tk -> Bs) (l : List Tk) : (moreS sh l).length = 2 * l.length := by
 induction l with
 | nil => rfl
 | cons t r ih =>
  have e : moreS sh (t :: r) = [[44], sh t] ++ moreS sh r := by simp [moreS]
  rw [e, List.length_append, ih]
  simp
  omega
theorem int_shown (hB : BOk body) {i : Nat} {t : Tk} (h : body[i]? = some t) (hs : t.sort = 1) (hb : digB body i = false) : shown body i = decT t := by
 have hd := hB.dg t (List.mem_of_getElem? h) hs
 exact shown_dec h hs hd.1 hd.2 hb
theorem seg_rest (he : en.sort = 3) {want : Nat} (hw : want ≠ 3) (sh : Tk -> Bs) (hsh : ∀ i t tc, body[i]? = some tc -> (tc.text.toList == [44]) = true -> body[i + 1]? = some t -> t.sort = want -> shown body (i + 1) = sh t) :
  ∀ (m i : Nat) (acc l : List Tk) (k : Nat), (body ++ [en]).length - i = m -> restM (body ++ [en]) i want acc = .ok (l, k) -> ∃ r, l = acc ++ r /\ Seg body i (moreS sh r) /\ k = i + 2 * r.length := by
 intro m
 induction m using Nat.strongRecOn with
 | ind m ih =>
  intro i acc l k hm hr
  rw [restM] at hr
  split at hr
  ·rename_i hq
   have hlt := isFix_lt hq
   split at hr
   ·cases hr
   ·rename_i t i' ht
    obtain ⟨h1, h2, h3⟩ := take_at he hw ht
    obtain ⟨r, e1, e2, e4⟩ := ih ((body ++ [en]).length - i') (by omega) i' _ l k rfl hr
    obtain ⟨tc, c1, c2, c3⟩ := fix_at he hq
    refine ⟨t :: r, by rw [e1, List.append_assoc]; rfl, ?_, by simp only [List.length_cons]; omega⟩
    have e : moreS sh (t :: r) = [44] :: sh t :: moreS sh r := by simp [moreS]
    rw [e]
    refine Seg.cons (shown_kw c1 c3 c2) (Seg.cons (hsh i t tc c1 c2 h1 h2) ?_)
    rw [h3] at e2
    exact e2
  ·injection hr with hr
   injection hr with h1 h2
   subst h1 h2
   exact ⟨[], by simp, Seg.nil _ _, by simp⟩
theorem sh_int (hB : BOk body) : ∀ i t tc, body[i]? = some tc -> (tc.text.toList == [44]) = true -> body[i + 1]? = some t -> t.sort = 1 -> shown body (i + 1) = decT t := fun _ _ _ h1 h2 h3 h4 => int_shown hB h3 h4 (digB_prev h1 (isT_other h2 (by decide)) (isT_other h2 (by decide)))
theorem sh_name : ∀ i t tc, body[i]? = some tc -> (tc.text.toList == [44]) = true -> body[i + 1]? = some t -> t.sort = 0 -> shown body (i + 1) = txtT t := fun _ _ _ _ _ h3 h4 => shown_plain h3 (by omega)
theorem seg_list (he : en.sort = 3) {want : Nat} (hw : want ≠ 3) (sh : Tk -> Bs) (hsh : ∀ i t tc, body[i]? = some tc -> (tc.text.toList == [44]) = true -> body[i + 1]? = some t -> t.sort = want -> shown body (i + 1) = sh t) {i : Nat} {l : List Tk} {k : Nat}
  (h0 : ∀ t, body[i]? = some t -> t.sort = want -> shown body i = sh t) (h : listM (body ++ [en]) i want = .ok (l, k)) : Seg body i (listS sh l) /\ k = i + (listS sh l).length /\ l ≠ [] := by
 unfold listM at h
 split at h
 ·cases h
 ·rename_i t i1 ht
  obtain ⟨h1, h2, h3⟩ := take_at he hw ht
  obtain ⟨r, e1, e2, e4⟩ := seg_rest he hw sh hsh _ i1 [t] l k rfl h
  have el : l = t :: r := e1
  subst el
  rw [h3] at e2
  refine ⟨Seg.cons (h0 t h1 h2) e2, ?_, by simp⟩
  simp only [listS, List.length_cons, moreS_length]
  omega
theorem seg_optList (he : en.sort = 3) (hB : BOk body) {i : Nat} {kw : ByteArray} (h1 : (kw.data.toList == [98, 105, 110]) = false) (h2 : (kw.data.toList == [46, 46]) = false) {l : List Tk} {k : Nat} (h : optList (body ++ [en]) i kw = .ok (l, k)) : Seg body i (guardS kw.data.toList l) /\ k = i + (guardS kw.data.toList l).length := by
 unfold optList at h
 split at h
 ·rename_i hf
  obtain ⟨t, a1, a2, a3⟩ := fix_at he hf
  obtain ⟨s1, s2, s3⟩ := seg_list he (by decide) decT (sh_int hB) (i := i + 1) (fun t' b1 b2 => int_shown hB b1 b2 (digB_prev a1 (isT_other a2 h1) (isT_other a2 h2))) h
  have e : guardS kw.data.toList l = kw.data.toList :: listS decT l := by simp [guardS, s3]
  rw [e]
  exact ⟨Seg.cons (shown_kw a1 a3 a2) s1, by simp only [List.length_cons]; omega⟩
 ·injection h with h
  injection h with h1 h2
  subst h1 h2
  exact ⟨Seg.nil _ _, by simp [guardS]⟩
theorem seg_optPair (he : en.sort = 3) (hB : BOk body) {i : Nat} {o : Option (Tk × Tk)} {k : Nat} (h : optPair (body ++ [en]) i kwAmount = .ok (o, k)) : Seg body i (amS o) /\ k = i + (amS o).length := by
 unfold optPair at h
 split at h
 ·rename_i hf
  obtain ⟨t, a1, a2, a3⟩ := fix_at he hf
  obtain ⟨ab, j, hp, e⟩ := bindM_inv h
  injection e with e
  injection e with e1 e2
  subst e1 e2
  rw [pairM_bind] at hp
  obtain ⟨a, j1, g1, hp⟩ := bindM_inv hp
  obtain ⟨_, j2, g2, hp⟩ := bindM_inv hp
  obtain ⟨b, j3, g3, hp⟩ := bindM_inv hp
  injection hp with hp
  injection hp with hp1 hp2
  obtain ⟨x1, x2, x3⟩ := take_at he (by decide) g1
  obtain ⟨⟨td, d1, d2, d3⟩, x4⟩ := expect_at he g2
  obtain ⟨y1, y2, y3⟩ := take_at he (by decide) g3
  subst hp1
  rw [x3] at d1
  have k2 : j2 = i + 3 := by omega
  rw [k2] at y1
  have d1' : body[i + 2]? = some td := d1
  refine ⟨Seg.cons (shown_kw a1 a3 a2) (Seg.cons (int_shown hB x1 x2 (digB_prev a1 (isT_other a2 (by decide)) (isT_other a2 (by decide)))) (Seg.cons (shown_kw d1' d3 d2) (Seg.one (int_shown hB y1 y2 (digB_dots d1' a1 (isT_other d2 (by decide)) (isT_other a2 (by decide))))))), by simp only [amS, List.length_cons, List.length_nil]; omega⟩
 ·injection h with h
  injection h with h1 h2
  subst h1 h2
  exact ⟨Seg.nil _ _, by simp [amS]⟩
theorem seg_action (he : en.sort = 3) {i : Nat} {a : ActE} {k : Nat} (h : actionM (body ++ [en]) i = .ok (a, k)) : Seg body i (actS a) /\ k = i + (actS a).length := by
 unfold actionM at h
 split at h
 ·rename_i hf
  obtain ⟨t, a1, a2, a3⟩ := fix_at he hf
  injection h with h
  injection h with e1 e2
  subst e1 e2
  exact ⟨Seg.one (shown_kw a1 a3 a2), rfl⟩
 ·split at h
  ·rename_i hf
   obtain ⟨t, a1, a2, a3⟩ := fix_at he hf
   obtain ⟨l, j, g, e⟩ := bindM_inv h
   injection e with e
   injection e with e1 e2
   subst e1 e2
   obtain ⟨s1, s2, _⟩ := seg_list he (by decide) txtT sh_name (i := i + 1) (fun t' b1 b2 => shown_plain b1 (by omega)) g
   exact ⟨Seg.cons (shown_kw a1 a3 a2) s1, by simp [actS]; omega⟩
  ·obtain ⟨l, j, g, e⟩ := bindM_inv h
   injection e with e
   injection e with e1 e2
   subst e1 e2
   obtain ⟨s1, s2, _⟩ := seg_list he (by decide) txtT sh_name (i := i) (fun t' b1 b2 => shown_plain b1 (by omega)) g
   exact ⟨s1, by simpa [actS] using s2⟩
theorem plain_no (hB : BOk body) {i : Nat} {t : Tk} (h : body[i]? = some t) (hs : t.sort ≠ 2) : isT t [98, 105, 110] = false /\ isT t [46, 46] = false :=
 ⟨isT_plain (hB.lit t (List.mem_of_getElem? h)) hs (m := kwBin) (by simp [lits]), isT_plain (hB.lit t (List.mem_of_getElem? h)) hs (m := mDots) (by simp [lits])⟩
theorem seg_route (he : en.sort = 3) (hB : BOk body) {i : Nat} {r : RouteE} {k : Nat} (h : routeM (body ++ [en]) i = .ok (r, k)) : Seg body i [txtT r.name, decT r.base, decT r.rate] /\ k = i + 3 := by
 unfold routeM at h
 obtain ⟨a, j1, g1, h⟩ := bindM_inv h
 obtain ⟨b, j2, g2, h⟩ := bindM_inv h
 obtain ⟨c, j3, g3, h⟩ := bindM_inv h
 injection h with h
 injection h with e1 e2
 subst e1 e2
 obtain ⟨a1, a2, a3⟩ := take_at he (by decide) g1
 obtain ⟨b1, b2, b3⟩ := take_at he (by decide) g2
 obtain ⟨c1, c2, c3⟩ := take_at he (by decide) g3
 subst a3
 subst b3
 have n1 := plain_no hB a1 (by rw [a2]; decide)
 have n2 := plain_no hB b1 (by rw [b2]; decide)
 exact ⟨Seg.cons (shown_plain a1 (by rw [a2]; decide)) (Seg.cons (int_shown hB b1 b2 (digB_prev a1 n1.1 n1.2)) (Seg.one (int_shown hB c1 c2 (digB_prev b1 n2.1 n2.2)))), by omega⟩
theorem seg_rule (he : en.sort = 3) (hB : BOk body) {i : Nat} {r : RuleE} {k : Nat} (h : ruleM (body ++ [en]) i = .ok (r, k)) :
  Seg body i ([txtT r.name, decT r.rank, [58], [98, 105, 110], txtT r.bin.1, [46, 46], txtT r.bin.2] ++ (guardS [109, 99, 99] r.mcc ++ (amS r.amount ++ (guardS [99, 117, 114] r.cur ++ ([45, 62] :: actS r.act))))) /\
   k = i + ([txtT r.name, decT r.rank, [58], [98, 105, 110], txtT r.bin.1, [46, 46], txtT r.bin.2] ++ (guardS [109, 99, 99] r.mcc ++ (amS r.amount ++ (guardS [99, 117, 114] r.cur ++ ([45, 62] :: actS r.act))))).length := by
 unfold ruleM at h
 obtain ⟨nm, j1, g1, h⟩ := bindM_inv h
 obtain ⟨rk, j2, g2, h⟩ := bindM_inv h
 obtain ⟨_, j3, g3, h⟩ := bindM_inv h
 obtain ⟨_, j4, g4, h⟩ := bindM_inv h
 obtain ⟨bn, j5, g5, h⟩ := bindM_inv h
 obtain ⟨mc, j6, g6, h⟩ := bindM_inv h
 obtain ⟨am, j7, g7, h⟩ := bindM_inv h
 obtain ⟨cu, j8, g8, h⟩ := bindM_inv h
 obtain ⟨_, j9, g9, h⟩ := bindM_inv h
 obtain ⟨ac, j10, g10, h⟩ := bindM_inv h
 injection h with h
 injection h with e1 e2
 subst e1 e2
 obtain ⟨a1, a2, a3⟩ := take_at he (by decide) g1
 obtain ⟨b1, b2, b3⟩ := take_at he (by decide) g2
 obtain ⟨⟨tc, c1, c2, c4⟩, c3⟩ := expect_at he g3
 obtain ⟨⟨tb, d1, d2, d4⟩, d3⟩ := expect_at he g4
 rw [pairM_bind] at g5
 obtain ⟨p1, q1, x1, g5⟩ := bindM_inv g5
 obtain ⟨_, q2, x2, g5⟩ := bindM_inv g5
 obtain ⟨p2, q3, x3, g5⟩ := bindM_inv g5
 injection g5 with g5
 injection g5 with f1 f2
 obtain ⟨y1, y2, y3⟩ := take_at he (by decide) x1
 obtain ⟨⟨td, z1, z2, z4⟩, z3⟩ := expect_at he x2
 obtain ⟨u1, u2, u3⟩ := take_at he (by decide) x3
 obtain ⟨s6, l6⟩ := seg_optList he hB (kw := kwMcc) (by decide) (by decide) g6
 obtain ⟨s7, l7⟩ := seg_optPair he hB g7
 obtain ⟨s8, l8⟩ := seg_optList he hB (kw := kwCur) (by decide) (by decide) g8
 obtain ⟨⟨ta, t1, t2, t4⟩, t3⟩ := expect_at he g9
 obtain ⟨s10, l10⟩ := seg_action he g10
 subst f1
 subst a3 b3 c3 d3 y3 z3 u3 f2
 have n1 := plain_no hB a1 (by rw [a2]; decide)
 have z1' : body[i + 5]? = some td := z1
 have hd : shown body (i + 6) = txtT p2 := by
  refine shown_all u1 ?_
  exact digB_bin3 (i := i + 3) z1' d1 (isT_same z2) (isT_same d2)
 rw [t3] at s10
 refine ⟨Seg.append ?_ (Seg.append s6 ?_), ?_⟩
 ·exact Seg.cons (shown_plain a1 (by rw [a2]; decide)) (Seg.cons (int_shown hB b1 b2 (digB_prev a1 n1.1 n1.2)) (Seg.cons (shown_kw c1 c4 c2) (Seg.cons (shown_kw d1 d4 d2) (Seg.cons (shown_all y1 (digB_bin d1 (isT_same d2))) (Seg.cons (shown_kw z1 z4 z2) (Seg.one hd))))))
 ·have e6 : i + 1 + 1 + 1 + 1 + 1 + 1 + 1 + (guardS kwMcc.data.toList mc).length = j6 := l6.symm
  show Seg body (i + 1 + 1 + 1 + 1 + 1 + 1 + 1 + (guardS kwMcc.data.toList mc).length) _
  rw [e6]
  refine Seg.append s7 ?_
  rw [<- l7]
  refine Seg.append s8 ?_
  have e8 : j7 + (guardS [99, 117, 114] cu).length = j8 := l8.symm
  show Seg body (j7 + (guardS [99, 117, 114] cu).length) _
  rw [e8]
  exact Seg.cons (shown_kw t1 t4 t2) s10
 ·simp only [List.length_append, List.length_cons, List.length_nil]
  have e6 : j6 = i + 1 + 1 + 1 + 1 + 1 + 1 + 1 + (guardS [109, 99, 99] mc).length := l6
  have e8 : j8 = j7 + (guardS [99, 117, 114] cu).length := l8
  omega
end
end Go.Proofs.YtccikgogjfbpeabGreatDoor

namespace Go.Proofs.YtccikgogjfbpeabGreatDoor
section
variable {body : List Tk} {en : Tk}
theorem entS_rule (r : RuleE) : entS (.rule r) = [114, 117, 108, 101] :: (([txtT r.name, decT r.rank, [58], [98, 105, 110], txtT r.bin.1, [46, 46], txtT r.bin.2] ++ (guardS [109, 99, 99] r.mcc ++ (amS r.amount ++ (guardS [99, 117, 114] r.cur ++ ([45, 62] :: actS r.act))))) ++ [[59]]) := by
 simp [entS]
theorem seg_entry (he : en.sort = 3) (hB : BOk body) {i : Nat} {e : EntE} {j k : Nat} {u : Unit} (h : entryM (body ++ [en]) i = .ok (e, j)) (hx : expectM (body ++ [en]) j mSemi = .ok (u, k)) : Seg body i (entS e) /\ k = i + (entS e).length /\ k <= body.length := by
 obtain ⟨⟨tq, q1, q2, q4⟩, q3⟩ := expect_at he hx
 have hk : k <= body.length := by have := (List.getElem?_eq_some_iff.1 q1).1; omega
 have hsemi : shown body j = [59] := shown_kw q1 q4 q2
 unfold entryM at h
 split at h
 ·rename_i hf
  obtain ⟨t, a1, a2, a3⟩ := fix_at he hf
  obtain ⟨r, j', g, e1⟩ := bindM_inv h
  injection e1 with e1
  injection e1 with e2 e3
  subst e2 e3
  obtain ⟨s1, s2⟩ := seg_route he hB g
  refine ⟨?_, by simp only [entS, List.length_cons, List.length_nil]; omega, hk⟩
  show Seg body i ([114, 111, 117, 116, 101] :: ([txtT r.name, decT r.base, decT r.rate] ++ [[59]]))
  refine Seg.cons (shown_kw a1 a3 a2) (Seg.append s1 (Seg.one ?_))
  show shown body (i + 1 + 3) = _
  rw [<- s2]
  exact hsemi
 ·obtain ⟨_, j1, g1, h⟩ := bindM_inv h
  obtain ⟨r, j2, g2, h⟩ := bindM_inv h
  injection h with h
  injection h with e2 e3
  subst e2 e3
  obtain ⟨⟨t, a1, a2, a3⟩, a4⟩ := expect_at he g1
  subst a4
  obtain ⟨s1, s2⟩ := seg_rule he hB g2
  rw [entS_rule]
  refine ⟨Seg.cons (shown_kw a1 a3 a2) (Seg.append s1 (Seg.one ?_)), ?_, hk⟩
  ·rw [<- s2]; exact hsemi
  ·simp only [List.length_cons, List.length_append, List.length_nil] at s2 ⊢
   omega
end
/-! ### Blanks -/
theorem txt_word {t : Tk} (hl : LitTk t) (hs : t.sort ≠ 2) : Word (txtT t) := by
 have h : ∀ m, m ∈ lits -> (txtT t == m.data.toList) = false := fun m hm => by
  have := isT_plain hl hs hm
  unfold isT at this
  rw [ByteArray.toList_eq] at this
  exact this
 unfold Word tightB
 have h1 := h mSemi (by simp [lits])
 have h2 := h mComma (by simp [lits])
 have h3 := h mColon (by simp [lits])
 have h4 := h mDots (by simp [lits])
 have e1 : (txtT t == [59]) = false := h1
 have e2 : (txtT t == [44]) = false := h2
 have e3 : (txtT t == [58]) = false := h3
 have e4 : (txtT t == [46, 46]) = false := h4
 rw [e1, e2, e3, e4]
 rfl
def commaJ (sh : Tk -> Bs) : List Tk -> Bs
 | [] => []
 | t :: r => sh t ++ r.flatMap fun u => 44 :: 32 :: sh u
def guardJ (kw : Bs) (l : List Tk) : Bs := if l = [] then [] else 32 :: (kw ++ 32 :: commaJ decT l)
def amJ : Option (Tk × Tk) -> Bs
 | none => []
 | some ab => [32, 97, 109, 111, 117, 110, 116, 32] ++ (decT ab.1 ++ (46 :: 46 :: decT ab.2))
def actJ (a : ActE) : Bs := if a.decline then [32, 100, 101, 99, 108, 105, 110, 101] else (if a.cheapest then [32, 99, 104, 101, 97, 112, 101, 115, 116] else []) ++ 32 :: commaJ txtT a.routes
def entJ : EntE -> Bs
 | .route r => [114, 111, 117, 116, 101, 32] ++ (txtT r.name ++ (32 :: (decT r.base ++ (32 :: (decT r.rate ++ [59, 10])))))
 | .rule r => [114, 117, 108, 101, 32] ++ (txtT r.name ++ (32 :: (decT r.rank ++ (58 :: ([32, 98, 105, 110, 32] ++ (txtT r.bin.1 ++ (46 :: 46 :: (txtT r.bin.2 ++ (guardJ [109, 99, 99] r.mcc ++ (amJ r.amount ++ (guardJ [99, 117, 114] r.cur ++ ([32, 45, 62] ++ (actJ r.act ++ [59, 10])))))))))))))
def EntW : EntE -> Prop
 | .route r => Word (txtT r.name)
 | .rule r => Word (txtT r.name) /\ Word (txtT r.bin.1) /\ Word (txtT r.bin.2) /\ (r.act.decline = false -> r.act.routes ≠ []) /\ ∀ t, t ∈ r.act.routes -> Word (txtT t)
end Go.Proofs.YtccikgogjfbpeabGreatDoor
