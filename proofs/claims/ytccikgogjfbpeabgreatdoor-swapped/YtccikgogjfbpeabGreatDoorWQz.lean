/- The plain text of the book is that of the entries; plain. Both plain texts of a text are one; plain. Where the entries of a text stand; plain. -/
import Derived.Test.YtccikgogjfbpeabGreatDoorWQw
import Derived.Test.YtccikgogjfbpeabGreatDoorWQk
namespace Go.Proofs.YtccikgogjfbpeabGreatDoor
def decN (n : Nat) : Bs := Lib.decDigits n
def nameAt (rts : List RouteM) (p : Nat) : Bs := ((rts[p]?).map fun x => x.name.data.toList).getD []
theorem place_get (nm : ByteArray) : ∀ (l : List RouteM) (i : Nat), 0 <= placeFrom nm i l -> ∃ x, l[(placeFrom nm i l).toNat - i]? = some x /\ x.name.data.toList = nm.data.toList /\ i <= (placeFrom nm i l).toNat /\ (placeFrom nm i l).toNat < i + l.length
 | [], i, h => by simp [placeFrom] at h
 | y :: r, i, h => by
  simp only [placeFrom] at h ⊢
  by_cases hq : (y.name.toList == nm.toList) = true
  ·rw [if_pos hq]
   have e : y.name.toList = nm.toList := by simpa using hq
   rw [ByteArray.toList_eq, ByteArray.toList_eq] at e
   exact ⟨y, by simp, e, by simp, by simp⟩
  ·rw [if_neg hq] at h ⊢
   obtain ⟨x, h1, h2, h3, h4⟩ := place_get nm r (i + 1) h
   refine ⟨x, ?_, h2, by omega, by simp only [List.length_cons]; omega⟩
   rw [show (placeFrom nm (i + 1) r).toNat - i = ((placeFrom nm (i + 1) r).toNat - (i + 1)) + 1 from by omega]
   simpa using h1
theorem pls_names (rts : List RouteM) : ∀ (l : List Tk) (i : Nat) (ps : List Nat), plsFrom rts i l = .ok ps -> ps.map (nameAt rts) = l.map txtT /\ ∀ p, p ∈ ps -> p < rts.length
 | [], i, ps, h => by simp [plsFrom] at h; subst h; simp
 | t :: r, i, ps, h => by
  simp only [plsFrom] at h
  by_cases h4 : i = 4
  ·rw [if_pos h4] at h; cases h
  rw [if_neg h4] at h
  by_cases hv : placeFrom t.text 0 rts < 0
  ·rw [if_pos hv] at h; cases h
  rw [if_neg hv] at h
  cases hq : plsFrom rts (i + 1) r with
  | error f => rw [hq] at h; cases h
  | ok qs =>
   rw [hq] at h
   injection h with h
   subst h
   obtain ⟨e1, e2⟩ := pls_names rts r (i + 1) qs hq
   obtain ⟨x, h1, h2, _, h5⟩ := place_get t.text rts 0 (by omega)
   rw [Nat.sub_zero] at h1
   refine ⟨?_, fun p hp => ?_⟩
   ·rw [List.map_cons, List.map_cons, e1]
    congr 1
    unfold nameAt
    rw [h1]
    exact h2
   ·rcases List.mem_cons.1 hp with hp | hp
    ·rw [hp]; omega
    ·exact e2 p hp
def EntB : EntE -> Prop
 | .route _ => True
 | .rule r => 1 <= r.bin.1.text.size /\ 1 <= r.bin.2.text.size
end Go.Proofs.YtccikgogjfbpeabGreatDoor

namespace Go.Proofs.YtccikgogjfbpeabGreatDoor
section
variable {body : List Tk} {en : Tk}
theorem rest_all (he : en.sort = 3) {want : Nat} (hw : want ≠ 3) {Q : Tk -> Prop} (hQ : ∀ t, t ∈ body -> t.sort = want -> Q t) : ∀ (m i : Nat) (acc l : List Tk) (k : Nat), (body ++ [en]).length - i = m -> (∀ t, t ∈ acc -> Q t) -> restM (body ++ [en]) i want acc = .ok (l, k) -> ∀ t, t ∈ l -> Q t := by
 intro m
 induction m using Nat.strongRecOn with
 | ind m ih =>
  intro i acc l k hm ha hr
  rw [restM] at hr
  split at hr
  ·rename_i hq
   have hlt := isFix_lt hq
   split at hr
   ·cases hr
   ·rename_i t i' ht
    obtain ⟨h1, h2, h3⟩ := take_at he hw ht
    refine ih ((body ++ [en]).length - i') (by omega) i' _ l k rfl (fun u hu => ?_) hr
    rcases List.mem_append.1 hu with hu | hu
    ·exact ha u hu
    ·simp at hu; subst hu; exact hQ u (List.mem_of_getElem? h1) h2
  ·injection hr with hr
   injection hr with h1 h2
   subst h1
   exact ha
theorem list_all (he : en.sort = 3) {want : Nat} (hw : want ≠ 3) {Q : Tk -> Prop} (hQ : ∀ t, t ∈ body -> t.sort = want -> Q t) {i : Nat} {l : List Tk} {k : Nat} (h : listM (body ++ [en]) i want = .ok (l, k)) : (∀ t, t ∈ l -> Q t) /\ l ≠ [] := by
 unfold listM at h
 split at h
 ·cases h
 ·rename_i t i1 ht
  obtain ⟨h1, h2, _⟩ := take_at he hw ht
  refine ⟨rest_all he hw hQ _ i1 [t] l k rfl (fun u hu => by simp at hu; subst hu; exact hQ u (List.mem_of_getElem? h1) h2) h, ?_⟩
  obtain ⟨r, e1, _⟩ := rest_at he hw _ i1 [t] l k rfl h
  rw [e1]
  simp
theorem entry_w (he : en.sort = 3) (hB : BOk body) {i : Nat} {e : EntE} {k : Nat} (h : entryM (body ++ [en]) i = .ok (e, k)) : EntW e /\ EntB e := by
 have hw : ∀ t, t ∈ body -> t.sort ≠ 2 -> Word (txtT t) := fun t ht hs => txt_word (hB.lit t ht) hs
 unfold entryM at h
 split at h
 ·obtain ⟨r, j, g, e1⟩ := bindM_inv h
  injection e1 with e1
  injection e1 with e2 _
  subst e2
  unfold routeM at g
  obtain ⟨a, j1, g1, g⟩ := bindM_inv g
  obtain ⟨b, j2, g2, g⟩ := bindM_inv g
  obtain ⟨c, j3, g3, g⟩ := bindM_inv g
  injection g with g
  injection g with g _
  subst g
  obtain ⟨a1, a2, _⟩ := take_at he (by decide) g1
  exact ⟨hw a (List.mem_of_getElem? a1) (by rw [a2]; decide), trivial⟩
 ·obtain ⟨_, j1, g1, h⟩ := bindM_inv h
  obtain ⟨r, j2, g2, h⟩ := bindM_inv h
  injection h with h
  injection h with e2 _
  subst e2
  unfold ruleM at g2
  obtain ⟨nm, k1, a1, g2⟩ := bindM_inv g2
  obtain ⟨rk, k2, a2, g2⟩ := bindM_inv g2
  obtain ⟨_, k3, a3, g2⟩ := bindM_inv g2
  obtain ⟨_, k4, a4, g2⟩ := bindM_inv g2
  obtain ⟨bn, k5, a5, g2⟩ := bindM_inv g2
  obtain ⟨mc, k6, a6, g2⟩ := bindM_inv g2
  obtain ⟨am, k7, a7, g2⟩ := bindM_inv g2
  obtain ⟨cu, k8, a8, g2⟩ := bindM_inv g2
  obtain ⟨_, k9, a9, g2⟩ := bindM_inv g2
  obtain ⟨ac, k10, a10, g2⟩ := bindM_inv g2
  injection g2 with g2
  injection g2 with g2 _
  subst g2
  obtain ⟨n1, n2, _⟩ := take_at he (by decide) a1
  rw [pairM_bind] at a5
  obtain ⟨p1, q1, x1, a5⟩ := bindM_inv a5
  obtain ⟨_, q2, x2, a5⟩ := bindM_inv a5
  obtain ⟨p2, q3, x3, a5⟩ := bindM_inv a5
  injection a5 with a5
  injection a5 with a5 _
  subst a5
  obtain ⟨y1, y2, _⟩ := take_at he (by decide) x1
  obtain ⟨z1, z2, _⟩ := take_at he (by decide) x3
  have hac : (ac.decline = false -> ac.routes ≠ []) /\ ∀ t, t ∈ ac.routes -> Word (txtT t) := by
   have hn : ∀ t, t ∈ body -> t.sort = 0 -> Word (txtT t) := fun t ht hs => hw t ht (by rw [hs]; decide)
   unfold actionM at a10
   split at a10
   ·injection a10 with a10
    injection a10 with a10 _
    subst a10
    exact ⟨fun h => by simp at h, fun t ht => by simp at ht⟩
   ·split at a10
    ·obtain ⟨l, j, g, e⟩ := bindM_inv a10
     injection e with e
     injection e with e _
     subst e
     obtain ⟨h1, h2⟩ := list_all he (by decide) hn g
     exact ⟨fun _ => h2, h1⟩
    ·obtain ⟨l, j, g, e⟩ := bindM_inv a10
     injection e with e
     injection e with e _
     subst e
     obtain ⟨h1, h2⟩ := list_all he (by decide) hn g
     exact ⟨fun _ => h2, h1⟩
  have m1 := List.mem_of_getElem? y1
  have m2 := List.mem_of_getElem? z1
  exact ⟨⟨hw nm (List.mem_of_getElem? n1) (by rw [n2]; decide), hw p1 m1 (by rw [y2]; decide), hw p2 m2 (by rw [z2]; decide), hac.1, hac.2⟩, (hB.dg p1 m1 y2).2, (hB.dg p2 m2 z2).2⟩
theorem parse_w (he : en.sort = 3) (hB : BOk body) : ∀ (m i : Nat) (acc xs : List EntE) (k : Nat), (body ++ [en]).length - i = m -> (∀ x, x ∈ acc -> EntW x /\ EntB x) -> parseFrom (body ++ [en]) i acc = .ok (xs, k) -> ∀ x, x ∈ xs -> EntW x /\ EntB x := by
 intro m
 induction m using Nat.strongRecOn with
 | ind m ih =>
  intro i acc xs k hm ha hp
  by_cases hs : (tkAt (body ++ [en]) i).sort = 3
  ·rw [parseFrom_end hs] at hp
   injection hp with hp; injection hp with hp _; subst hp
   exact ha
  ·cases he' : entryM (body ++ [en]) i with
   | error l => rw [parseFrom_err1 hs he'] at hp; cases hp
   | ok r =>
    obtain ⟨e, j⟩ := r
    cases hx : expectM (body ++ [en]) j mSemi with
    | error l => rw [parseFrom_err2 hs he' hx] at hp; cases hp
    | ok r =>
     obtain ⟨u, k2⟩ := r
     rw [parseFrom_ok hs he' hx] at hp
     have h1 := entryM_lt he'
     have h2 := expectM_ok hx
     obtain ⟨_, _, s3⟩ := seg_entry he hB he' hx
     refine ih ((body ++ [en]).length - k2) (by simp only [List.length_append, List.length_cons, List.length_nil] at hm ⊢; omega) k2 _ xs k rfl (fun x hx => ?_) hp
     rcases List.mem_append.1 hx with hx | hx
     ·exact ha x hx
     ·simp at hx; subst hx; exact entry_w he hB he'
end
theorem lex_body {s : ByteArray} {ts : List Tk} (h : lexFrom s 0 1 [] = .ok ts) : ∃ body, ts = body ++ [⟨3, ByteArray.empty, 1 + nls s.data.toList⟩] /\ BOk body /\ (∀ t, t ∈ body -> TkLit t /\ TkOk s.size t) := by
 obtain ⟨body, e, hl⟩ := lexFrom_lit _ 0 1 [] ts rfl (fun t ht => by simp at ht) h
 have ha := (lexFrom_all _ 0 1 [] ts rfl (fun t ht => by simp at ht) h).1
 rw [List.drop_zero] at e
 refine ⟨body, e, ⟨fun t ht => (hl t ht).1, fun t ht => (hl t ht).2.2.1, fun t ht hs => ⟨(ha t (by rw [e]; simp [ht])).1 hs, (hl t ht).2.1 hs⟩⟩, fun t ht => ⟨hl t ht, ha t (by rw [e]; simp [ht])⟩⟩
end Go.Proofs.YtccikgogjfbpeabGreatDoor

namespace Go.Proofs.YtccikgogjfbpeabGreatDoor
section
variable {body : List Tk} {en : Tk}
end
theorem lexFrom_len {s : ByteArray} : ∀ (n k line : Nat) (acc ts : List Tk), s.size - k = n -> k <= s.size -> lexFrom s k line acc = .ok ts -> ts.length <= acc.length + (s.size - k) + 1 := by
 intro n
 induction n using Nat.strongRecOn with
 | ind n ih =>
  intro k line acc ts hn hks h
  by_cases hk : k < s.size
  ·cases hL : lexStep s k line with
   | skip k' l' =>
    rw [lexFrom_skip hk hL] at h
    have := lexStep_skip hk hL
    have := ih (s.size - k') (by omega) k' l' acc ts rfl (by omega) h
    omega
   | tok t k' =>
    rw [lexFrom_tok hk hL] at h
    have := lexStep_tok hk hL
    have := ih (s.size - k') (by omega) k' line (acc ++ [t]) ts rfl (by omega) h
    simp only [List.length_append, List.length_cons, List.length_nil] at this
    omega
   | bad => rw [lexFrom_bad hk hL] at h; cases h
  ·rw [lexFrom_end hk] at h
   injection h with h
   subst h
   simp
end Go.Proofs.YtccikgogjfbpeabGreatDoor
