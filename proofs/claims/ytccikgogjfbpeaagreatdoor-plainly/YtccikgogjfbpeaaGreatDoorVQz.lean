/- The plain text of the book is that of the entries; plain. Both plain texts of a text are one; plain. Where the entries of a text stand; plain. -/
import Derived.Test.YtccikgogjfbpeaaGreatDoorVQy
import Derived.Test.YtccikgogjfbpeaaGreatDoorVQk
namespace Go.Proofs.YtccikgogjfbpeaaGreatDoor

def decN (n : Nat) : Bs := Lib.decDigits n
def padL (n digits : Nat) : Bs := List.replicate (digits - (decN n).length) 48 ++ decN n
def commaN : List Bs → Bs
 | [] => []
 | x :: r => x ++ r.flatMap fun u => 44 :: 32 :: u
def gJ (kw : Bs) (l : List Nat) : Bs := if l = [] then [] else 32 :: (kw ++ 32 :: commaN (l.map decN))
def aJ : Option (Nat × Nat) → Bs
 | none => []
 | some ab => [32, 97, 109, 111, 117, 110, 116, 32] ++ (decN ab.1 ++ (46 :: 46 :: decN ab.2))
def nameAt (rts : List RouteM) (p : Nat) : Bs := ((rts[p]?).map fun x => x.name.data.toList).getD []
def acJ (rts : List RouteM) (r : RuleM) : Bs := if r.decline then [32, 100, 101, 99, 108, 105, 110, 101] else (if r.cheapest then [32, 99, 104, 101, 97, 112, 101, 115, 116] else []) ++ 32 :: commaN (r.routes.map (nameAt rts))
def plRt (r : RouteM) : Bs := [114, 111, 117, 116, 101, 32] ++ (r.name.data.toList ++ (32 :: (decN r.base ++ (32 :: (decN r.rate ++ [59, 10])))))
def plRl (rts : List RouteM) (r : RuleM) : Bs := [114, 117, 108, 101, 32] ++ (r.name.data.toList ++ (32 :: (decN r.rank ++ (58 :: ([32, 98, 105, 110, 32] ++ (padL r.lo r.digits ++ (46 :: 46 :: (padL r.hi r.digits ++ (gJ [109, 99, 99] r.mcc ++ (aJ r.am ++ (gJ [99, 117, 114] r.cur ++ ([32, 45, 62] ++ (acJ rts r ++ [59, 10])))))))))))))
/-- The book's plain text: of each rule first the routes that stand ahead of it. -/
def bookFrom (rts : List RouteM) (told : Nat) : List RuleM → Bs
 | [] => (rts.drop told).flatMap plRt
 | r :: rs => ((rts.take r.ahead).drop told).flatMap plRt ++ (plRl rts r ++ bookFrom rts r.ahead rs)
def bookJ (rts : List RouteM) (rls : List RuleM) : Bs := bookFrom rts 0 rls

theorem commaN_map (sh : Tk → Bs) (l : List Tk) : commaN (l.map sh) = commaJ sh l := by
 cases l with
 | nil => rfl
 | cons t r => simp [commaN, commaJ, List.flatMap_map]
theorem gJ_eq (kw : Bs) (l : List Tk) : gJ kw (l.map valOf) = guardJ kw l := by
 unfold gJ guardJ
 have e : (l.map valOf).map decN = l.map decT := by rw [List.map_map]; rfl
 rw [e, commaN_map]
 cases l <;> simp
theorem place_get (nm : ByteArray) : ∀ (l : List RouteM) (i : Nat), 0 ≤ placeFrom nm i l → ∃ x, l[(placeFrom nm i l).toNat - i]? = some x ∧ x.name.data.toList = nm.data.toList ∧ i ≤ (placeFrom nm i l).toNat ∧ (placeFrom nm i l).toNat < i + l.length
 | [], i, h => by simp [placeFrom] at h
 | y :: r, i, h => by
  simp only [placeFrom] at h ⊢
  by_cases hq : (y.name.toList == nm.toList) = true
  ·rw [if_pos hq]
   have e : y.name.toList = nm.toList := by simpa using hq
   rw [ByteArray.toList_eq, ByteArray.toList_eq] at e
   exact ⟨y, by simp, e, by simp, by simp⟩
  ·rw [if_neg hq] at h ⊢
   obtain ⟨x, h1, h2, h3, h4⟩ := place_get nm r (i + 1) h
   refine ⟨x, ?_, h2, by omega, by simp only [List.length_cons]; omega⟩
   rw [show (placeFrom nm (i + 1) r).toNat - i = ((placeFrom nm (i + 1) r).toNat - (i + 1)) + 1 from by omega]
   simpa using h1
theorem pls_names (rts : List RouteM) : ∀ (l : List Tk) (i : Nat) (ps : List Nat), plsFrom rts i l = .ok ps → ps.map (nameAt rts) = l.map txtT ∧ ∀ p, p ∈ ps → p < rts.length
 | [], i, ps, h => by simp [plsFrom] at h; subst h; simp
 | t :: r, i, ps, h => by
  simp only [plsFrom] at h
  by_cases h4 : i = 4
  ·rw [if_pos h4] at h; cases h
  rw [if_neg h4] at h
  by_cases hv : placeFrom t.text 0 rts < 0
  ·rw [if_pos hv] at h; cases h
  rw [if_neg hv] at h
  cases hq : plsFrom rts (i + 1) r with
  | error f => rw [hq] at h; cases h
  | ok qs =>
   rw [hq] at h
   injection h with h
   subst h
   obtain ⟨e1, e2⟩ := pls_names rts r (i + 1) qs hq
   obtain ⟨x, h1, h2, _, h5⟩ := place_get t.text rts 0 (by omega)
   rw [Nat.sub_zero] at h1
   refine ⟨?_, fun p hp => ?_⟩
   ·rw [List.map_cons, List.map_cons, e1]
    congr 1
    unfold nameAt
    rw [h1]
    exact h2
   ·rcases List.mem_cons.1 hp with hp | hp
    ·rw [hp]; omega
    ·exact e2 p hp
/-- A rule of the reader, told plainly, is its entry. -/
theorem plRl_eq {rts : List RouteM} {rls : List RuleM} {e : RuleE} {r : RuleM} (h : addRuleM rts rls e = .ok r) (h1 : Dg e.bin.1.text) (h2 : Dg e.bin.2.text) (s1 : 1 ≤ e.bin.1.text.size) (s2 : 1 ≤ e.bin.2.text.size) : plRl rts r = entJ (.rule e) ∧ r.ahead = rts.length ∧ ∀ p, p ∈ r.routes → p < rts.length := by
 unfold addRuleM at h
 split at h
 ·cases h
 split at h
 ·cases h
 split at h
 ·cases h
 split at h
 ·cases h
 split at h
 ·cases h
 rename_i hsz
 split at h
 ·cases h
 cases hm : numsFrom 9999 0 e.mcc with
 | error f => rw [hm] at h; cases h
 | ok mccs =>
  rw [hm] at h
  dsimp only at h
  split at h
  ·cases h
  cases hc : numsFrom 999 0 e.cur with
  | error f => rw [hc] at h; cases h
  | ok curs =>
   rw [hc] at h
   dsimp only at h
   cases hp : plsFrom rts 0 e.act.routes with
   | error f => rw [hp] at h; cases h
   | ok ps =>
    rw [hp] at h
    injection h with h
    subst h
    have em := (refIntsF_eq 9999 e.mcc 0 (by omega)).2 mccs hm
    have ec := (refIntsF_eq 999 e.cur 0 (by omega)).2 curs hc
    obtain ⟨ep, el⟩ := pls_names rts e.act.routes 0 ps hp
    refine ⟨?_, rfl, el⟩
    have hsz' : e.bin.2.text.size = e.bin.1.text.size := by omega
    have p1 : padL (valOf e.bin.1) e.bin.1.text.size = txtT e.bin.1 := (pad_val e.bin.1 h1 s1).1
    have p2 : padL (valOf e.bin.2) e.bin.1.text.size = txtT e.bin.2 := by rw [← hsz']; exact (pad_val e.bin.2 h2 s2).1
    have pa : aJ (e.amount.map fun ab => (valOf ab.1, valOf ab.2)) = amJ e.amount := by cases e.amount <;> rfl
    have pc : acJ rts ⟨e.name.text, valOf e.rank, e.bin.1.text.size, valOf e.bin.1, valOf e.bin.2, mccs, e.amount.map (fun ab => (valOf ab.1, valOf ab.2)), curs, e.act.decline, e.act.cheapest, ps, rts.length⟩ = actJ e.act := by
     unfold acJ actJ
     dsimp only
     rw [ep, commaN_map]
    unfold plRl entJ
    dsimp only
    rw [p1, p2, pa, pc, em, ec, gJ_eq, gJ_eq]
    rfl
theorem plRt_eq {rts : List RouteM} {e : RouteE} {t : RouteM} (h : addRouteM rts e = .ok t) (h6 : rts.length ≤ 6) : plRt t = entJ (.route e) := by
 have e1 := (refRoute_eq rts e h6).2 t h
 subst e1
 rfl

/-! ### The book grows -/
def BkOk (rts : List RouteM) (rls : List RuleM) : Prop := ∀ r, r ∈ rls → r.ahead ≤ rts.length ∧ ∀ p, p ∈ r.routes → p < rts.length
theorem nameAt_more {rts : List RouteM} {t : RouteM} {p : Nat} (h : p < rts.length) : nameAt (rts ++ [t]) p = nameAt rts p := by
 unfold nameAt
 rw [List.getElem?_append_left h]
theorem plRl_more {rts : List RouteM} {t : RouteM} {r : RuleM} (h : ∀ p, p ∈ r.routes → p < rts.length) : plRl (rts ++ [t]) r = plRl rts r := by
 have e : r.routes.map (nameAt (rts ++ [t])) = r.routes.map (nameAt rts) := List.map_congr_left fun p hp => nameAt_more (h p hp)
 unfold plRl acJ
 rw [e]
theorem book_route (rts : List RouteM) (t : RouteM) : ∀ (rls : List RuleM) (told : Nat), told ≤ rts.length → BkOk rts rls → bookFrom (rts ++ [t]) told rls = bookFrom rts told rls ++ plRt t
 | [], told, h, _ => by
  simp only [bookFrom]
  rw [List.drop_append_of_le_length h, List.flatMap_append]
  simp
 | r :: rs, told, h, hk => by
  have h1 := hk r (by simp)
  simp only [bookFrom]
  rw [List.take_append_of_le_length h1.1, plRl_more h1.2, book_route rts t rs r.ahead h1.1 (fun x hx => hk x (by simp [hx]))]
  simp
theorem book_rule (rts : List RouteM) (r : RuleM) (hr : r.ahead = rts.length) : ∀ (rls : List RuleM) (told : Nat), bookFrom rts told (rls ++ [r]) = bookFrom rts told rls ++ plRl rts r
 | [], told => by
  simp only [bookFrom, List.nil_append]
  rw [hr, List.take_length, List.drop_length]
  simp
 | x :: rs, told => by
  simp only [bookFrom, List.cons_append]
  rw [book_rule rts r hr rs x.ahead]
  simp
/-- What an entry must be like beside EntOk. -/
def EntB : EntE → Prop
 | .route _ => True
 | .rule r => 1 ≤ r.bin.1.text.size ∧ 1 ≤ r.bin.2.text.size
theorem book_under : ∀ (xs : List EntE) (rts : List RouteM) (rls : List RuleM) (p : List RouteM × List RuleM), rts.length ≤ 6 → Distinct (rts.map RouteM.name) → BkOk rts rls → (∀ x, x ∈ xs → EntOk x ∧ EntB x) → underM rts rls xs = .ok p → bookJ p.1 p.2 = bookJ rts rls ++ xs.flatMap entJ
 | [], rts, rls, p, _, _, _, _, h => by
  simp only [underM] at h
  injection h with h
  subst h
  simp
 | .route e :: xs, rts, rls, p, h6, hd, hk, ho, h => by
  cases hq : addRouteM rts e with
  | error f => rw [underM_err (f := f) (by simp only [addM, hq])] at h; cases h
  | ok t =>
   rw [underM_ok (p := (rts ++ [t], rls)) (by simp only [addM, hq])] at h
   have hd' := addRoute_distinct h6 hd hq
   have hk' : BkOk (rts ++ [t]) rls := fun r hr => ⟨by have := (hk r hr).1; simp; omega, fun q hq => by have := (hk r hr).2 q hq; simp; omega⟩
   have := book_under xs (rts ++ [t]) rls p hd'.2 hd'.1 hk' (fun x hx => ho x (by simp [hx])) h
   rw [this]
   unfold bookJ
   rw [book_route rts t rls 0 (Nat.zero_le _) hk, plRt_eq hq h6, List.flatMap_cons, List.append_assoc]
 | .rule e :: xs, rts, rls, p, h6, hd, hk, ho, h => by
  have hO := ho (.rule e) (by simp)
  cases hq : addRuleM rts rls e with
  | error f => rw [underM_err (f := f) (by simp only [addM, hq])] at h; cases h
  | ok t =>
   rw [underM_ok (p := (rts, rls ++ [t])) (by simp only [addM, hq])] at h
   have hO1 : EntOk (.rule e) := hO.1
   have hO2 : 1 ≤ e.bin.1.text.size ∧ 1 ≤ e.bin.2.text.size := hO.2
   obtain ⟨e1, e2, e3⟩ := plRl_eq hq hO1.2.2.1 hO1.2.2.2.1 hO2.1 hO2.2
   have hk' : BkOk rts (rls ++ [t]) := fun r hr => by
    rcases List.mem_append.1 hr with hr | hr
    ·exact hk r hr
    ·simp at hr
     subst hr
     exact ⟨by omega, e3⟩
   have := book_under xs rts (rls ++ [t]) p h6 hd hk' (fun x hx => ho x (by simp [hx])) h
   rw [this]
   unfold bookJ
   rw [book_rule rts t e2 rls 0, e1, List.flatMap_cons, List.append_assoc]
end Go.Proofs.YtccikgogjfbpeaaGreatDoor

namespace Go.Proofs.YtccikgogjfbpeaaGreatDoor

section
variable {body : List Tk} {en : Tk}
theorem rest_all (he : en.sort = 3) {want : Nat} (hw : want ≠ 3) {Q : Tk → Prop} (hQ : ∀ t, t ∈ body → t.sort = want → Q t) : ∀ (m i : Nat) (acc l : List Tk) (k : Nat), (body ++ [en]).length - i = m → (∀ t, t ∈ acc → Q t) → restM (body ++ [en]) i want acc = .ok (l, k) → ∀ t, t ∈ l → Q t := by
 intro m
 induction m using Nat.strongRecOn with
 | ind m ih =>
  intro i acc l k hm ha hr
  rw [restM] at hr
  split at hr
  ·rename_i hq
   have hlt := isFix_lt hq
   split at hr
   ·cases hr
   ·rename_i t i' ht
    obtain ⟨h1, h2, h3⟩ := take_at he hw ht
    refine ih ((body ++ [en]).length - i') (by omega) i' _ l k rfl (fun u hu => ?_) hr
    rcases List.mem_append.1 hu with hu | hu
    ·exact ha u hu
    ·simp at hu; subst hu; exact hQ u (List.mem_of_getElem? h1) h2
  ·injection hr with hr
   injection hr with h1 h2
   subst h1
   exact ha
theorem list_all (he : en.sort = 3) {want : Nat} (hw : want ≠ 3) {Q : Tk → Prop} (hQ : ∀ t, t ∈ body → t.sort = want → Q t) {i : Nat} {l : List Tk} {k : Nat} (h : listM (body ++ [en]) i want = .ok (l, k)) : (∀ t, t ∈ l → Q t) ∧ l ≠ [] := by
 unfold listM at h
 split at h
 ·cases h
 ·rename_i t i1 ht
  obtain ⟨h1, h2, _⟩ := take_at he hw ht
  refine ⟨rest_all he hw hQ _ i1 [t] l k rfl (fun u hu => by simp at hu; subst hu; exact hQ u (List.mem_of_getElem? h1) h2) h, ?_⟩
  obtain ⟨r, e1, _⟩ := rest_at he hw _ i1 [t] l k rfl h
  rw [e1]
  simp
theorem entry_w (he : en.sort = 3) (hB : BOk body) {i : Nat} {e : EntE} {k : Nat} (h : entryM (body ++ [en]) i = .ok (e, k)) : EntW e ∧ EntB e := by
 have hw : ∀ t, t ∈ body → t.sort ≠ 2 → Word (txtT t) := fun t ht hs => txt_word (hB.lit t ht) hs
 unfold entryM at h
 split at h
 ·obtain ⟨r, j, g, e1⟩ := bindM_inv h
  injection e1 with e1
  injection e1 with e2 _
  subst e2
  unfold routeM at g
  obtain ⟨a, j1, g1, g⟩ := bindM_inv g
  obtain ⟨b, j2, g2, g⟩ := bindM_inv g
  obtain ⟨c, j3, g3, g⟩ := bindM_inv g
  injection g with g
  injection g with g _
  subst g
  obtain ⟨a1, a2, _⟩ := take_at he (by decide) g1
  exact ⟨hw a (List.mem_of_getElem? a1) (by rw [a2]; decide), trivial⟩
 ·obtain ⟨_, j1, g1, h⟩ := bindM_inv h
  obtain ⟨r, j2, g2, h⟩ := bindM_inv h
  injection h with h
  injection h with e2 _
  subst e2
  unfold ruleM at g2
  obtain ⟨nm, k1, a1, g2⟩ := bindM_inv g2
  obtain ⟨rk, k2, a2, g2⟩ := bindM_inv g2
  obtain ⟨_, k3, a3, g2⟩ := bindM_inv g2
  obtain ⟨_, k4, a4, g2⟩ := bindM_inv g2
  obtain ⟨bn, k5, a5, g2⟩ := bindM_inv g2
  obtain ⟨mc, k6, a6, g2⟩ := bindM_inv g2
  obtain ⟨am, k7, a7, g2⟩ := bindM_inv g2
  obtain ⟨cu, k8, a8, g2⟩ := bindM_inv g2
  obtain ⟨_, k9, a9, g2⟩ := bindM_inv g2
  obtain ⟨ac, k10, a10, g2⟩ := bindM_inv g2
  injection g2 with g2
  injection g2 with g2 _
  subst g2
  obtain ⟨n1, n2, _⟩ := take_at he (by decide) a1
  rw [pairM_bind] at a5
  obtain ⟨p1, q1, x1, a5⟩ := bindM_inv a5
  obtain ⟨_, q2, x2, a5⟩ := bindM_inv a5
  obtain ⟨p2, q3, x3, a5⟩ := bindM_inv a5
  injection a5 with a5
  injection a5 with a5 _
  subst a5
  obtain ⟨y1, y2, _⟩ := take_at he (by decide) x1
  obtain ⟨z1, z2, _⟩ := take_at he (by decide) x3
  have hac : (ac.decline = false → ac.routes ≠ []) ∧ ∀ t, t ∈ ac.routes → Word (txtT t) := by
   have hn : ∀ t, t ∈ body → t.sort = 0 → Word (txtT t) := fun t ht hs => hw t ht (by rw [hs]; decide)
   unfold actionM at a10
   split at a10
   ·injection a10 with a10
    injection a10 with a10 _
    subst a10
    exact ⟨fun h => by simp at h, fun t ht => by simp at ht⟩
   ·split at a10
    ·obtain ⟨l, j, g, e⟩ := bindM_inv a10
     injection e with e
     injection e with e _
     subst e
     obtain ⟨h1, h2⟩ := list_all he (by decide) hn g
     exact ⟨fun _ => h2, h1⟩
    ·obtain ⟨l, j, g, e⟩ := bindM_inv a10
     injection e with e
     injection e with e _
     subst e
     obtain ⟨h1, h2⟩ := list_all he (by decide) hn g
     exact ⟨fun _ => h2, h1⟩
  have m1 := List.mem_of_getElem? y1
  have m2 := List.mem_of_getElem? z1
  exact ⟨⟨hw nm (List.mem_of_getElem? n1) (by rw [n2]; decide), hw p1 m1 (by rw [y2]; decide), hw p2 m2 (by rw [z2]; decide), hac.1, hac.2⟩, (hB.dg p1 m1 y2).2, (hB.dg p2 m2 z2).2⟩
theorem parse_w (he : en.sort = 3) (hB : BOk body) : ∀ (m i : Nat) (acc xs : List EntE) (k : Nat), (body ++ [en]).length - i = m → (∀ x, x ∈ acc → EntW x ∧ EntB x) → parseFrom (body ++ [en]) i acc = .ok (xs, k) → ∀ x, x ∈ xs → EntW x ∧ EntB x := by
 intro m
 induction m using Nat.strongRecOn with
 | ind m ih =>
  intro i acc xs k hm ha hp
  by_cases hs : (tkAt (body ++ [en]) i).sort = 3
  ·rw [parseFrom_end hs] at hp
   injection hp with hp; injection hp with hp _; subst hp
   exact ha
  ·cases he' : entryM (body ++ [en]) i with
   | error l => rw [parseFrom_err1 hs he'] at hp; cases hp
   | ok r =>
    obtain ⟨e, j⟩ := r
    cases hx : expectM (body ++ [en]) j mSemi with
    | error l => rw [parseFrom_err2 hs he' hx] at hp; cases hp
    | ok r =>
     obtain ⟨u, k2⟩ := r
     rw [parseFrom_ok hs he' hx] at hp
     have h1 := entryM_lt he'
     have h2 := expectM_ok hx
     obtain ⟨_, _, s3⟩ := seg_entry he hB he' hx
     refine ih ((body ++ [en]).length - k2) (by simp only [List.length_append, List.length_cons, List.length_nil] at hm ⊢; omega) k2 _ xs k rfl (fun x hx => ?_) hp
     rcases List.mem_append.1 hx with hx | hx
     ·exact ha x hx
     ·simp at hx; subst hx; exact entry_w he hB he'
end
/-- The tokens of a text. -/
theorem lex_body {s : ByteArray} {ts : List Tk} (h : lexFrom s 0 1 [] = .ok ts) : ∃ body, ts = body ++ [⟨3, ByteArray.empty, 1 + nls s.data.toList⟩] ∧ BOk body ∧ (∀ t, t ∈ body → TkLit t ∧ TkOk s.size t) := by
 obtain ⟨body, e, hl⟩ := lexFrom_lit _ 0 1 [] ts rfl (fun t ht => by simp at ht) h
 have ha := (lexFrom_all _ 0 1 [] ts rfl (fun t ht => by simp at ht) h).1
 rw [List.drop_zero] at e
 refine ⟨body, e, ⟨fun t ht => (hl t ht).1, fun t ht => (hl t ht).2.2.1, fun t ht hs => ⟨(ha t (by rw [e]; simp [ht])).1 hs, (hl t ht).2.1 hs⟩⟩, fun t ht => ⟨hl t ht, ha t (by rw [e]; simp [ht])⟩⟩
/-- Both plain texts of a text are one. -/
theorem texts_eq {body : List Tk} {l : Nat} {xs : List EntE} {k : Nat} {p : List RouteM × List RuleM} (hB : BOk body) (hp : parseFrom (body ++ [⟨3, ByteArray.empty, l⟩]) 0 [] = .ok (xs, k)) (ho : ∀ x, x ∈ xs → EntOk x) (hu : underM [] [] xs = .ok p) : bookJ p.1 p.2 = refText body body.length := by
 have hw := parse_w rfl hB _ 0 [] xs k rfl (fun x hx => by simp at hx) hp
 rw [refText_ents rfl hB hp, emit_ents xs (fun e he => (hw e he).1)]
 have := book_under xs [] [] p (by simp) trivial (fun r hr => by simp at hr) (fun x hx => ⟨ho x hx, (hw x hx).2⟩) hu
 rw [this]
 rfl
end Go.Proofs.YtccikgogjfbpeaaGreatDoor

namespace Go.Proofs.YtccikgogjfbpeaaGreatDoor

/-- An entry's tokens: its keyword at i, its semicolon at j. -/
def EntAt (body : List Tk) (i : Nat) (e : EntE) (j : Nat) : Prop :=
 j < body.length ∧ i < j ∧ match e with
 | .route r => (∃ t, body[i]? = some t ∧ (t.text.toList == [114, 111, 117, 116, 101]) = true) ∧ body[i + 1]? = some r.name ∧ body[i + 2]? = some r.base ∧ body[i + 3]? = some r.rate ∧ Dg r.base.text ∧ Dg r.rate.text ∧ j = i + 4
 | .rule r => (∃ t, body[i]? = some t ∧ (t.text.toList == [114, 111, 117, 116, 101]) = false) ∧ RuleAt body i r j
def EntsAt (body : List Tk) : Nat → List EntE → Prop
 | i, [] => i = body.length
 | i, e :: ys => ∃ j, EntAt body i e j ∧ EntsAt body (j + 1) ys
section
variable {body : List Tk} {en : Tk}
theorem at_end (hs : ∀ t, t ∈ body → t.sort ≠ 3) {i : Nat} (hi : i ≤ body.length) (h : (tkAt (body ++ [en]) i).sort = 3) : i = body.length := by
 rcases Nat.lt_or_ge i body.length with h' | h'
 ·exfalso
  have := some_sort (en := en) hs (List.getElem?_eq_getElem h')
  exact this h
 ·omega
theorem ent_at (he : en.sort = 3) (hB : BOk body) {i j k : Nat} {e : EntE} {u : Unit} (h : entryM (body ++ [en]) i = .ok (e, j)) (hx : expectM (body ++ [en]) j mSemi = .ok (u, k)) (ho : EntOk e) : EntAt body i e j := by
 obtain ⟨⟨tj, j1, _, _⟩, _⟩ := expect_at he hx
 have hij := entryM_lt h
 have hjb : j < body.length := (List.getElem?_eq_some_iff.1 j1).1
 unfold entryM at h
 split at h
 ·rename_i hf
  obtain ⟨r, k1, g, e1⟩ := bindM_inv h
  injection e1 with e1
  injection e1 with e1 e2
  subst e1 e2
  obtain ⟨t, h1, h2, _⟩ := fix_at he hf
  unfold routeM at g
  obtain ⟨nm, i1, g1, g⟩ := bindM_inv g
  obtain ⟨bs, i2, g2, g⟩ := bindM_inv g
  obtain ⟨rt, i3, g3, g⟩ := bindM_inv g
  injection g with g
  injection g with g4 g5
  subst g4
  obtain ⟨a1, a2, a3⟩ := take_at he (by decide) g1
  obtain ⟨b1, b2, b3⟩ := take_at he (by decide) g2
  obtain ⟨c1, c2, c3⟩ := take_at he (by decide) g3
  refine ⟨hjb, hij, ⟨t, h1, h2⟩, a1, ?_, ?_, ho.2.1, ho.2.2, by omega⟩
  ·rw [show i + 2 = i1 from by omega]; exact b1
  ·rw [show i + 3 = i2 from by omega]; exact c1
 ·rename_i hf
  obtain ⟨_, i1, g1, h⟩ := bindM_inv h
  obtain ⟨r, k1, g, e1⟩ := bindM_inv h
  injection e1 with e1
  injection e1 with e1 e2
  subst e1 e2
  obtain ⟨⟨t, h1, _, _⟩, h2⟩ := expect_at he g1
  subst h2
  obtain ⟨t', u1, u2⟩ := nofix_at he hB.lit (m := kwRoute) (by simp [lits]) (some_sort hB.ns h1) hf
  exact ⟨hjb, hij, ⟨t', u1, u2⟩, rule_at he hB.lit hB.ns g (some_sort hB.ns j1) ho⟩
theorem parse_ents (he : en.sort = 3) (hB : BOk body) : ∀ (m i : Nat) (acc xs : List EntE) (k : Nat), body.length - i = m → i ≤ body.length → (∀ x, x ∈ xs → EntOk x) → parseFrom (body ++ [en]) i acc = .ok (xs, k) → ∃ ys, xs = acc ++ ys ∧ EntsAt body i ys := by
 intro m
 induction m using Nat.strongRecOn with
 | ind m ih =>
  intro i acc xs k hm hi ho hp
  by_cases hs : (tkAt (body ++ [en]) i).sort = 3
  ·rw [parseFrom_end hs] at hp
   injection hp with hp; injection hp with hp _; subst hp
   exact ⟨[], by simp, at_end hB.ns hi hs⟩
  ·cases he' : entryM (body ++ [en]) i with
   | error l => rw [parseFrom_err1 hs he'] at hp; cases hp
   | ok r =>
    obtain ⟨e, j⟩ := r
    cases hx : expectM (body ++ [en]) j mSemi with
    | error l => rw [parseFrom_err2 hs he' hx] at hp; cases hp
    | ok r =>
     obtain ⟨u, k2⟩ := r
     rw [parseFrom_ok hs he' hx] at hp
     have h1 := entryM_lt he'
     have h2 := expectM_ok hx
     obtain ⟨⟨tj, j1, _, _⟩, _⟩ := expect_at he hx
     have hjb : j < body.length := (List.getElem?_eq_some_iff.1 j1).1
     obtain ⟨ys, e1, e2⟩ := ih (body.length - k2) (by omega) k2 _ xs k rfl (by omega) ho hp
     refine ⟨e :: ys, by rw [e1, List.append_assoc]; rfl, j, ent_at he hB he' hx (ho e (by rw [e1]; simp)), ?_⟩
     rw [← h2]
     exact e2
end
theorem refRuleF_many {rts : List RouteM} {names : List ByteArray} {r : RuleE} (h : refRuleF rts names none r = none) : names.length < 8 := by
 rcases Nat.lt_or_ge names.length 8 with h' | h'
 ·exact h'
 ·exfalso
  unfold refRuleF at h
  rw [show decide (8 ≤ names.length) = true from by simpa using h', noteM_true, refNames_some, noteM_some, noteM_some, noteM_some, refIntsF_some] at h
  cases hr : r.amount <;> rw [hr] at h <;> simp only [refAmountF, noteM_some] at h <;> rw [refIntsF_some, refPlsF_some] at h <;> cases h
theorem refRouteF_many {rts : List RouteM} {r : RouteE} (h : refRouteF rts none r = none) : rts.length < 6 := by
 rcases Nat.lt_or_ge rts.length 6 with h' | h'
 ·exact h'
 ·exfalso
  unfold refRouteF at h
  rw [show decide (6 ≤ rts.length) = true from by simpa using h', noteM_true, refNames_some, noteM_some, noteM_some] at h
  cases h
/-- There are no more tokens than bytes. -/
theorem lexFrom_len {s : ByteArray} : ∀ (n k line : Nat) (acc ts : List Tk), s.size - k = n → k ≤ s.size → lexFrom s k line acc = .ok ts → ts.length ≤ acc.length + (s.size - k) + 1 := by
 intro n
 induction n using Nat.strongRecOn with
 | ind n ih =>
  intro k line acc ts hn hks h
  by_cases hk : k < s.size
  ·cases hL : lexStep s k line with
   | skip k' l' =>
    rw [lexFrom_skip hk hL] at h
    have := lexStep_skip hk hL
    have := ih (s.size - k') (by omega) k' l' acc ts rfl (by omega) h
    omega
   | tok t k' =>
    rw [lexFrom_tok hk hL] at h
    have := lexStep_tok hk hL
    have := ih (s.size - k') (by omega) k' line (acc ++ [t]) ts rfl (by omega) h
    simp only [List.length_append, List.length_cons, List.length_nil] at this
    omega
   | bad => rw [lexFrom_bad hk hL] at h; cases h
  ·rw [lexFrom_end hk] at h
   injection h with h
   subst h
   simp
end Go.Proofs.YtccikgogjfbpeaaGreatDoor
