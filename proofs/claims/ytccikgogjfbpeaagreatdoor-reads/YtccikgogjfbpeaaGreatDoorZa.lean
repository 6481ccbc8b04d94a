/- What a book that was read is like: bounds; plain. -/
import Derived.Test.YtccikgogjfbpeaaGreatDoorQz
import Derived.Test.YtccikgogjfbpeaaGreatDoorQm
namespace Go.Proofs.YtccikgogjfbpeaaGreatDoor

def RtOk (t : RouteM) : Prop := t.name.size ≤ 3000 ∧ t.base < 1000000000 ∧ t.rate < 1000000000
structure RlOk (n : Nat) (r : RuleM) : Prop where
 nm : r.name.size ≤ 3000
 rk : r.rank < 1000000000
 dg : r.digits ≤ 9
 lo : r.lo < 1000000000 ∧ (decN r.lo).length ≤ r.digits
 hi : r.hi < 1000000000 ∧ (decN r.hi).length ≤ r.digits
 mc : r.mcc.length ≤ 4000 ∧ ∀ x, x ∈ r.mcc → x < 1000000000
 cu : r.cur.length ≤ 4000 ∧ ∀ x, x ∈ r.cur → x < 1000000000
 am : ∀ ab, r.am = some ab → ab.1 < 1000000000 ∧ ab.2 < 1000000000
 pl : r.routes.length ≤ 4000 ∧ ∀ x, x ∈ r.routes → x < n
 ah : r.ahead ≤ n
 bn : r.digits ≤ 6 ∧ r.hi < 10 ^ r.digits ∧ r.lo ≤ r.hi
def AhOk : Nat → List RuleM → Prop
 | _, [] => True
 | told, r :: rs => told ≤ r.ahead ∧ AhOk r.ahead rs
structure BookOk (rts : List RouteM) (rls : List RuleM) : Prop where
 rt : ∀ t, t ∈ rts → RtOk t
 rl : ∀ r, r ∈ rls → RlOk rts.length r
 ah : AhOk 0 rls
 r6 : rts.length ≤ 6
 l8 : rls.length ≤ 8
theorem ahOk_snoc {r : RuleM} {n : Nat} (hr : r.ahead = n) : ∀ (rls : List RuleM) (told : Nat), told ≤ n → (∀ x, x ∈ rls → x.ahead ≤ n) → AhOk told rls → AhOk told (rls ++ [r])
 | [], told, h, _, _ => ⟨by omega, trivial⟩
 | x :: xs, told, _, ha, h => ⟨h.1, ahOk_snoc hr xs x.ahead (ha x (by simp)) (fun y hy => ha y (by simp [hy])) h.2⟩
theorem RlOk.more {n : Nat} {r : RuleM} (h : RlOk n r) {m : Nat} (hm : n ≤ m) : RlOk m r :=
 ⟨h.nm, h.rk, h.dg, h.lo, h.hi, h.mc, h.cu, h.am, ⟨h.pl.1, fun x hx => Nat.lt_of_lt_of_le (h.pl.2 x hx) hm⟩, Nat.le_trans h.ah hm, h.bn⟩
theorem valOf_pow (t : Tk) (hd : Dg t.text) : valOf t < 10 ^ t.text.size := by
 have h := numOf_9 t.text.data.toList 0 (fun c hc => by
  obtain ⟨k, hk, e⟩ := List.getElem_of_mem hc
  have h2 := (hd.2 k (by simpa using hk)).2
  unfold bAt at h2
  rw [List.getD_eq_getElem?_getD, List.getElem?_eq_getElem hk, e] at h2
  simp at h2
  omega)
 have e : t.text.data.toList.length = t.text.size := by simp
 rw [e] at h
 unfold valOf numOf
 omega
theorem addRule_ok {rts : List RouteM} {rls : List RuleM} {e : RuleE} {r : RuleM} (h : addRuleM rts rls e = .ok r) (ho : EntOk (.rule e)) (hb : EntB (.rule e)) : RlOk rts.length r ∧ r.ahead = rts.length := by
 obtain ⟨o1, o2, o3, o4, o5, o6, o7, o8, o9, o10⟩ := ho
 have hb : 1 ≤ e.bin.1.text.size ∧ 1 ≤ e.bin.2.text.size := hb
 unfold addRuleM at h
 split at h
 ·cases h
 split at h
 ·cases h
 split at h
 ·cases h
 split at h
 ·cases h
 split at h
 ·cases h
 rename_i h6 hsz
 split at h
 ·cases h
 rename_i hle
 cases hm : numsFrom 9999 0 e.mcc with
 | error f => rw [hm] at h; cases h
 | ok mccs =>
  rw [hm] at h
  dsimp only at h
  split at h
  ·cases h
  cases hc : numsFrom 999 0 e.cur with
  | error f => rw [hc] at h; cases h
  | ok curs =>
   rw [hc] at h
   dsimp only at h
   cases hp : plsFrom rts 0 e.act.routes with
   | error f => rw [hp] at h; cases h
   | ok ps =>
    rw [hp] at h
    injection h with h
    subst h
    have em := (refIntsF_eq 9999 e.mcc 0 (by omega)).2 mccs hm
    have ec := (refIntsF_eq 999 e.cur 0 (by omega)).2 curs hc
    obtain ⟨ep, el⟩ := pls_names rts e.act.routes 0 ps hp
    have hsz' : e.bin.2.text.size = e.bin.1.text.size := by omega
    have lp : ps.length = e.act.routes.length := by have := congrArg List.length ep; simpa using this
    refine ⟨⟨o1, valOf_lt _ o2, o3.1, ⟨valOf_lt _ o3, (pad_val _ o3 hb.1).2⟩, ⟨valOf_lt _ o4, by dsimp only; rw [← hsz']; exact (pad_val _ o4 hb.2).2⟩, ?_, ?_, ?_, ⟨by dsimp only; omega, el⟩, Nat.le_refl _, by dsimp only; omega, by dsimp only; rw [← hsz']; exact valOf_pow _ o4, by dsimp only; omega⟩, rfl⟩
    ·dsimp only
     rw [em]
     refine ⟨by simpa using o8, fun x hx => ?_⟩
     obtain ⟨t, ht, rfl⟩ := List.mem_map.1 hx
     exact valOf_lt _ (o5 t ht)
    ·dsimp only
     rw [ec]
     refine ⟨by simpa using o9, fun x hx => ?_⟩
     obtain ⟨t, ht, rfl⟩ := List.mem_map.1 hx
     exact valOf_lt _ (o6 t ht)
    ·intro ab hab
     dsimp only at hab
     cases ha : e.amount with
     | none => rw [ha] at hab; cases hab
     | some cd =>
      rw [ha] at hab
      simp only [Option.map_some, Option.some.injEq] at hab
      subst hab
      exact ⟨valOf_lt _ (o7 cd ha).1, valOf_lt _ (o7 cd ha).2⟩
theorem under_ok : ∀ (xs : List EntE) (rts : List RouteM) (rls : List RuleM) (p : List RouteM × List RuleM), BookOk rts rls → Distinct (rts.map RouteM.name) → (∀ x, x ∈ xs → EntOk x ∧ EntB x) → underM rts rls xs = .ok p → BookOk p.1 p.2
 | [], rts, rls, p, hB, _, _, h => by
  simp only [underM] at h
  injection h with h
  subst h
  exact hB
 | .route e :: xs, rts, rls, p, hB, hd, ho, h => by
  have hO : EntOk (.route e) := (ho (.route e) (by simp)).1
  cases hq : addRouteM rts e with
  | error f => rw [underM_err (f := f) (by simp only [addM, hq])] at h; cases h
  | ok t =>
   rw [underM_ok (p := (rts ++ [t], rls)) (by simp only [addM, hq])] at h
   have hd' := addRoute_distinct hB.r6 hd hq
   have et := (refRoute_eq rts e hB.r6).2 t hq
   refine under_ok xs (rts ++ [t]) rls p ⟨fun u hu => ?_, fun r hr => (hB.rl r hr).more (by simp), hB.ah, hd'.2, hB.l8⟩ hd'.1 (fun x hx => ho x (by simp [hx])) h
   rcases List.mem_append.1 hu with hu | hu
   ·exact hB.rt u hu
   ·simp at hu
    subst hu
    rw [et]
    exact ⟨hO.1, valOf_lt _ hO.2.1, valOf_lt _ hO.2.2⟩
 | .rule e :: xs, rts, rls, p, hB, hd, ho, h => by
  have hO := ho (.rule e) (by simp)
  cases hq : addRuleM rts rls e with
  | error f => rw [underM_err (f := f) (by simp only [addM, hq])] at h; cases h
  | ok t =>
   rw [underM_ok (p := (rts, rls ++ [t])) (by simp only [addM, hq])] at h
   obtain ⟨h1, h2⟩ := addRule_ok hq hO.1 hO.2
   refine under_ok xs rts (rls ++ [t]) p ⟨hB.rt, fun r hr => ?_, ahOk_snoc h2 rls 0 (Nat.zero_le _) (fun x hx => (hB.rl x hx).ah) hB.ah, hB.r6, addRule_len hB.l8 hq⟩ hd (fun x hx => ho x (by simp [hx])) h
   rcases List.mem_append.1 hr with hr | hr
   ·exact hB.rl r hr
   ·simp at hr
    subst hr
    exact h1
theorem readM_book {s : ByteArray} {p : List RouteM × List RuleM} (h : readM s = .ok p) : BookOk p.1 p.2 := by
 unfold readM at h
 split at h
 ·cases h
 rename_i hs
 cases hL : lexFrom s 0 1 [] with
 | error l => rw [hL] at h; cases h
 | ok ts =>
  rw [hL] at h
  dsimp only at h
  cases hP : parseFrom ts 0 [] with
  | error l => rw [hP] at h; cases h
  | ok r =>
   obtain ⟨xs, k⟩ := r
   rw [hP] at h
   dsimp only at h
   obtain ⟨body, hts, hB, hall⟩ := lex_body hL
   have hlen := lexFrom_len _ 0 1 [] ts rfl (Nat.zero_le _) hL
   simp only [List.length_nil] at hlen
   have hO := parse_ok (ts := ts) (n := s.size) (lexFrom_all _ 0 1 [] ts rfl (by simp) hL).1 (by omega) (by omega) _ 0 [] xs k rfl (by simp) hP
   rw [hts] at hP
   have hW := parse_w rfl hB _ 0 [] xs k rfl (fun x hx => by simp at hx) hP
   exact under_ok xs [] [] p ⟨by simp, by simp, trivial, by simp, by simp⟩ trivial (fun x hx => ⟨hO x hx, (hW x hx).2⟩) h
end Go.Proofs.YtccikgogjfbpeaaGreatDoor
