/- The entries are understood, one by one. understand, walked. What every token of a text is like. What every entry of a text is like. -/
import Derived.Test.YtccikgogjfbpeabGreatDoorWQj
import Derived.Test.YtccikgogjfbpeabGreatDoorWHa
import Derived.Test.YtccikgogjfbpeabGreatDoorWQg
import Derived.Lib.Strings
namespace Go.Proofs.YtccikgogjfbpeabGreatDoor
open Go.RowKit
def EntOk : EntE -> Prop
 | .route r => r.name.text.size <= 3000 /\ Dg r.base.text /\ Dg r.rate.text
 | .rule r => r.name.text.size <= 3000 /\ Dg r.rank.text /\ Dg r.bin.1.text /\ Dg r.bin.2.text /\ (∀ t, t ∈ r.mcc -> Dg t.text) /\ (∀ t, t ∈ r.cur -> Dg t.text) /\ (∀ ab, r.amount = some ab -> Dg ab.1.text /\ Dg ab.2.text) /\ r.mcc.length <= 4000 /\ r.cur.length <= 4000 /\ r.act.routes.length <= 4000
def addM (rts : List RouteM) (rls : List RuleM) : EntE -> Except (Nat × Nat) (List RouteM × List RuleM)
 | .route r => match addRouteM rts r with
  | .error f => .error f
  | .ok t => .ok (rts ++ [t], rls)
 | .rule r => match addRuleM rts rls r with
  | .error f => .error f
  | .ok t => .ok (rts, rls ++ [t])
def underM (rts : List RouteM) (rls : List RuleM) : List EntE -> Except (Nat × Nat) (List RouteM × List RuleM)
 | [] => .ok (rts, rls)
 | x :: xs => match addM rts rls x with
  | .error f => .error f
  | .ok p => underM p.1 p.2 xs
theorem underM_err {rts : List RouteM} {rls : List RuleM} {x : EntE} {xs : List EntE} {f : Nat × Nat} (h : addM rts rls x = .error f) : underM rts rls (x :: xs) = .error f := by simp only [underM, h]
theorem underM_ok {rts : List RouteM} {rls : List RuleM} {x : EntE} {xs : List EntE} {p : List RouteM × List RuleM} (h : addM rts rls x = .ok p) : underM rts rls (x :: xs) = underM p.1 p.2 xs := by simp only [underM, h]
def AEPost (x : Except (Nat × Nat) (List RouteM × List RuleM)) (w : World) (B : Nat) (e : Ending) (w' : World) : Prop :=
 match x with
 | .ok p => e = .returned (.tuple #[]) /\ (∃ vr vl xs, Bk w' B vr vl p.1 p.2 xs) /\ Below B w w'
 | .error f => e = faultE f.1 f.2 /\ Below B w w'
theorem AEPost.ok {x : Except (Nat × Nat) (List RouteM × List RuleM)} {w w' : World} {B : Nat} {e : Ending} {p : List RouteM × List RuleM} (h : x = .ok p) : AEPost x w B e w' ↔ e = .returned (.tuple #[]) /\ (∃ vr vl xs, Bk w' B vr vl p.1 p.2 xs) /\ Below B w w' := by subst h; exact Iff.rfl
theorem AEPost.err {x : Except (Nat × Nat) (List RouteM × List RuleM)} {w w' : World} {B : Nat} {e : Ending} {f : Nat × Nat} (h : x = .error f) : AEPost x w B e w' ↔ e = faultE f.1 f.2 /\ Below B w w' := by subst h; exact Iff.rfl
theorem addEntR (w : World) (B : Nat) (vr vl : Value) (rts : List RouteM) (rls : List RuleM) (xs : List Value) (r : RouteE) (h : Bk w B vr vl rts rls xs) (ho : EntOk (.route r)) :
  Calls Tryz.prog 263 #[routeV r, .pointer (some ⟨B, 0, none⟩)] w (AEPost (addM rts rls (.route r)) w B) := by
 refine (addRoute_any w B vr vl rts rls xs r h ho.1 ho.2.1 ho.2.2).mono ?_
 intro e w' hT
 cases hq : addRouteM rts r with
 | error f => exact (AEPost.err (by simp only [addM, hq])).2 ((ARPost.err hq).1 hT)
 | ok t =>
  obtain ⟨he, ⟨vr', hb⟩, hB⟩ := (ARPost.ok hq).1 hT
  exact (AEPost.ok (p := (rts ++ [t], rls)) (by simp only [addM, hq])).2 ⟨he, ⟨_, _, _, hb⟩, hB⟩
theorem addEntL (w : World) (B b0 : Nat) (vr vl : Value) (rts : List RouteM) (rls : List RuleM) (xs : List Value) (r : RuleE) (vm vc vp : Value) (h : Bk w B vr vl rts rls xs) (ho : EntOk (.rule r))
  (hm : w.ownsRow b0 207 3 vm r.mcc.length (tkRow r.mcc)) (hc : w.ownsRow b0 207 3 vc r.cur.length (tkRow r.cur)) (hp : w.ownsRow b0 207 3 vp r.act.routes.length (tkRow r.act.routes)) :
  Calls Tryz.prog 267 #[ruleV r vm vc vp, .pointer (some ⟨B, 0, none⟩)] w (AEPost (addM rts rls (.rule r)) w B) := by
 obtain ⟨o1, o2, o3, o4, o5, o6, o7, o8, o9, o10⟩ := ho
 have hmain : Calls Tryz.prog 267 #[ruleV r vm vc vp, .pointer (some ⟨B, 0, none⟩)] w (ALPost (addRuleM rts rls r) w B vr rts rls xs) := by
  cases ha : r.amount with
  | none => exact addRule_none w B b0 vr vl rts rls xs r vm vc vp h o1 o2 o3 o4 o5 o6 ha hm hc hp o8 o9 o10
  | some ab =>
   obtain ⟨aa, ab⟩ := ab
   have hd := o7 _ ha
   exact addRule_some w B b0 vr vl rts rls xs r aa ab vm vc vp h o1 o2 o3 o4 o5 o6 hd.1 hd.2 ha hm hc hp o8 o9 o10
 refine hmain.mono ?_
 intro e w' hT
 cases hq : addRuleM rts rls r with
 | error f => exact (AEPost.err (by simp only [addM, hq])).2 ((ALPost.err hq).1 hT)
 | ok t =>
  obtain ⟨he, ⟨vr', c, hb⟩, hB⟩ := (ALPost.ok hq).1 hT
  exact (AEPost.ok (p := (rts, rls ++ [t])) (by simp only [addM, hq])).2 ⟨he, ⟨_, _, _, hb⟩, hB⟩
def UPost (x : Except (Nat × Nat) (List RouteM × List RuleM)) (w : World) (e : Ending) (w' : World) : Prop :=
 match x with
 | .ok p => e = .returned (.pointer (some ⟨w.heap.size, 0, none⟩)) /\ (∃ vr vl xs, Bk w' w.heap.size vr vl p.1 p.2 xs) /\ Below w.heap.size w w'
 | .error f => e = faultE f.1 f.2 /\ Below w.heap.size w w'
theorem UPost.ok {x : Except (Nat × Nat) (List RouteM × List RuleM)} {w w' : World} {e : Ending} {p : List RouteM × List RuleM} (h : x = .ok p) : UPost x w e w' ↔ e = .returned (.pointer (some ⟨w.heap.size, 0, none⟩)) /\ (∃ vr vl xs, Bk w' w.heap.size vr vl p.1 p.2 xs) /\ Below w.heap.size w w' := by subst h; exact Iff.rfl
theorem UPost.err {x : Except (Nat × Nat) (List RouteM × List RuleM)} {w w' : World} {e : Ending} {f : Nat × Nat} (h : x = .error f) : UPost x w e w' ↔ e = faultE f.1 f.2 /\ Below w.heap.size w w' := by subst h; exact Iff.rfl
theorem bk_new (w : World) : Bk (w.alloc (.cells #[.slice none 0 0, .slice none 0 0] 59)) w.heap.size (.slice none 0 0) (.slice none 0 0) [] [] [] := by
 have hn := heap_alloc_new w (.cells #[.slice none 0 0, .slice none 0 0] 59)
 exact ⟨block_cell hn 0 _ rfl, block_cell hn 1 _ rfl, block_frozen hn, World.ownsRow_nil _ _ _ _, World.ownsRow_nil _ _ _ _, rfl, by simp, by simp⟩
theorem entvs_get {base : Nat} {w : World} : ∀ {xs : List EntE} {vs : List Value} {j : Nat} {x : EntE}, EntVs base w xs vs -> xs[j]? = some x -> ∃ v, vs[j]? = some v /\ EntV base w x v
 | [], _, j, _, _, hj => by simp at hj
 | y :: xs, [], j, _, h, _ => by cases h
 | y :: xs, v :: vs, 0, x, h, hj => by
  simp at hj
  subst hj
  exact ⟨v, rfl, h.1⟩
 | y :: xs, v :: vs, j + 1, x, h, hj => by
  obtain ⟨u, h1, h2⟩ := entvs_get (j := j) h.2 (by simpa using hj)
  exact ⟨u, by simpa using h1, h2⟩
end Go.Proofs.YtccikgogjfbpeabGreatDoor

namespace Go.Proofs.YtccikgogjfbpeabGreatDoor
open Go.RowKit
set_option maxRecDepth 30000 in
set_option maxHeartbeats 1000000 in
theorem understand_any (w : World) (b0 b1 : Nat) (ve : Value) (ents : List EntE) (vs : List Value) (h : w.ownsRow b0 200 1 ve ents.length vs) (hv : EntVs b1 w ents vs) (ho : ∀ x, x ∈ ents -> EntOk x) (hn : ents.length <= 4000) :
  Calls Tryz.prog 74 #[ve] w (UPost (underM [] [] ents) w) := by
 have HO := hid ho
 have HV := hid hv
 have HA : Hid (F0 w (w.alloc (.cells #[.slice none 0 0, .slice none 0 0] 59))) := (Fr.refl _ _).alloc _
 have HB0 := hid (bk_new w)
 clear ho hv
 by_cases hne : 0 < ents.length
 ·obtain ⟨g, cap, rfl, hb, hl⟩ := h.form hne
  have hadd : ∀ k, (⟨g, 0, none⟩ : Addr).add k = ⟨g, k, none⟩ := fun k => by unfold Addr.add; split <;> simp_all
  have HC : Hid (∀ j v, vs[j]? = some v -> w.cell? ⟨g, j, none⟩ = some v) := fun j v hj => by have := h.cells (g := g) rfl j v hj; rwa [hadd] at this
  clear h hne hadd
  go_enter Tryz.func74, Tryz.ntmps74
  go_wp2_with fail
  go_loopg [5, 10] ents.length (fun m _ c wr => ∃ j rts rls vr vl xs, j <= ents.length /\ m = ents.length - j /\ c = .int .i64 j /\ Hid (Bk wr w.heap.size vr vl rts rls xs) /\ Hid (Below w.heap.size w wr) /\ Hid (underM [] [] ents = underM rts rls (ents.drop j)))
  case atStart => exact ⟨0, [], [], _, _, _, Nat.zero_le _, rfl, rfl, HB0, HA.o.below (Nat.le_refl _) (by simp), rfl⟩
  case round =>
   obtain ⟨j, rts, rls, vr, vl, xs, hj, rfl, rfl, HK, HB, HU⟩ := hrel
   by_cases hlt : j < ents.length
   ·obtain ⟨x, hx⟩ : ∃ x, ents[j]? = some x := ⟨_, List.getElem?_eq_getElem hlt⟩
    obtain ⟨v, hvj, hE⟩ := entvs_get HV.o hx
    have HX := hid (hE.fr (Fr.of_below (S := fun _ => False) HB.o) (by simp) (Nat.le_refl _))
    have HOx := hid (HO.o x (List.mem_of_getElem? hx))
    have hcell : wr.cell? ⟨g, j, none⟩ = some v := (HB.o.cell (p := ⟨g, j, none⟩) hl).trans (HC.o j v hvj)
    have hdrop : Hid (ents.drop j = x :: ents.drop (j + 1)) := by
     obtain ⟨hlt', he⟩ := List.getElem?_eq_some_iff.1 hx
     show _ = _
     rw [List.drop_eq_getElem_cons hlt', he]
    have hki : (j : Int) < (ents.length : Int) := by omega
    clear hx hvj hE
    cases x with
    | route r =>
     have hv' : v = .iface 233 (routeV r) := HX.o
     subst hv'
     have hm : ∀ w : World, (method 449 233 (routeV r) "junction/rules.addTo").run Tryz.prog w = .ok (263, routeV r) w := fun _ => by kernel_rfl
     go_wp2_with fail
     refine (addEntR _ w.heap.size _ _ rts rls xs r HK.o HOx.o).mono ?_
     intro e w2 hT
     cases hA : addM rts rls (.route r) with
     | error f =>
      obtain ⟨he, hf⟩ := (AEPost.err hA).1 hT
      unfold faultE at he
      subst he
      have hu : underM [] [] ents = .error f := by rw [HU.o, hdrop.o]; exact underM_err hA
      exact ⟨rfl, (UPost.err hu).2 ⟨rfl, HB.o.trans hf⟩⟩
     | ok p =>
      obtain ⟨rfl, ⟨vr2, vl2, xs2, hk⟩, hf⟩ := (AEPost.ok hA).1 hT
      have HK2 := hid hk
      have HB2 := hid (HB.o.trans hf)
      have HU2 : Hid (underM [] [] ents = underM p.1 p.2 (ents.drop (j + 1))) := by show _ = _; rw [HU.o, hdrop.o]; exact underM_ok hA
      clear hk hf hA hT
      go_wp2
      go_roundg (ents.length - (j + 1))
      case measure => omega
      case rel => exact ⟨j + 1, p.1, p.2, vr2, vl2, xs2, by omega, rfl, by go_num, HK2, HB2, HU2⟩
    | rule r =>
     obtain ⟨vm, vc, vp, rfl, hr1, hr2, hr3⟩ := HX.o
     have HR1 := hid hr1
     have HR2 := hid hr2
     have HR3 := hid hr3
     clear hr1 hr2 hr3
     have hm : ∀ w : World, (method 449 238 (ruleV r vm vc vp) "junction/rules.addTo").run Tryz.prog w = .ok (267, ruleV r vm vc vp) w := fun _ => by kernel_rfl
     go_wp2_with fail
     refine (addEntL _ w.heap.size b1 _ _ rts rls xs r vm vc vp HK.o HOx.o HR1.o HR2.o HR3.o).mono ?_
     intro e w2 hT
     cases hA : addM rts rls (.rule r) with
     | error f =>
      obtain ⟨he, hf⟩ := (AEPost.err hA).1 hT
      unfold faultE at he
      subst he
      have hu : underM [] [] ents = .error f := by rw [HU.o, hdrop.o]; exact underM_err hA
      exact ⟨rfl, (UPost.err hu).2 ⟨rfl, HB.o.trans hf⟩⟩
     | ok p =>
      obtain ⟨rfl, ⟨vr2, vl2, xs2, hk⟩, hf⟩ := (AEPost.ok hA).1 hT
      have HK2 := hid hk
      have HB2 := hid (HB.o.trans hf)
      have HU2 : Hid (underM [] [] ents = underM p.1 p.2 (ents.drop (j + 1))) := by show _ = _; rw [HU.o, hdrop.o]; exact underM_ok hA
      clear hk hf hA hT
      go_wp2
      go_roundg (ents.length - (j + 1))
      case measure => omega
      case rel => exact ⟨j + 1, p.1, p.2, vr2, vl2, xs2, by omega, rfl, by go_num, HK2, HB2, HU2⟩
   ·have hki : ¬ (j : Int) < (ents.length : Int) := by omega
    have HQ : Hid (underM [] [] ents = .ok (rts, rls)) := by show _ = _; rw [HU.o, List.drop_of_length_le (by omega)]; rfl
    go_wp2
    go_ret
    exact (UPost.ok HQ.o).2 ⟨rfl, ⟨_, _, _, HK.o⟩, HB.o⟩
 ·have hz : ents = [] := List.eq_nil_of_length_eq_zero (by omega)
  subst hz
  rcases h.2 with ⟨rfl, _⟩ | ⟨g, cap, cur, rfl, _⟩
  all_goals
   clear h
   go_enter Tryz.func74, Tryz.ntmps74
   go_wp2_with fail
   go_loopg [5, 10] 1 (fun m _ c wr => m = 1 /\ c = .int .i64 0 /\ wr = w.alloc (.cells #[.slice none 0 0, .slice none 0 0] 59))
   case atStart => exact ⟨rfl, rfl, rfl⟩
   case round =>
    obtain ⟨rfl, rfl, rfl⟩ := hrel
    go_wp2
    go_ret
    exact (UPost.ok (p := ([], [])) rfl).2 ⟨rfl, ⟨_, _, _, HB0.o⟩, HA.o.below (Nat.le_refl _) (by simp)⟩
end Go.Proofs.YtccikgogjfbpeabGreatDoor

namespace Go.Proofs.YtccikgogjfbpeabGreatDoor
def TkOk (n : Nat) (t : Tk) : Prop := (t.sort = 1 -> Dg t.text) /\ t.text.size <= n /\ t.sort <= 3
theorem runLen_all (p : Int -> Bool) : ∀ (l : List UInt8) (j : Nat), j < runLen p l -> ∃ c, l[j]? = some c /\ p (c.toNat : Int) = true
 | [], j, h => by simp [runLen] at h
 | c :: r, j, h => by
  simp only [runLen] at h
  split at h
  ·rename_i hc
   cases j with
   | zero => exact ⟨c, rfl, hc⟩
   | succ j =>
    obtain ⟨d, hd, hp⟩ := runLen_all p r j (by omega)
    exact ⟨d, by simpa using hd, hp⟩
  ·omega
theorem bAt_extract (s : ByteArray) (a b j : Nat) (h : a + j < b) : bAt (s.extract a b) j = bAt s (a + j) := by
 unfold bAt
 rw [Lib.extract_data, List.getD_eq_getElem?_getD, List.getD_eq_getElem?_getD, List.getElem?_take, if_pos (by omega), List.getElem?_drop]
theorem dg_run (s : ByteArray) (k : Nat) (hk : k <= s.size) (h9 : runAt isDigitB s k <= 9) : Dg (s.extract k (k + runAt isDigitB s k)) := by
 have hle := runAt_le isDigitB s k hk
 refine ⟨by simp; omega, fun j hj => ?_⟩
 have hj' : j < runAt isDigitB s k := by simp at hj; omega
 rw [bAt_extract s k _ j (by omega)]
 obtain ⟨c, hc, hp⟩ := runLen_all isDigitB (s.data.toList.drop k) j hj'
 rw [List.getElem?_drop] at hc
 have e : bAt s (k + j) = (c.toNat : Int) := by unfold bAt; rw [List.getD_eq_getElem?_getD, hc]; rfl
 rw [e]
 simpa [isDigitB] using hp
theorem lexStep_ok {s : ByteArray} {k line k' : Nat} {t : Tk} (h : k < s.size) (hs : lexStep s k line = .tok t k') : TkOk s.size t := by
 have hz : ∀ a b, (s.extract a b).size <= s.size := fun a b => by simp; omega
 unfold lexStep at hs
 split at hs
 ·contradiction
 split at hs
 ·contradiction
 split at hs
 ·contradiction
 split at hs
 ·split at hs
  ·injection hs with h1 h2; subst h1; exact ⟨fun e => by simp at e, hz _ _, by simp⟩
  split at hs
  ·contradiction
  ·injection hs with h1 h2; subst h1; exact ⟨fun e => by simp at e, hz _ _, by simp⟩
 split at hs
 ·split at hs
  ·contradiction
  ·rename_i h9
   injection hs with h1 h2
   subst h1
   exact ⟨fun _ => dg_run s k (by omega) (by omega), hz _ _, by simp⟩
 split at hs
 ·injection hs with h1 h2; subst h1; exact ⟨fun e => by simp at e, hz _ _, by simp⟩
 split at hs
 ·injection hs with h1 h2; subst h1; exact ⟨fun e => by simp at e, hz _ _, by simp⟩
 ·contradiction
theorem lexFrom_all {s : ByteArray} : ∀ (n k line : Nat) (acc ts : List Tk), s.size - k = n -> (∀ t, t ∈ acc -> TkOk s.size t) -> lexFrom s k line acc = .ok ts -> (∀ t, t ∈ ts -> TkOk s.size t) /\ (ts.getLastD ⟨3, ByteArray.empty, 0⟩).sort = 3 /\ 0 < ts.length := by
 intro n
 induction n using Nat.strongRecOn with
 | ind n ih =>
  intro k line acc ts hn hacc h
  by_cases hk : k < s.size
  ·cases hL : lexStep s k line with
   | skip k' l' =>
    rw [lexFrom_skip hk hL] at h
    have := lexStep_skip hk hL
    exact ih (s.size - k') (by omega) k' l' acc ts rfl hacc h
   | tok t k' =>
    rw [lexFrom_tok hk hL] at h
    have := lexStep_tok hk hL
    refine ih (s.size - k') (by omega) k' line (acc ++ [t]) ts rfl (fun u hu => ?_) h
    rcases List.mem_append.1 hu with hu | hu
    ·exact hacc u hu
    ·simp at hu; subst hu; exact lexStep_ok hk hL
   | bad => rw [lexFrom_bad hk hL] at h; cases h
  ·rw [lexFrom_end hk] at h
   injection h with h
   subst h
   refine ⟨fun u hu => ?_, by simp, by simp⟩
   rcases List.mem_append.1 hu with hu | hu
   ·exact hacc u hu
   ·simp at hu; subst hu; exact ⟨fun e => by simp at e, by simp, by simp⟩
end Go.Proofs.YtccikgogjfbpeabGreatDoor

namespace Go.Proofs.YtccikgogjfbpeabGreatDoor
section
variable {n : Nat} {ts : List Tk}
theorem tkAt_ok (h : ∀ t, t ∈ ts -> TkOk n t) (i : Nat) : TkOk n (tkAt ts i) := by
 unfold tkAt
 rw [List.getD_eq_getElem?_getD]
 cases hq : ts[i]? with
 | none => exact ⟨fun e => by simp at e, by simp, by simp⟩
 | some t => exact h t (List.mem_of_getElem? hq)
theorem take_ok (h : ∀ t, t ∈ ts -> TkOk n t) {i want : Nat} {t : Tk} {k : Nat} (ht : takeM ts i want = .ok (t, k)) : TkOk n t /\ t.sort = want := by
 obtain ⟨rfl, h2, _⟩ := takeM_ok ht
 exact ⟨tkAt_ok h i, h2⟩
theorem take_dg (h : ∀ t, t ∈ ts -> TkOk n t) {i : Nat} {t : Tk} {k : Nat} (ht : takeM ts i 1 = .ok (t, k)) : Dg t.text :=
 have := take_ok h ht
 this.1.1 this.2
theorem rest_ok (h : ∀ t, t ∈ ts -> TkOk n t) {want : Nat} : ∀ (m i : Nat) (acc l : List Tk) (k : Nat), ts.length - i = m -> (∀ t, t ∈ acc -> TkOk n t /\ t.sort = want) -> restM ts i want acc = .ok (l, k) -> (∀ t, t ∈ l -> TkOk n t /\ t.sort = want) /\ l.length <= acc.length + (ts.length - i) := by
 intro m
 induction m using Nat.strongRecOn with
 | ind m ih =>
  intro i acc l k hm ha hr
  rw [restM] at hr
  split at hr
  ·rename_i hq
   have hlt := isFix_lt hq
   split at hr
   ·cases hr
   ·rename_i t i' ht
    have e := (takeM_ok ht).2.2
    have := ih (ts.length - i') (by omega) i' _ l k rfl (fun u hu => by
     rcases List.mem_append.1 hu with hu | hu
     ·exact ha u hu
     ·simp at hu; subst hu; exact take_ok h ht) hr
    refine ⟨this.1, ?_⟩
    have h2 := this.2
    simp at h2
    omega
  ·injection hr with hr
   injection hr with h1 h2
   subst h1
   exact ⟨ha, by omega⟩
theorem list_ok (h : ∀ t, t ∈ ts -> TkOk n t) {i want : Nat} {l : List Tk} {k : Nat} (hl : listM ts i want = .ok (l, k)) : (∀ t, t ∈ l -> TkOk n t /\ t.sort = want) /\ l.length <= 1 + ts.length := by
 unfold listM at hl
 split at hl
 ·cases hl
 ·rename_i t i1 ht
  have := rest_ok h _ i1 [t] l k rfl (fun u hu => by simp at hu; subst hu; exact take_ok h ht) hl
  exact ⟨this.1, by have := this.2; simp at this; omega⟩
theorem optList_ok (h : ∀ t, t ∈ ts -> TkOk n t) {i : Nat} {kw : ByteArray} {l : List Tk} {k : Nat} (hl : optList ts i kw = .ok (l, k)) : (∀ t, t ∈ l -> Dg t.text) /\ l.length <= 1 + ts.length := by
 unfold optList at hl
 split at hl
 ·have := list_ok h hl
  exact ⟨fun t ht => (this.1 t ht).1.1 (this.1 t ht).2, this.2⟩
 ·injection hl with hl
  injection hl with h1 _
  subst h1
  exact ⟨by simp, by simp⟩
theorem pair_ok (h : ∀ t, t ∈ ts -> TkOk n t) {i : Nat} {ab : Tk × Tk} {k : Nat} (hp : pairM ts i = .ok (ab, k)) : Dg ab.1.text /\ Dg ab.2.text := by
 rw [pairM_bind] at hp
 obtain ⟨a, j1, h1, hp⟩ := bindM_inv hp
 obtain ⟨_, j2, h2, hp⟩ := bindM_inv hp
 obtain ⟨b, j3, h3, hp⟩ := bindM_inv hp
 injection hp with hp
 injection hp with hp _
 subst hp
 exact ⟨take_dg h h1, take_dg h h3⟩
theorem optPair_ok (h : ∀ t, t ∈ ts -> TkOk n t) {i : Nat} {kw : ByteArray} {o : Option (Tk × Tk)} {k : Nat} (hp : optPair ts i kw = .ok (o, k)) : ∀ ab, o = some ab -> Dg ab.1.text /\ Dg ab.2.text := by
 unfold optPair at hp
 split at hp
 ·obtain ⟨ab, j, h1, h2⟩ := bindM_inv hp
  injection h2 with h2
  injection h2 with h2 _
  subst h2
  intro ab' e
  injection e with e
  subst e
  exact pair_ok h h1
 ·injection hp with hp
  injection hp with hp _
  subst hp
  intro ab e
  cases e
theorem action_ok (h : ∀ t, t ∈ ts -> TkOk n t) {i : Nat} {a : ActE} {k : Nat} (ha : actionM ts i = .ok (a, k)) : a.routes.length <= 1 + ts.length := by
 unfold actionM at ha
 split at ha
 ·injection ha with ha; injection ha with ha _; subst ha; simp
 split at ha
 ·obtain ⟨l, j, h1, h2⟩ := bindM_inv ha
  injection h2 with h2; injection h2 with h2 _; subst h2
  exact (list_ok h h1).2
 ·obtain ⟨l, j, h1, h2⟩ := bindM_inv ha
  injection h2 with h2; injection h2 with h2 _; subst h2
  exact (list_ok h h1).2
theorem entry_ok (h : ∀ t, t ∈ ts -> TkOk n t) (hn : n <= 3000) (hl : ts.length <= 3999) {i : Nat} {e : EntE} {k : Nat} (he : entryM ts i = .ok (e, k)) : EntOk e := by
 unfold entryM at he
 split at he
 ·obtain ⟨r, j, h1, h2⟩ := bindM_inv he
  injection h2 with h2; injection h2 with h2 _; subst h2
  unfold routeM at h1
  obtain ⟨a, j1, g1, h1⟩ := bindM_inv h1
  obtain ⟨b, j2, g2, h1⟩ := bindM_inv h1
  obtain ⟨c, j3, g3, h1⟩ := bindM_inv h1
  injection h1 with h1; injection h1 with h1 _; subst h1
  exact ⟨Nat.le_trans (take_ok h g1).1.2.1 hn, take_dg h g2, take_dg h g3⟩
 ·obtain ⟨_, j, h1, he⟩ := bindM_inv he
  obtain ⟨r, j2, h2, he⟩ := bindM_inv he
  injection he with he; injection he with he _; subst he
  unfold ruleM at h2
  obtain ⟨a, j1, g1, h2⟩ := bindM_inv h2
  obtain ⟨b, j2, g2, h2⟩ := bindM_inv h2
  obtain ⟨_, j3, g3, h2⟩ := bindM_inv h2
  obtain ⟨_, j4, g4, h2⟩ := bindM_inv h2
  obtain ⟨c, j5, g5, h2⟩ := bindM_inv h2
  obtain ⟨d, j6, g6, h2⟩ := bindM_inv h2
  obtain ⟨f, j7, g7, h2⟩ := bindM_inv h2
  obtain ⟨g, j8, g8, h2⟩ := bindM_inv h2
  obtain ⟨_, j9, g9, h2⟩ := bindM_inv h2
  obtain ⟨a10, j10, g10, h2⟩ := bindM_inv h2
  injection h2 with h2; injection h2 with h2 _; subst h2
  have q6 := optList_ok h g6
  have q8 := optList_ok h g8
  have q10 := action_ok h g10
  exact ⟨Nat.le_trans (take_ok h g1).1.2.1 hn, take_dg h g2, (pair_ok h g5).1, (pair_ok h g5).2, q6.1, q8.1, optPair_ok h g7, Nat.le_trans q6.2 (by omega), Nat.le_trans q8.2 (by omega), Nat.le_trans q10 (by omega)⟩
theorem parse_ok (h : ∀ t, t ∈ ts -> TkOk n t) (hn : n <= 3000) (hl : ts.length <= 3999) : ∀ (m i : Nat) (acc xs : List EntE) (k : Nat), ts.length - i = m -> (∀ x, x ∈ acc -> EntOk x) -> parseFrom ts i acc = .ok (xs, k) -> ∀ x, x ∈ xs -> EntOk x := by
 intro m
 induction m using Nat.strongRecOn with
 | ind m ih =>
  intro i acc xs k hm ha hp
  by_cases hs : (tkAt ts i).sort = 3
  ·rw [parseFrom_end hs] at hp
   injection hp with hp; injection hp with hp _; subst hp
   exact ha
  ·cases he : entryM ts i with
   | error l => rw [parseFrom_err1 hs he] at hp; cases hp
   | ok r =>
    obtain ⟨e, j⟩ := r
    cases hx : expectM ts j mSemi with
    | error l => rw [parseFrom_err2 hs he hx] at hp; cases hp
    | ok r =>
     obtain ⟨u, k2⟩ := r
     rw [parseFrom_ok hs he hx] at hp
     have h1 := entryM_lt he
     have h2 := expectM_ok hx
     have h3 : i < ts.length := by
      rcases Nat.lt_or_ge i ts.length with h' | h'
      ·exact h'
      ·exfalso
       apply hs
       unfold tkAt
       rw [List.getD_eq_getElem?_getD, List.getElem?_eq_none h']
       rfl
     refine ih (ts.length - k2) (by omega) k2 _ xs k rfl (fun x hx => ?_) hp
     rcases List.mem_append.1 hx with hx | hx
     ·exact ha x hx
     ·simp at hx; subst hx; exact entry_ok h hn hl he
end
end Go.Proofs.YtccikgogjfbpeabGreatDoor
