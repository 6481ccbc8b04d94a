import Derived.Test.YtccikgogjfbpeaaGreatDoorZg
import Derived.Test.YtccikgogjfbpeaaGreatDoorQq
import Derived.Test.YtccikgogjfbpeaaGreatDoorQz
import Derived.Test.YtccikgogjfbpeaaGreatDoorQm
namespace Go.Proofs.YtccikgogjfbpeaaGreatDoor
set_option maxRecDepth 30000
set_option maxHeartbeats 8000000
open Go.RowKit
structure RulesAt (w : World) (B q : Nat) (body : List Tk) (rts : List RouteM) (rls : List RuleM) : Prop where
 tk : ∃ a c, w.cell? ⟨q, 0, none⟩ = some (.slice a body.length c) /\ (0 < body.length -> ∃ g, a = some ⟨g, 0, none⟩ /\ B <= g /\ g < w.heap.size /\ RTk w g body)
 qb : B <= q /\ q < w.heap.size
 few : body.length <= 3000 /\ ∀ t, t ∈ body -> t.text.size <= 3000
 txt : bookJ rts rls = refText body body.length
 row : ∃ B2 vr vl xs, B <= B2 /\ w.cell? ⟨q, 1, none⟩ = some vr /\ w.cell? ⟨q, 2, none⟩ = some vl /\ w.ownsRow B2 189 3 vr rts.length (rtRow rts) /\ w.ownsRow B2 170 13 vl rls.length xs /\ RrVs B2 w (rls.map RuleM.ref) xs
theorem RulesAt.fr {w w' : World} {B q : Nat} {body : List Tk} {rts : List RouteM} {rls : List RuleM} (h : RulesAt w B q body rts rls) (hf : F0 w w') : RulesAt w' B q body rts rls := by
 obtain ⟨⟨a, c, h1, h2⟩, hq, hb, ht, B2, vr, vl, xs, r0, r1, r2, r3, r4, r5⟩ := h;refine ⟨⟨a, c, (hf.cell (p := ⟨q, 0, none⟩) hq.2 (by simp)).trans h1, fun h0 => ?_⟩, ⟨hq.1, nL hq.2 hf.size⟩, hb, ht, B2, vr, vl, xs, r0, (hf.cell (p := ⟨q, 1, none⟩) hq.2 (by simp)).trans r1, (hf.cell (p := ⟨q, 2, none⟩) hq.2 (by simp)).trans r2, oF r3 hf (by simp), oF r4 hf (by simp), RrVs.keep (fun v n ys hv => oF hv hf (by simp)) r5⟩;obtain ⟨g, e, h3, h4, h5⟩ := h2 h0;exact ⟨g, e, h3, nL h4 hf.size, h5.fr hf h4 (by simp)⟩
def NwPost (x : Except (Nat × Nat) (List RouteM × List RuleM)) (w : World) (e : Ending) (w' : World) : Prop :=
 match x with
 | .ok p => (∃ q body, e = .returned (.tuple #[.pointer (some ⟨q, 0, none⟩), .int .i64 0, .int .i64 0]) /\ RulesAt w' w.heap.size q body p.1 p.2) /\ F0 w w'
 | .error f => e = .returned (.tuple #[.pointer none, .int .i64 f.1, .int .i64 f.2]) /\ F0 w w'
theorem NwPost.ok {x : Except (Nat × Nat) (List RouteM × List RuleM)} {w w' : World} {e : Ending} {p : List RouteM × List RuleM} (h : x = .ok p) : NwPost x w e w' ↔ (∃ q body, e = .returned (.tuple #[.pointer (some ⟨q, 0, none⟩), .int .i64 0, .int .i64 0]) /\ RulesAt w' w.heap.size q body p.1 p.2) /\ F0 w w' := by subst h; exact Iff.rfl
theorem NwPost.err {x : Except (Nat × Nat) (List RouteM × List RuleM)} {w w' : World} {e : Ending} {f : Nat × Nat} (h : x = .error f) : NwPost x w e w' ↔ e = .returned (.tuple #[.pointer none, .int .i64 f.1, .int .i64 f.2]) /\ F0 w w' := by subst h; exact Iff.rfl
def NSt (XS : List EntE) (body : List Tk) (i : Nat) (f : Fa) (rts : List RouteM) (rrs : List RuleR) : Prop :=
 (f = none -> ∃ ys, EntsAt body i ys /\ refUnder [] [] XS = refUnder rts rrs ys /\ rts.length <= 6 /\ rrs.length <= 8) /\ (∀ x, f = some x -> refUnder [] [] XS = .error x)
theorem nst_route {XS ys : List EntE} {body : List Tk} {j : Nat} {rts : List RouteM} {rrs : List RuleR} {r : RouteE} (hu : refUnder [] [] XS = refUnder rts rrs (.route r :: ys)) (he : EntsAt body (j + 1) ys) (h8 : rrs.length <= 8) :
  NSt XS body (j + 1) (refRouteF rts none r) (rts ++ [⟨r.name.text, valOf r.base, valOf r.rate⟩]) rrs := by
 simp only [refUnder] at hu;refine ⟨fun hf => ⟨ys, he, ?_, ?_, h8⟩, fun x hx => ?_⟩
 ·rw [hf] at hu; exact hu
 ·have := refRouteF_many hf; simp; omega
 ·rw [hx] at hu; exact hu
theorem nst_rule {XS ys : List EntE} {body : List Tk} {j : Nat} {rts : List RouteM} {rrs : List RuleR} {r : RuleE} (hu : refUnder [] [] XS = refUnder rts rrs (.rule r :: ys)) (he : EntsAt body (j + 1) ys) (h6 : rts.length <= 6) :
  NSt XS body (j + 1) (refRuleF rts (rrs.map RuleR.name) none r) rts (rrs ++ [refRule rts r]) := by
 simp only [refUnder] at hu;refine ⟨fun hf => ⟨ys, he, ?_, h6, ?_⟩, fun x hx => ?_⟩
 ·rw [hf] at hu; exact hu
 ·have := refRuleF_many hf; rw [List.length_map] at this; simp; omega
 ·rw [hx] at hu; exact hu
theorem under_of {XS : List EntE} (ho : ∀ x, x ∈ XS -> EntOk x) : refUnder [] [] XS = (match underM [] [] XS with | .error f => .error f | .ok p => .ok (p.1, p.2.map RuleM.ref)) :=
 refUnder_eq XS [] [] (by simp) (by simp) trivial ho
theorem nst_end {XS : List EntE} {body : List Tk} {rts : List RouteM} {rrs : List RuleR} (ho : ∀ x, x ∈ XS -> EntOk x) (h : NSt XS body body.length none rts rrs) : ∃ p, underM [] [] XS = .ok p /\ rts = p.1 /\ rrs = p.2.map RuleM.ref := by
 obtain ⟨ys, he, hu, _⟩ := h.1 rfl
 cases ys with
 | cons e ys =>
  obtain ⟨j, ⟨h1, h2, _⟩, _⟩ := he;omega
 | nil =>
  simp only [refUnder] at hu;rw [under_of ho] at hu
  cases hU : underM [] [] XS with
  | error f => rw [hU] at hu; cases hu
  | ok p =>
   rw [hU] at hu;injection hu with hu;injection hu with h1 h2;exact ⟨p, rfl, h1.symm, h2.symm⟩
theorem nst_fault {XS : List EntE} {body : List Tk} {i : Nat} {x : Nat × Nat} {rts : List RouteM} {rrs : List RuleR} (ho : ∀ x, x ∈ XS -> EntOk x) (h : NSt XS body i (some x) rts rrs) : underM [] [] XS = .error x := by
 have hu := h.2 x rfl;rw [under_of ho] at hu
 cases hU : underM [] [] XS with
 | error f => rw [hU] at hu; injection hu with hu; rw [hu]
 | ok p => rw [hU] at hu; cases hu
theorem RSt.rulesAt {w : World} {B0 B B2 p q g i : Nat} {f : Fa} {body : List Tk} {cv : Nat} {vr vl : Value} {rts : List RouteM} {rls : List RuleM} {xs : List Value} (h : RSt w B B2 p q g i f body cv vr vl rts (rls.map RuleM.ref) xs) (hg : B0 <= g) (hB : B0 <= B) (hb : body.length <= 3000) (ht : ∀ t, t ∈ body -> t.text.size <= 3000) (hx : bookJ rts rls = refText body body.length) : RulesAt w B0 q body rts rls := by
 have hl := h.lo;rw [List.length_map] at hl;exact ⟨⟨_, _, h.wt.c0, fun _ => ⟨g, rfl, hg, h.wt.lt, h.wt.row⟩⟩, ⟨Nat.le_trans hB h.qB.1, nL h.qB.2 h.b2⟩, ⟨hb, ht⟩, hx, B2, vr, vl, xs, Nat.le_trans hB (Nat.le_trans h.pB.1 (Nat.le_of_lt h.pB.2)), h.q1, h.q2, h.ro, hl, h.ru⟩
theorem New_any (s : ByteArray) (w : World) : Calls Tryz.prog 43 #[.string s] w (NwPost (readM s) w) := by
 by_cases hs : 3000 < s.size
 ·have HQ : Hid (readM s = .error (1, 0)) := by show _ = _; unfold readM; rw [if_pos hs]
  go_enter Tryz.func43, Tryz.ntmps43;go_wp2_with fail
  go_ret3
  exact (NwPost.err HQ.o).2 ⟨rfl, Fr.refl _ _⟩
 have HS := hid hs;go_enter Tryz.func43, Tryz.ntmps43;go_wp2_with fail;clear hs;refine (Tokens_any s w (by have := HS.o; omega)).mono ?_;intro e w1 hT
 cases hL : lexFrom s 0 1 [] with
 | error l =>
  obtain ⟨rfl, hf⟩ := (TokPost.err hL).1 hT;have HF := hid hf;have hl : 1 <= l := (lexFrom_line _ 0 1 [] rfl (by omega) (by simp)).1 l hL
  have HQ : Hid (readM s = .error (2, l)) := by show _ = _; unfold readM; rw [if_neg HS.o, hL]
  have d0 : decide ((0 : Int) < (l : Int)) = true := by simp; omega
  clear hT hf hL;go_wp2_with fail
  go_ret3
  exact (NwPost.err HQ.o).2 ⟨rfl, HF.o⟩
 | ok ts =>
  obtain ⟨⟨v, rfl, hown⟩, hf⟩ := (TokPost.ok hL).1 hT;obtain ⟨body, hts, hB, hall⟩ := lex_body hL;have hlen := lexFrom_len _ 0 1 [] ts rfl (Nat.zero_le _) hL;have hlines := (lexFrom_line (s := s) _ 0 1 [] rfl (by omega) (by simp)).2 ts hL;rw [hts] at hown hlen hlines;rw [List.dropLast_concat] at hown
  have hb : body.length <= 3000 := by have := HS.o; simp at hlen; omega
  have HF1 := hid hf;have HOWN := hid hown;have HBK := hid hB;have HALL := hid hall
  have HRD : Hid (readM s = match parseFrom (body ++ [⟨3, ByteArray.empty, 1 + nls s.data.toList⟩]) 0 [] with | .error l => .error (3, l) | .ok (xs, _) => underM [] [] xs) := by
   show _ = _
   unfold readM;rw [if_neg HS.o, hL]
   dsimp only
   rw [hts];rfl
  obtain ⟨hF1, hF2⟩ := form_of (body := body) (en := ⟨3, ByteArray.empty, 1 + nls s.data.toList⟩) rfl hB.ns hlines;have HF1' := hid hF1;have HF2' := hid hF2
  have HFM : Hid (∀ r N, formRun (body ++ [⟨3, ByteArray.empty, 1 + nls s.data.toList⟩]) N [.rules] 0 = some r -> Calls Tryz.prog 79 #[v] w1 fun e w' => e = .returned (.int .i64 (formAns (body ++ [⟨3, ByteArray.empty, 1 + nls s.data.toList⟩]) r)) /\ F0 w1 w') := fun r N hN => Form_any w1 w.heap.size v body _ ⟨rfl, rfl⟩ hown (fun t ht => (hall t ht).1) hb N r hN
  obtain ⟨va, vc, hv⟩ := oL hown;clear hT hf hL hown hB hall hlen hlines hF1 hF2 hts;subst hv;obtain ⟨n, hn⟩ : ∃ n, body.length = n := ⟨_, rfl⟩;rw [hn] at HOWN HFM hb ⊢;have HN := hid hn;clear hn
  cases hP : parseFrom (body ++ [⟨3, ByteArray.empty, 1 + nls s.data.toList⟩]) 0 [] with
  | error l =>
   obtain ⟨N, j, hN, hor⟩ := HF2'.o l hP
   have HQ : Hid (readM s = .error (3, l)) := by show _ = _; rw [HRD.o, hP]
   have HC := hid (HFM.o _ _ hN);have HOR := hid hor;clear hP hN hor;go_wp2_with fail;refine HC.o.mono ?_;rintro e w2 ⟨rfl, hf⟩;have HF2 := hid (HF1.o.trans hf);clear hf;rcases HOR.o with ⟨h1, h2⟩ | ⟨h1, h2⟩
   ·rw [h1]
    have HL2 := hid h2;clear h1 h2;go_wp2_with fail
    go_loopg [7, 8] s.size (fun m ln ix wr => ∃ k lo, k <= s.size /\ m = s.size - k /\ ln = .int .i64 (lo : Nat) /\ ix = .int .i64 (k : Nat) /\ lo <= k + 1 /\ Hid (lo + nls (s.data.toList.drop k) = 1 + nls s.data.toList) /\ Hid (F0 w wr))
    case atStart => exact ⟨0, 1, Nat.zero_le _, rfl, rfl, rfl, by omega, by show _ = _; rw [List.drop_zero], HF2⟩
    case round =>
     obtain ⟨k, lo, hk, rfl, rfl, rfl, hlo, HR, HFr⟩ := hrel
     have hs3 : s.size <= 3000 := by have := HS.o; omega
     by_cases hlt : k < s.size
     ·have hki : (k : Int) < (s.size : Int) := by omega
      have hix := fun w => index_at (P := Tryz.prog) Tryz.underlying9 s k (k : Int) rfl hlt w
      by_cases h10 : bAt s k = 10
      ·have HT : Hid (nls (s.data.toList.drop k) = nls (s.data.toList.drop (k + 1)) + 1) := by show _ = _; rw [nls_step s k hlt, if_pos h10]
       rw [h10] at hix;clear h10;go_wp2;go_roundg (s.size - (k + 1))
       case measure => omega
       case rel => exact ⟨k + 1, lo + 1, by omega, rfl, by go_num, by go_num, by omega, by (have := HR.o; have := HT.o; show _ = _; omega), HFr⟩
      ·have HT := hid (nls_other s k hlt h10)
       go_wp2;go_roundg (s.size - (k + 1))
       case measure => omega
       case rel => exact ⟨k + 1, lo, by omega, rfl, rfl, by go_num, by omega, by (have := HR.o; have := HT.o; show _ = _; omega), HFr⟩
     ·have hki : ¬ (k : Int) < (s.size : Int) := by omega
      have HLO : Hid (lo = l) := by
       have e := HR.o;rw [dL (by simp; omega)] at e;have := HL2.o
       show _ = _
       simp [nls] at e this;omega
      go_wp2_with fail
      go_ret3
      exact (NwPost.err HQ.o).2 ⟨by rw [HLO.o]; rfl, HFr.o⟩
   ·rw [h1]
    have d1 : ((l : Int) != 0) = true := by simp; omega
    have d2 : decide ((l : Int) < 0) = false := by simp
    clear h1;go_wp2_with fail
    go_ret3
    exact (NwPost.err HQ.o).2 ⟨rfl, HF2.o⟩
  | ok r =>
   obtain ⟨xs, kk⟩ := r;obtain ⟨N, hN⟩ := HF1'.o xs kk hP;have HC := hid (HFM.o _ _ hN)
   have HOK : Hid (∀ x, x ∈ xs -> EntOk x) := parse_ok (ts := body ++ [⟨3, ByteArray.empty, 1 + nls s.data.toList⟩]) (n := s.size) (fun t ht => by
    rcases List.mem_append.1 ht with h | h
    ·exact (HALL.o t h).2
    ·simp at h; subst h; exact ⟨fun e => by simp at e, by simp, by simp⟩) (by have := HS.o; omega) (by have := HN.o; simp; omega) _ 0 [] xs kk rfl (by simp) hP
   have HEN : Hid (EntsAt body 0 xs) := by
    obtain ⟨ys, e, h⟩ := parse_ents rfl HBK.o _ 0 [] xs kk rfl (Nat.zero_le _) HOK.o hP;rw [e];exact h
   have HU : Hid (readM s = underM [] [] xs) := by show _ = _; rw [HRD.o, hP]
   have HTX : Hid (∀ p, underM [] [] xs = .ok p -> bookJ p.1 p.2 = refText body body.length) := fun p hp => texts_eq HBK.o hP HOK.o hp
   have HTS : Hid (∀ t, t ∈ body -> t.text.size <= 3000) := fun t ht => by have := (HALL.o t ht).2.2.1; have := HS.o; omega
   clear hP hN;go_wp2_with fail;refine HC.o.mono ?_;rintro e w2 ⟨rfl, hf⟩;have HF2 := hid (HF1.o.trans hf);have HOWN2 := hid (oF HOWN.o hf (by simp));clear hf;rcases Nat.eq_zero_or_pos n with h0 | h0
   ·subst h0
    have HXS : Hid (xs = []) := by
     have e := HEN.o;have hn := HN.o
     cases xs with
     | nil => rfl
     | cons x r => obtain ⟨j, ⟨h1, h2, _⟩, _⟩ := e; omega
    have HUQ : Hid (readM s = .ok ([], [])) := by show _ = _; rw [HU.o, HXS.o]; rfl
    have HTX' := hid (HTX.o ([], []) (by rw [HXS.o]; rfl));go_wp2_with fail;have q0 : ((w2.alloc (.cells #[.slice va 0 vc, .slice none 0 0, .slice none 0 0] 71)).alloc (.cells #[.pointer (some ⟨w2.heap.size, 0, none⟩), .int .i64 0, .int .i64 0, .int .i64 0] 164)).heap[w2.heap.size]? = some (.cells #[.slice va 0 vc, .slice none 0 0, .slice none 0 0] 71) := ((Fr.refl (fun _ => False) _).alloc _).whole (aN w2 _) (by simp)
    have p0 : ((w2.alloc (.cells #[.slice va 0 vc, .slice none 0 0, .slice none 0 0] 71)).alloc (.cells #[.pointer (some ⟨w2.heap.size, 0, none⟩), .int .i64 0, .int .i64 0, .int .i64 0] 164)).heap[w2.heap.size + 1]? = some (.cells #[.pointer (some ⟨w2.heap.size, 0, none⟩), .int .i64 0, .int .i64 0, .int .i64 0] 164) := by have := aN (w2.alloc (.cells #[.slice va 0 vc, .slice none 0 0, .slice none 0 0] 71)) (.cells #[.pointer (some ⟨w2.heap.size, 0, none⟩), .int .i64 0, .int .i64 0, .int .i64 0] 164); simpa using this
    have HFA : Hid (F0 w2 ((w2.alloc (.cells #[.slice va 0 vc, .slice none 0 0, .slice none 0 0] 71)).alloc (.cells #[.pointer (some ⟨w2.heap.size, 0, none⟩), .int .i64 0, .int .i64 0, .int .i64 0] 164))) := ((Fr.refl _ _).alloc _).alloc _;generalize (w2.alloc (.cells #[.slice va 0 vc, .slice none 0 0, .slice none 0 0] 71)).alloc (.cells #[.pointer (some ⟨w2.heap.size, 0, none⟩), .int .i64 0, .int .i64 0, .int .i64 0] 164) = W at *;have HQB := hid ((iA.1 q0).1);have HQ0 := hid q0;have HP0 := hid p0;clear q0 p0
    go_loopg [] 0 (fun _ wr => Hid (wr = W))
    case atStart => exact rfl
    case round =>
     have e := hrel.o;subst e;have c0 := bC HP0.o 0 _ rfl;have c1 := bC HP0.o 1 _ rfl;have c2 := bC HP0.o 2 _ rfl;have c3 := bC HP0.o 3 _ rfl;go_wp2_with fail
     go_ret3
     refine (NwPost.ok HUQ.o).2 ⟨⟨w2.heap.size, body, rfl, ⟨⟨va, vc, ?_, fun h => by have := HN.o; omega⟩, ⟨HF2.o.size, HQB.o⟩, ⟨by have := HN.o; omega, HTS.o⟩, HTX'.o, w.heap.size, .slice none 0 0, .slice none 0 0, [], Nat.le_refl _, bC HQ0.o 1 _ rfl, bC HQ0.o 2 _ rfl, oZ _ _ _ _, oZ _ _ _ _, rfl⟩⟩, HF2.o.trans HFA.o⟩;rw [HN.o];exact bC HQ0.o 0 _ rfl
   ·obtain ⟨g, hva, HG⟩ : ∃ g, va = some ⟨g, 0, none⟩ /\ Hid (w.heap.size <= g /\ g < w2.heap.size /\ RTk w2 g body) := by
     have e := HOWN2.o;rw [<- HN.o] at e;obtain ⟨a', c', e2, hr⟩ := ownsRow_rtok e;injection e2 with e3 _ _;subst e3;obtain ⟨g, e5, hg1, hg2, hrt⟩ := hr (by have := HN.o; omega);exact ⟨g, e5, hg1, hg2, hrt⟩
    subst hva;go_wp2_with fail;have q0 : ((w2.alloc (.cells #[.slice (some ⟨g, 0, none⟩) n vc, .slice none 0 0, .slice none 0 0] 71)).alloc (.cells #[.pointer (some ⟨w2.heap.size, 0, none⟩), .int .i64 0, .int .i64 0, .int .i64 0] 164)).heap[w2.heap.size]? = some (.cells #[.slice (some ⟨g, 0, none⟩) n vc, .slice none 0 0, .slice none 0 0] 71) := ((Fr.refl (fun _ => False) _).alloc _).whole (aN w2 _) (by simp)
    have p0 : ((w2.alloc (.cells #[.slice (some ⟨g, 0, none⟩) n vc, .slice none 0 0, .slice none 0 0] 71)).alloc (.cells #[.pointer (some ⟨w2.heap.size, 0, none⟩), .int .i64 0, .int .i64 0, .int .i64 0] 164)).heap[w2.heap.size + 1]? = some (.cells #[.pointer (some ⟨w2.heap.size, 0, none⟩), .int .i64 0, .int .i64 0, .int .i64 0] 164) := by have := aN (w2.alloc (.cells #[.slice (some ⟨g, 0, none⟩) n vc, .slice none 0 0, .slice none 0 0] 71)) (.cells #[.pointer (some ⟨w2.heap.size, 0, none⟩), .int .i64 0, .int .i64 0, .int .i64 0] 164); simpa using this
    have HFA : Hid (F0 w2 ((w2.alloc (.cells #[.slice (some ⟨g, 0, none⟩) n vc, .slice none 0 0, .slice none 0 0] 71)).alloc (.cells #[.pointer (some ⟨w2.heap.size, 0, none⟩), .int .i64 0, .int .i64 0, .int .i64 0] 164))) := ((Fr.refl _ _).alloc _).alloc _;generalize (w2.alloc (.cells #[.slice (some ⟨g, 0, none⟩) n vc, .slice none 0 0, .slice none 0 0] 71)).alloc (.cells #[.pointer (some ⟨w2.heap.size, 0, none⟩), .int .i64 0, .int .i64 0, .int .i64 0] 164) = W at *
    have HST : Hid (RSt W w2.heap.size (w2.heap.size + 2) (w2.heap.size + 1) w2.heap.size g 0 none body vc (.slice none 0 0) (.slice none 0 0) [] [] []) := by
     refine ⟨⟨bC p0 0 _ rfl, bC p0 1 _ rfl, bC p0 2 _ rfl, bC p0 3 _ rfl, fun o => bF p0 o, fun x e => by cases e⟩, ⟨?_, nL HG.o.2.1 HFA.o.size, HG.o.2.2.fr HFA.o HG.o.2.1 (by simp)⟩, bC q0 1 _ rfl, bC q0 2 _ rfl, fun o => bF q0 o, oZ _ _ _ _, oZ _ _ _ _, rfl, HG.o.2.1, ⟨by omega, by omega⟩, ⟨Nat.le_refl _, by omega⟩, by omega, ?_⟩
     ·rw [HN.o]; exact bC q0 0 _ rfl
     ·have := (iA.1 p0).1; omega
    obtain ⟨B, hB⟩ : ∃ B, w2.heap.size = B := ⟨_, rfl⟩
    have HBw : Hid (w.heap.size <= B) := by rw [<- hB]; exact HF2.o.size
    have HBg := hid HG.o.1;have HFW := hid (HF2.o.trans HFA.o);rw [hB] at HST;rw [hB];clear q0 p0 hB HG
    go_loopg [] n (fun m wr => ∃ i f vr vl rts rrs ys, i <= n /\ m = n - i /\ Hid (RSt wr B (B + 2) (B + 1) B g i f body vc vr vl rts rrs ys) /\ Hid (NSt xs body i f rts rrs) /\ Hid (F0 w wr))
    case atStart => exact ⟨0, none, _, _, [], [], [], Nat.zero_le _, rfl, HST, ⟨fun _ => ⟨xs, HEN.o, rfl, by simp, by simp⟩, fun x e => by cases e⟩, HFW⟩
    case round =>
     obtain ⟨i, f, vr, vl, rts, rrs, ys, hi, rfl, HR, HNS, HFr⟩ := hrel;have c0 := HR.o.wp.c0;have c1 := HR.o.wp.c1;have c2 := HR.o.wp.c2;have c3 := HR.o.wp.c3
     cases f with
     | some x =>
      have hx0 : ((x.1 : Int) == 0) = false := by have := HR.o.wp.ok x rfl; simp; omega
      have hx1 : ((x.1 : Int) != 0) = true := by have := HR.o.wp.ok x rfl; simp; omega
      have HE : Hid (readM s = .error x) := by show _ = _; rw [HU.o]; exact nst_fault HOK.o HNS.o
      simp only [faK, faL] at c2 c3;by_cases hlt : i < n
      all_goals
       have hki : decide ((i : Int) < (n : Int)) = decide (i < n) := by simp
       simp only [hlt] at hki;go_wp2_with fail
       go_quiet (fail)
       go_wp2_with fail
       go_ret3
       exact (NwPost.err HE.o).2 ⟨rfl, HFr.o.trans ⟨rfl, rfl, rfl, Nat.le_refl _, fun _ _ _ => rfl⟩⟩
     | none =>
      simp only [faK, faL] at c2 c3;by_cases hlt : i < n
      ·have hki : (i : Int) < (n : Int) := by omega
       obtain ⟨zs, hes, hu, h6, h8⟩ := HNS.o.1 rfl
       cases zs with
       | nil => exact absurd hes (by have := HN.o; show ¬ i = body.length; omega)
       | cons e zs =>
        obtain ⟨j, hEA, hES⟩ := hes;have HES := hid hES;have hji : i < j /\ j < n := ⟨hEA.2.1, by have := hEA.1; have := HN.o; omega⟩
        cases e with
        | route r =>
         obtain ⟨_, _, ⟨t, ht, htl⟩, t1, t2, t3, d2, d3, hj⟩ := hEA;have HAT := hid (at_any wr (B + 1) B g i none body vc t HR.o.wp HR.o.wt ht)
         have HW : Hid (∀ W, F0 wr W -> Calls Tryz.prog 81 #[.pointer (some ⟨B + 1, 0, none⟩)] W fun e w' => e = .returned (.tuple #[]) /\ (∃ vr', RSt w' B (B + 2) (B + 1) B g j (refRouteF rts none r) body vc vr' vl (rts ++ [⟨r.name.text, valOf r.base, valOf r.rate⟩]) rrs ys) /\ Fr (fun j => B <= j) W w') := fun W hW => by
          rw [hj];exact wroute_any W B (B + 2) (B + 1) B g i none body vc vr vl rts rrs ys r.name r.base r.rate (HR.o.step (HR.o.wp.fr hW (by simp)) hW.no) (by have := HN.o; omega) h6 t1 t2 t3 d2 d3
         have HNX := hid (nst_route hu hES h8);clear ht t1 t2 t3 d2 d3 hj hu hES h6 h8;go_wp2_with fail;refine HAT.o.mono ?_;rintro e w3 ⟨rfl, hf⟩;have HF3 := hid hf;clear hf c0 c1 c2 c3;go_wp2_with fail;refine (HW.o w3 HF3.o).mono ?_;rintro e w4 ⟨rfl, ⟨vr', hR4⟩, hf4⟩;have HR4 := hid hR4;have HF4 := hid ((HFr.o.trans HF3.o).monoNew hf4 (fun k hk => Or.inr (by have := HBw.o; omega)));clear hR4 hf4 htl;have c0 := HR4.o.wp.c0;have c1 := HR4.o.wp.c1;have fz := HR4.o.wp.fz
         have hj3 : j <= 3000 := by omega
         have HM : Hid (WkP (w4.setCell ⟨B + 1, 1, none⟩ (.int .i64 ((j : Int) + 1))) (B + 1) B (j + 1) (refRouteF rts none r) /\ Fr (fun k => k = B + 1) w4 (w4.setCell ⟨B + 1, 1, none⟩ (.int .i64 ((j : Int) + 1)))) := by have e := HR4.o.wp.move (j + 1); rw [Int.natCast_add] at e; exact e
         go_wp2;go_roundg (n - (j + 1))
         case measure => omega
         case rel => exact ⟨j + 1, _, _, _, _, _, _, by omega, rfl, HR4.o.step HM.o.1 HM.o.2, HNX, HF4.o.monoNew HM.o.2 (fun k hk => Or.inr (by have := HBw.o; omega))⟩
        | rule r =>
         obtain ⟨_, _, ⟨t, ht, htl⟩, hra⟩ := hEA;have HAT := hid (at_any wr (B + 1) B g i none body vc t HR.o.wp HR.o.wt ht)
         have HW : Hid (∀ W, F0 wr W -> Calls Tryz.prog 82 #[.pointer (some ⟨B + 1, 0, none⟩)] W fun e w' => e = .returned (.tuple #[]) /\ (∃ vl' c, RSt w' B (B + 2) (B + 1) B g j (refRuleF rts (rrs.map RuleR.name) none r) body vc vr vl' rts (rrs ++ [refRule rts r]) (ys ++ c)) /\ Fr (fun j => B <= j) W w') := fun W hW =>
          wrule_any W B (B + 2) (B + 1) B g i none body vc vr vl rts rrs ys r j (HR.o.step (HR.o.wp.fr hW (by simp)) hW.no) (by have := HN.o; omega) (by omega) h8 hra
         have HNX := hid (nst_rule hu hES h6);clear ht hra hu hES h6 h8;go_wp2_with fail;refine HAT.o.mono ?_;rintro e w3 ⟨rfl, hf⟩;have HF3 := hid hf;clear hf c0 c1 c2 c3;go_wp2_with fail;refine (HW.o w3 HF3.o).mono ?_;rintro e w4 ⟨rfl, ⟨vl', cc, hR4⟩, hf4⟩;have HR4 := hid hR4;have HF4 := hid ((HFr.o.trans HF3.o).monoNew hf4 (fun k hk => Or.inr (by have := HBw.o; omega)));clear hR4 hf4 htl;have c0 := HR4.o.wp.c0;have c1 := HR4.o.wp.c1;have fz := HR4.o.wp.fz
         have hj3 : j <= 3000 := by omega
         have HM : Hid (WkP (w4.setCell ⟨B + 1, 1, none⟩ (.int .i64 ((j : Int) + 1))) (B + 1) B (j + 1) (refRuleF rts (rrs.map RuleR.name) none r) /\ Fr (fun k => k = B + 1) w4 (w4.setCell ⟨B + 1, 1, none⟩ (.int .i64 ((j : Int) + 1)))) := by have e := HR4.o.wp.move (j + 1); rw [Int.natCast_add] at e; exact e
         go_wp2;go_roundg (n - (j + 1))
         case measure => omega
         case rel => exact ⟨j + 1, _, _, _, _, _, _, by omega, rfl, HR4.o.step HM.o.1 HM.o.2, HNX, HF4.o.monoNew HM.o.2 (fun k hk => Or.inr (by have := HBw.o; omega))⟩
      ·have hki : ¬ (i : Int) < (n : Int) := by omega
       have hin : i = body.length := by have := HN.o; omega
       have HE : Hid (∃ p, readM s = .ok p /\ rts = p.1 /\ rrs = p.2.map RuleM.ref /\ bookJ p.1 p.2 = refText body body.length) := by
        have e := HNS.o;rw [hin] at e;obtain ⟨p, h1, h2, h3⟩ := nst_end HOK.o e;exact ⟨p, by rw [HU.o]; exact h1, h2, h3, HTX.o p h1⟩
       clear hin;go_wp2_with fail
       go_ret3
       obtain ⟨p, h1, h2, h3, h4⟩ := HE.o;have e := HR.o;rw [h3, h2] at e;exact (NwPost.ok h1).2 ⟨⟨B, body, rfl, e.rulesAt HBg.o HBw.o (by have := HN.o; omega) HTS.o h4⟩, HFr.o⟩
