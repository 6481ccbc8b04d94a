import Derived.Test.YtccikgogjfbpeaaGreatDoorQl
namespace Go.Proofs.YtccikgogjfbpeaaGreatDoor
set_option maxRecDepth 30000
set_option maxHeartbeats 8000000
open Go.RowKit
def symS : Sym -> ByteArray
 | .rules => ⟨#[114, 117, 108, 101, 115]⟩
 | .mccs => ⟨#[109, 99, 99, 115]⟩
 | .amounts => ⟨#[97, 109, 111, 117, 110, 116, 115]⟩
 | .curs => ⟨#[99, 117, 114, 115]⟩
 | .ints => ⟨#[105, 110, 116, 115]⟩
 | .names => ⟨#[110, 97, 109, 101, 115]⟩
 | .action => ⟨#[97, 99, 116, 105, 111, 110]⟩
 | .NAME => ⟨#[78, 65, 77, 69]⟩
 | .INT => ⟨#[73, 78, 84]⟩
 | .lit m => m
def symRow (l : List Sym) : List Value := l.map fun y => Value.string (symS y)
def BPost (x : Option (List Sym)) (w : World) (e : Ending) (w' : World) : Prop :=
 match x with
 | some l => (∃ g c, e = .returned (.tuple #[.slice (some ⟨g, 0, none⟩) l.length c, .bool true]) /\ w.heap.size <= g /\ g < w'.heap.size /\ ∀ j u, (symRow l)[j]? = some u -> w'.cell? ⟨g, j, none⟩ = some u) /\ F0 w w'
 | none => e = .returned (.tuple #[.slice none 0 0, .bool false]) /\ F0 w w'
theorem BPost.some {x : Option (List Sym)} {w w' : World} {e : Ending} {l : List Sym} (h : x = some l) : BPost x w e w' ↔ (∃ g c, e = .returned (.tuple #[.slice (some ⟨g, 0, none⟩) l.length c, .bool true]) /\ w.heap.size <= g /\ g < w'.heap.size /\ ∀ j u, (symRow l)[j]? = some u -> w'.cell? ⟨g, j, none⟩ = some u) /\ F0 w w' := by subst h; exact Iff.rfl
theorem BPost.none {x : Option (List Sym)} {w w' : World} {e : Ending} (h : x = none) : BPost x w e w' ↔ e = .returned (.tuple #[.slice none 0 0, .bool false]) /\ F0 w w' := by subst h; exact Iff.rfl
theorem bpost_new {w w2 : World} {l : List Sym} {cs : Array Value} {c H : Nat} {T : TypeId} (hf : F0 w w2) (hcs : cs.toList = symRow l) (hH : w2.heap.size = H) : BPost (some l) w (.returned (.tuple #[.slice (some ⟨H, 0, none⟩) l.length c, .bool true])) (w2.alloc (.cells cs T)) := by
 subst hH;refine (BPost.some rfl).2 ⟨⟨_, _, rfl, hf.size, by simp, fun j u hj => ?_⟩, hf.alloc _⟩;rw [<- hcs] at hj;exact bC (aN w2 _) j _ (by simpa using hj)
theorem bpost_empty {w w' : World} {l : List Sym} {c g : Nat} (hl : l = []) (h1 : w.heap.size <= g) (h2 : g < w'.heap.size) (hf : F0 w w') : BPost (some l) w (.returned (.tuple #[.slice (some ⟨g, 0, none⟩) 0 c, .bool true])) w' := by
 subst hl;exact (BPost.some rfl).2 ⟨⟨_, _, rfl, h1, h2, fun j u hj => by simp [symRow] at hj⟩, hf⟩
theorem lits_none : ∀ m, m ∈ lits -> (m.data.toList == [114, 117, 108, 101, 115]) = false /\ (m.data.toList == [109, 99, 99, 115]) = false /\ (m.data.toList == [97, 109, 111, 117, 110, 116, 115]) = false /\ (m.data.toList == [99, 117, 114, 115]) = false /\ (m.data.toList == [105, 110, 116, 115]) = false /\ (m.data.toList == [110, 97, 109, 101, 115]) = false /\ (m.data.toList == [97, 99, 116, 105, 111, 110]) = false := by decide
theorem becomes_none (x t : ByteArray) (kd ln : Int) (w : World) (h1 : (x.toList == [114, 117, 108, 101, 115]) = false) (h2 : (x.toList == [109, 99, 99, 115]) = false) (h3 : (x.toList == [97, 109, 111, 117, 110, 116, 115]) = false) (h4 : (x.toList == [99, 117, 114, 115]) = false) (h5 : (x.toList == [105, 110, 116, 115]) = false) (h6 : (x.toList == [110, 97, 109, 101, 115]) = false) (h7 : (x.toList == [97, 99, 116, 105, 111, 110]) = false) :
  Calls Tryz.prog 130 #[.string x, .agg #[.string t, .int .u8 kd, .int .i64 ln]] w fun e w' => e = .returned (.tuple #[.slice none 0 0, .bool false]) /\ F0 w w' := by
 go_enter Tryz.func130, Tryz.ntmps130;go_wp2
 go_ret2
 exact ⟨rfl, ((Fr.refl _ _).alloc _).alloc _⟩
theorem bec_rules0 (x t : ByteArray) (kd ln : Int) (w : World) (h1 : (x.toList == [114, 117, 108, 101, 115]) = true) (t1 : (t.toList == [114, 111, 117, 116, 101]) = true) :
  Calls Tryz.prog 130 #[.string x, .agg #[.string t, .int .u8 kd, .int .i64 ln]] w (BPost (some (routeSyms)) w) := by
 go_enter Tryz.func130, Tryz.ntmps130;go_wp2
 go_ret2
 exact bpost_new (l := routeSyms) (((Fr.refl _ _).alloc _).alloc _) (by rfl) (by simp)
theorem bec_rules1 (x t : ByteArray) (kd ln : Int) (w : World) (h1 : (x.toList == [114, 117, 108, 101, 115]) = true) (t1 : (t.toList == [114, 111, 117, 116, 101]) = false) (t2 : (t.toList == [114, 117, 108, 101]) = true) :
  Calls Tryz.prog 130 #[.string x, .agg #[.string t, .int .u8 kd, .int .i64 ln]] w (BPost (some (ruleSyms)) w) := by
 go_enter Tryz.func130, Tryz.ntmps130;go_wp2
 go_ret2
 exact bpost_new (l := ruleSyms) (((Fr.refl _ _).alloc _).alloc _) (by rfl) (by simp)
theorem bec_rules2 (x t : ByteArray) (kd ln : Int) (w : World) (h1 : (x.toList == [114, 117, 108, 101, 115]) = true) (t1 : (t.toList == [114, 111, 117, 116, 101]) = false) (t2 : (t.toList == [114, 117, 108, 101]) = false) :
  Calls Tryz.prog 130 #[.string x, .agg #[.string t, .int .u8 kd, .int .i64 ln]] w (BPost (some ([])) w) := by
 go_enter Tryz.func130, Tryz.ntmps130;go_wp2
 go_ret2
 exact bpost_empty (l := []) rfl (by simp) (by simp) (((Fr.refl _ _).alloc _).alloc _)
theorem bec_mccs0 (x t : ByteArray) (kd ln : Int) (w : World) (h1 : (x.toList == [114, 117, 108, 101, 115]) = false) (h2 : (x.toList == [109, 99, 99, 115]) = true) (t1 : (t.toList == [109, 99, 99]) = true) :
  Calls Tryz.prog 130 #[.string x, .agg #[.string t, .int .u8 kd, .int .i64 ln]] w (BPost (some ([.lit kwMcc, .INT, .ints])) w) := by
 go_enter Tryz.func130, Tryz.ntmps130;go_wp2
 go_ret2
 exact bpost_new (l := [.lit kwMcc, .INT, .ints]) (((Fr.refl _ _).alloc _).alloc _) (by rfl) (by simp)
theorem bec_mccs1 (x t : ByteArray) (kd ln : Int) (w : World) (h1 : (x.toList == [114, 117, 108, 101, 115]) = false) (h2 : (x.toList == [109, 99, 99, 115]) = true) (t1 : (t.toList == [109, 99, 99]) = false) :
  Calls Tryz.prog 130 #[.string x, .agg #[.string t, .int .u8 kd, .int .i64 ln]] w (BPost (some ([])) w) := by
 go_enter Tryz.func130, Tryz.ntmps130;go_wp2
 go_ret2
 exact bpost_empty (l := []) rfl (by simp) (by simp) (((Fr.refl _ _).alloc _).alloc _)
theorem bec_amounts0 (x t : ByteArray) (kd ln : Int) (w : World) (h1 : (x.toList == [114, 117, 108, 101, 115]) = false) (h2 : (x.toList == [109, 99, 99, 115]) = false) (h3 : (x.toList == [97, 109, 111, 117, 110, 116, 115]) = true) (t1 : (t.toList == [97, 109, 111, 117, 110, 116]) = true) :
  Calls Tryz.prog 130 #[.string x, .agg #[.string t, .int .u8 kd, .int .i64 ln]] w (BPost (some ([.lit kwAmount, .INT, .lit mDots, .INT])) w) := by
 go_enter Tryz.func130, Tryz.ntmps130;go_wp2
 go_ret2
 exact bpost_new (l := [.lit kwAmount, .INT, .lit mDots, .INT]) (((Fr.refl _ _).alloc _).alloc _) (by rfl) (by simp)
theorem bec_amounts1 (x t : ByteArray) (kd ln : Int) (w : World) (h1 : (x.toList == [114, 117, 108, 101, 115]) = false) (h2 : (x.toList == [109, 99, 99, 115]) = false) (h3 : (x.toList == [97, 109, 111, 117, 110, 116, 115]) = true) (t1 : (t.toList == [97, 109, 111, 117, 110, 116]) = false) :
  Calls Tryz.prog 130 #[.string x, .agg #[.string t, .int .u8 kd, .int .i64 ln]] w (BPost (some ([])) w) := by
 go_enter Tryz.func130, Tryz.ntmps130;go_wp2
 go_ret2
 exact bpost_empty (l := []) rfl (by simp) (by simp) (((Fr.refl _ _).alloc _).alloc _)
theorem bec_curs0 (x t : ByteArray) (kd ln : Int) (w : World) (h1 : (x.toList == [114, 117, 108, 101, 115]) = false) (h2 : (x.toList == [109, 99, 99, 115]) = false) (h3 : (x.toList == [97, 109, 111, 117, 110, 116, 115]) = false) (h4 : (x.toList == [99, 117, 114, 115]) = true) (t1 : (t.toList == [99, 117, 114]) = true) :
  Calls Tryz.prog 130 #[.string x, .agg #[.string t, .int .u8 kd, .int .i64 ln]] w (BPost (some ([.lit kwCur, .INT, .ints])) w) := by
 go_enter Tryz.func130, Tryz.ntmps130;go_wp2
 go_ret2
 exact bpost_new (l := [.lit kwCur, .INT, .ints]) (((Fr.refl _ _).alloc _).alloc _) (by rfl) (by simp)
theorem bec_curs1 (x t : ByteArray) (kd ln : Int) (w : World) (h1 : (x.toList == [114, 117, 108, 101, 115]) = false) (h2 : (x.toList == [109, 99, 99, 115]) = false) (h3 : (x.toList == [97, 109, 111, 117, 110, 116, 115]) = false) (h4 : (x.toList == [99, 117, 114, 115]) = true) (t1 : (t.toList == [99, 117, 114]) = false) :
  Calls Tryz.prog 130 #[.string x, .agg #[.string t, .int .u8 kd, .int .i64 ln]] w (BPost (some ([])) w) := by
 go_enter Tryz.func130, Tryz.ntmps130;go_wp2
 go_ret2
 exact bpost_empty (l := []) rfl (by simp) (by simp) (((Fr.refl _ _).alloc _).alloc _)
theorem bec_ints0 (x t : ByteArray) (kd ln : Int) (w : World) (h1 : (x.toList == [114, 117, 108, 101, 115]) = false) (h2 : (x.toList == [109, 99, 99, 115]) = false) (h3 : (x.toList == [97, 109, 111, 117, 110, 116, 115]) = false) (h4 : (x.toList == [99, 117, 114, 115]) = false) (h5 : (x.toList == [105, 110, 116, 115]) = true) (t1 : (t.toList == [44]) = true) :
  Calls Tryz.prog 130 #[.string x, .agg #[.string t, .int .u8 kd, .int .i64 ln]] w (BPost (some ([.lit mComma, .INT, .ints])) w) := by
 go_enter Tryz.func130, Tryz.ntmps130;go_wp2
 go_ret2
 exact bpost_new (l := [.lit mComma, .INT, .ints]) (((Fr.refl _ _).alloc _).alloc _) (by rfl) (by simp)
theorem bec_ints1 (x t : ByteArray) (kd ln : Int) (w : World) (h1 : (x.toList == [114, 117, 108, 101, 115]) = false) (h2 : (x.toList == [109, 99, 99, 115]) = false) (h3 : (x.toList == [97, 109, 111, 117, 110, 116, 115]) = false) (h4 : (x.toList == [99, 117, 114, 115]) = false) (h5 : (x.toList == [105, 110, 116, 115]) = true) (t1 : (t.toList == [44]) = false) :
  Calls Tryz.prog 130 #[.string x, .agg #[.string t, .int .u8 kd, .int .i64 ln]] w (BPost (some ([])) w) := by
 go_enter Tryz.func130, Tryz.ntmps130;go_wp2
 go_ret2
 exact bpost_empty (l := []) rfl (by simp) (by simp) (((Fr.refl _ _).alloc _).alloc _)
theorem bec_names0 (x t : ByteArray) (kd ln : Int) (w : World) (h1 : (x.toList == [114, 117, 108, 101, 115]) = false) (h2 : (x.toList == [109, 99, 99, 115]) = false) (h3 : (x.toList == [97, 109, 111, 117, 110, 116, 115]) = false) (h4 : (x.toList == [99, 117, 114, 115]) = false) (h5 : (x.toList == [105, 110, 116, 115]) = false) (h6 : (x.toList == [110, 97, 109, 101, 115]) = true) (t1 : (t.toList == [44]) = true) :
  Calls Tryz.prog 130 #[.string x, .agg #[.string t, .int .u8 kd, .int .i64 ln]] w (BPost (some ([.lit mComma, .NAME, .names])) w) := by
 go_enter Tryz.func130, Tryz.ntmps130;go_wp2
 go_ret2
 exact bpost_new (l := [.lit mComma, .NAME, .names]) (((Fr.refl _ _).alloc _).alloc _) (by rfl) (by simp)
theorem bec_names1 (x t : ByteArray) (kd ln : Int) (w : World) (h1 : (x.toList == [114, 117, 108, 101, 115]) = false) (h2 : (x.toList == [109, 99, 99, 115]) = false) (h3 : (x.toList == [97, 109, 111, 117, 110, 116, 115]) = false) (h4 : (x.toList == [99, 117, 114, 115]) = false) (h5 : (x.toList == [105, 110, 116, 115]) = false) (h6 : (x.toList == [110, 97, 109, 101, 115]) = true) (t1 : (t.toList == [44]) = false) :
  Calls Tryz.prog 130 #[.string x, .agg #[.string t, .int .u8 kd, .int .i64 ln]] w (BPost (some ([])) w) := by
 go_enter Tryz.func130, Tryz.ntmps130;go_wp2
 go_ret2
 exact bpost_empty (l := []) rfl (by simp) (by simp) (((Fr.refl _ _).alloc _).alloc _)
theorem bec_action0 (x t : ByteArray) (kd ln : Int) (w : World) (h1 : (x.toList == [114, 117, 108, 101, 115]) = false) (h2 : (x.toList == [109, 99, 99, 115]) = false) (h3 : (x.toList == [97, 109, 111, 117, 110, 116, 115]) = false) (h4 : (x.toList == [99, 117, 114, 115]) = false) (h5 : (x.toList == [105, 110, 116, 115]) = false) (h6 : (x.toList == [110, 97, 109, 101, 115]) = false) (h7 : (x.toList == [97, 99, 116, 105, 111, 110]) = true) (t1 : (t.toList == [100, 101, 99, 108, 105, 110, 101]) = true) :
  Calls Tryz.prog 130 #[.string x, .agg #[.string t, .int .u8 kd, .int .i64 ln]] w (BPost (some ([.lit kwDecline])) w) := by
 go_enter Tryz.func130, Tryz.ntmps130;go_wp2
 go_ret2
 exact bpost_new (l := [.lit kwDecline]) (((Fr.refl _ _).alloc _).alloc _) (by rfl) (by simp)
theorem bec_action1 (x t : ByteArray) (kd ln : Int) (w : World) (h1 : (x.toList == [114, 117, 108, 101, 115]) = false) (h2 : (x.toList == [109, 99, 99, 115]) = false) (h3 : (x.toList == [97, 109, 111, 117, 110, 116, 115]) = false) (h4 : (x.toList == [99, 117, 114, 115]) = false) (h5 : (x.toList == [105, 110, 116, 115]) = false) (h6 : (x.toList == [110, 97, 109, 101, 115]) = false) (h7 : (x.toList == [97, 99, 116, 105, 111, 110]) = true) (t1 : (t.toList == [100, 101, 99, 108, 105, 110, 101]) = false) (t2 : (t.toList == [99, 104, 101, 97, 112, 101, 115, 116]) = true) :
  Calls Tryz.prog 130 #[.string x, .agg #[.string t, .int .u8 kd, .int .i64 ln]] w (BPost (some ([.lit kwCheapest, .NAME, .names])) w) := by
 go_enter Tryz.func130, Tryz.ntmps130;go_wp2
 go_ret2
 exact bpost_new (l := [.lit kwCheapest, .NAME, .names]) (((Fr.refl _ _).alloc _).alloc _) (by rfl) (by simp)
theorem bec_action2 (x t : ByteArray) (kd ln : Int) (w : World) (h1 : (x.toList == [114, 117, 108, 101, 115]) = false) (h2 : (x.toList == [109, 99, 99, 115]) = false) (h3 : (x.toList == [97, 109, 111, 117, 110, 116, 115]) = false) (h4 : (x.toList == [99, 117, 114, 115]) = false) (h5 : (x.toList == [105, 110, 116, 115]) = false) (h6 : (x.toList == [110, 97, 109, 101, 115]) = false) (h7 : (x.toList == [97, 99, 116, 105, 111, 110]) = true) (t1 : (t.toList == [100, 101, 99, 108, 105, 110, 101]) = false) (t2 : (t.toList == [99, 104, 101, 97, 112, 101, 115, 116]) = false) :
  Calls Tryz.prog 130 #[.string x, .agg #[.string t, .int .u8 kd, .int .i64 ln]] w (BPost (some ([.NAME, .names])) w) := by
 go_enter Tryz.func130, Tryz.ntmps130;go_wp2
 go_ret2
 exact bpost_new (l := [.NAME, .names]) (((Fr.refl _ _).alloc _).alloc _) (by rfl) (by simp)
theorem tl_ne {a : ByteArray} {l : List UInt8} (h : (a.data.toList == l) = false) : (a.toList == l) = false := by rw [ByteArray.toList_eq]; exact h
theorem tl_eq {a : ByteArray} {l : List UInt8} (h : (a.data.toList == l) = true) : (a.toList == l) = true := by rw [ByteArray.toList_eq]; exact h
theorem lit_text {t : Tk} (h : LitTk t) {m : ByteArray} (hm : m ∈ lits) {l : List UInt8} (hl : m.data.toList = l) : (t.text.toList == l) = isFix t m := by
 rw [h m hm, ByteArray.toList_eq m, hl]
theorem becomes_any (y : Sym) (t : Tk) (kd ln : Int) (w : World) (hy : ∀ m, y = .lit m -> m ∈ lits) (hL : LitTk t) :
  Calls Tryz.prog 130 #[.string (symS y), .agg #[.string t.text, .int .u8 kd, .int .i64 ln]] w (BPost (becomesM y t) w) := by
 cases y with
 | rules =>
  by_cases q0 : isFix t kwRoute = true
  ·rw [show becomesM .rules t = some (routeSyms) from by simp [becomesM, q0]]
   exact bec_rules0 _ _ kd ln w (tl_eq (by decide)) ((lit_text hL (m := kwRoute) (by simp [lits]) rfl).trans q0)
  by_cases q1 : isFix t kwRule = true
  ·rw [show becomesM .rules t = some (ruleSyms) from by simp [becomesM, q0, q1]]
   exact bec_rules1 _ _ kd ln w (tl_eq (by decide)) ((lit_text hL (m := kwRoute) (by simp [lits]) rfl).trans (by simpa using q0)) ((lit_text hL (m := kwRule) (by simp [lits]) rfl).trans q1)
  rw [show becomesM .rules t = some ([]) from by simp [becomesM, q0, q1]];exact bec_rules2 _ _ kd ln w (tl_eq (by decide)) ((lit_text hL (m := kwRoute) (by simp [lits]) rfl).trans (by simpa using q0)) ((lit_text hL (m := kwRule) (by simp [lits]) rfl).trans (by simpa using q1))
 | mccs =>
  by_cases q0 : isFix t kwMcc = true
  ·rw [show becomesM .mccs t = some ([.lit kwMcc, .INT, .ints]) from by simp [becomesM, q0]]
   exact bec_mccs0 _ _ kd ln w (tl_ne (by decide)) (tl_eq (by decide)) ((lit_text hL (m := kwMcc) (by simp [lits]) rfl).trans q0)
  rw [show becomesM .mccs t = some ([]) from by simp [becomesM, q0]];exact bec_mccs1 _ _ kd ln w (tl_ne (by decide)) (tl_eq (by decide)) ((lit_text hL (m := kwMcc) (by simp [lits]) rfl).trans (by simpa using q0))
 | amounts =>
  by_cases q0 : isFix t kwAmount = true
  ·rw [show becomesM .amounts t = some ([.lit kwAmount, .INT, .lit mDots, .INT]) from by simp [becomesM, q0]]
   exact bec_amounts0 _ _ kd ln w (tl_ne (by decide)) (tl_ne (by decide)) (tl_eq (by decide)) ((lit_text hL (m := kwAmount) (by simp [lits]) rfl).trans q0)
  rw [show becomesM .amounts t = some ([]) from by simp [becomesM, q0]];exact bec_amounts1 _ _ kd ln w (tl_ne (by decide)) (tl_ne (by decide)) (tl_eq (by decide)) ((lit_text hL (m := kwAmount) (by simp [lits]) rfl).trans (by simpa using q0))
 | curs =>
  by_cases q0 : isFix t kwCur = true
  ·rw [show becomesM .curs t = some ([.lit kwCur, .INT, .ints]) from by simp [becomesM, q0]]
   exact bec_curs0 _ _ kd ln w (tl_ne (by decide)) (tl_ne (by decide)) (tl_ne (by decide)) (tl_eq (by decide)) ((lit_text hL (m := kwCur) (by simp [lits]) rfl).trans q0)
  rw [show becomesM .curs t = some ([]) from by simp [becomesM, q0]];exact bec_curs1 _ _ kd ln w (tl_ne (by decide)) (tl_ne (by decide)) (tl_ne (by decide)) (tl_eq (by decide)) ((lit_text hL (m := kwCur) (by simp [lits]) rfl).trans (by simpa using q0))
 | ints =>
  by_cases q0 : isFix t mComma = true
  ·rw [show becomesM .ints t = some ([.lit mComma, .INT, .ints]) from by simp [becomesM, q0]]
   exact bec_ints0 _ _ kd ln w (tl_ne (by decide)) (tl_ne (by decide)) (tl_ne (by decide)) (tl_ne (by decide)) (tl_eq (by decide)) ((lit_text hL (m := mComma) (by simp [lits]) rfl).trans q0)
  rw [show becomesM .ints t = some ([]) from by simp [becomesM, q0]];exact bec_ints1 _ _ kd ln w (tl_ne (by decide)) (tl_ne (by decide)) (tl_ne (by decide)) (tl_ne (by decide)) (tl_eq (by decide)) ((lit_text hL (m := mComma) (by simp [lits]) rfl).trans (by simpa using q0))
 | names =>
  by_cases q0 : isFix t mComma = true
  ·rw [show becomesM .names t = some ([.lit mComma, .NAME, .names]) from by simp [becomesM, q0]]
   exact bec_names0 _ _ kd ln w (tl_ne (by decide)) (tl_ne (by decide)) (tl_ne (by decide)) (tl_ne (by decide)) (tl_ne (by decide)) (tl_eq (by decide)) ((lit_text hL (m := mComma) (by simp [lits]) rfl).trans q0)
  rw [show becomesM .names t = some ([]) from by simp [becomesM, q0]];exact bec_names1 _ _ kd ln w (tl_ne (by decide)) (tl_ne (by decide)) (tl_ne (by decide)) (tl_ne (by decide)) (tl_ne (by decide)) (tl_eq (by decide)) ((lit_text hL (m := mComma) (by simp [lits]) rfl).trans (by simpa using q0))
 | action =>
  by_cases q0 : isFix t kwDecline = true
  ·rw [show becomesM .action t = some ([.lit kwDecline]) from by simp [becomesM, q0]]
   exact bec_action0 _ _ kd ln w (tl_ne (by decide)) (tl_ne (by decide)) (tl_ne (by decide)) (tl_ne (by decide)) (tl_ne (by decide)) (tl_ne (by decide)) (tl_eq (by decide)) ((lit_text hL (m := kwDecline) (by simp [lits]) rfl).trans q0)
  by_cases q1 : isFix t kwCheapest = true
  ·rw [show becomesM .action t = some ([.lit kwCheapest, .NAME, .names]) from by simp [becomesM, q0, q1]]
   exact bec_action1 _ _ kd ln w (tl_ne (by decide)) (tl_ne (by decide)) (tl_ne (by decide)) (tl_ne (by decide)) (tl_ne (by decide)) (tl_ne (by decide)) (tl_eq (by decide)) ((lit_text hL (m := kwDecline) (by simp [lits]) rfl).trans (by simpa using q0)) ((lit_text hL (m := kwCheapest) (by simp [lits]) rfl).trans q1)
  rw [show becomesM .action t = some ([.NAME, .names]) from by simp [becomesM, q0, q1]];exact bec_action2 _ _ kd ln w (tl_ne (by decide)) (tl_ne (by decide)) (tl_ne (by decide)) (tl_ne (by decide)) (tl_ne (by decide)) (tl_ne (by decide)) (tl_eq (by decide)) ((lit_text hL (m := kwDecline) (by simp [lits]) rfl).trans (by simpa using q0)) ((lit_text hL (m := kwCheapest) (by simp [lits]) rfl).trans (by simpa using q1))
 | NAME => exact (becomes_none _ _ kd ln w (tl_ne (by decide)) (tl_ne (by decide)) (tl_ne (by decide)) (tl_ne (by decide)) (tl_ne (by decide)) (tl_ne (by decide)) (tl_ne (by decide))).mono fun _ _ h => (BPost.none rfl).2 h
 | INT => exact (becomes_none _ _ kd ln w (tl_ne (by decide)) (tl_ne (by decide)) (tl_ne (by decide)) (tl_ne (by decide)) (tl_ne (by decide)) (tl_ne (by decide)) (tl_ne (by decide))).mono fun _ _ h => (BPost.none rfl).2 h
 | lit m =>
  obtain ⟨h1, h2, h3, h4, h5, h6, h7⟩ := lits_none m (hy m rfl)
  exact (becomes_none _ _ kd ln w (tl_ne h1) (tl_ne h2) (tl_ne h3) (tl_ne h4) (tl_ne h5) (tl_ne h6) (tl_ne h7)).mono fun _ _ h => (BPost.none rfl).2 h
