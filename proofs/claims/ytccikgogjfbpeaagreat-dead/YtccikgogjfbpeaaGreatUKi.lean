/- The keep Above, walked. -/
import Derived.Test.YtccikgogjfbpeaaGreatUHa
import Derived.Test.YtccikgogjfbpeaaGreatUKh
import Derived.Laws.AppendOwnNone
namespace Go.Proofs.YtccikgogjfbpeaaGreat
open Go.RowKit

theorem strsAt_owns {w : World} {base : Nat} {v : Value} {n : Nat} {l : List ByteArray} (h : w.ownsRow base 9 1 v n (sRow l)) (hl : l.length = n) : ∃ a c, v = .slice a n c ∧ StrsAt w a l := by
 obtain ⟨a, c, e⟩ := ownsRow_len h
 subst e hl
 exact ⟨a, c, rfl, strsAt_row h⟩
theorem RawAt.take {w : World} {a : Option Addr} {l : List Int} (h : RawAt w a l) (k : Nat) : RawAt w a (l.take k) := fun j x hx => h j x (by
 rw [List.getElem?_take] at hx
 split at hx
 ·exact hx
 ·cases hx)
theorem own_fresh1 (w : World) (s : ByteArray) : (w.alloc (.cells #[.string s] 9)).ownsRow w.heap.size 9 1 (.slice (some ⟨w.heap.size, 0, none⟩) 1 1) 1 [.string s] :=
 ⟨rfl, .inr ⟨w.heap.size, 1, #[.string s], rfl, Nat.le_refl _, heap_alloc_new w _, Nat.le_refl _, by unfold maxLen; simp, by simp, by simp⟩⟩
theorem strs_news {w : World} {g : Nat} {l : List ByteArray} (h : StrsAt w (some ⟨g, 0, none⟩) l) : ∀ j u, (sRow l)[j]? = some u → w.cell? ((⟨g, 0, none⟩ : Addr).add j) = some u := by
 intro j u hu
 unfold sRow at hu
 rw [List.getElem?_map] at hu
 cases hs : l[j]? with
 | none => rw [hs] at hu; cases hu
 | some s =>
  rw [hs] at hu
  injection hu with hu
  subst hu
  obtain ⟨g', o', e1, e2⟩ := h j s hs
  injection e1 with e1
  injection e1 with e1 e3 _
  subst e1 e3
  rw [addr_add']
  exact e2
theorem sRow_one (l : List ByteArray) : ∀ u ∈ sRow l, u.oneCell' = true := by
 intro u hu
 obtain ⟨s, _, rfl⟩ := List.mem_map.1 hu
 rfl
end Go.Proofs.YtccikgogjfbpeaaGreat
