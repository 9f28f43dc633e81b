/-
  A text as bytes, one of them written, and back.
-/
import Derived.Test.YtcakfmpckbmdeaaC3
namespace Go.Proofs.Ytcakfmpckbmdeaa
open Go.RowKit

/-- '[]byte(s)': new memory that holds the bytes and may be written -/
theorem bytes_of (w : World) (s : ByteArray) : ∃ (cap : Nat) (W : World), (convert 9 40 (.string s)).run Try.prog w = .ok (.slice (some ⟨w.heap.size, 0, none⟩) s.size cap) W ∧ s.size ≤ cap ∧ Below w.heap.size w W ∧ w.heap.size < W.heap.size ∧
    (∀ j (h : j < s.size), W.cell? ⟨w.heap.size, j, none⟩ = some (.int .u8 (s[j].toNat : Int))) ∧ (∀ j, j < s.size → W.frozen? ⟨w.heap.size, j, none⟩ = false) := by
  refine ⟨grownCap w s.size 0 5, _, run_bytes_of_string w 9 40 5 s Try.underlying9 Try.underlying40 Try.underlying5, grownCap_ge _ _ _ _, ?_, ?_, ?_, ?_⟩
  · exact (Below.refl _ _).drew.alloc (Nat.le_refl _) _
  · show _ < (w.heap.push _).size
    simp
  · intro j h
    have hj : j < s.data.size := h
    have hb := bytesRow_at s (grownCap w s.size 0 5) j hj
    have := cell_of_row (w.drew.alloc (.cells (bytesRow s (grownCap w s.size 0 5)) 5 ((bytesRow s (grownCap w s.size 0 5)).size, (bytesRow s (grownCap w s.size 0 5)).size + 1))) w.heap.size j _ 5 _ (heap_alloc_new w.drew _)
    rw [this, hb]
    rfl
  · intro j h
    have hn := heap_alloc_new w.drew (.cells (bytesRow s (grownCap w s.size 0 5)) 5 ((bytesRow s (grownCap w s.size 0 5)).size, (bytesRow s (grownCap w s.size 0 5)).size + 1))
    have hsz : s.size ≤ (bytesRow s (grownCap w s.size 0 5)).size := by simp [bytesRow]
    unfold World.frozen?
    rw [show w.heap.size = w.drew.heap.size from rfl, hn]
    simp
    intro h2
    omega

theorem add_zero_addr (g j : Nat) : (⟨g, 0, none⟩ : Addr).add j = ⟨g, j, none⟩ := by unfold Addr.add; split <;> simp_all

/-- 'string(b)' -/
theorem string_of (W : World) (g cap n : Nat) (l : List UInt8) (hl : l.length = n) (h : ∀ j (hj : j < l.length), W.cell? ⟨g, j, none⟩ = some (.int .u8 (l[j].toNat : Int))) :
    (convert 40 9 (.slice (some ⟨g, 0, none⟩) n cap)).run Try.prog W = .ok (.string ⟨l.toArray⟩) W := by
  subst hl
  exact run_convert_bytes_back W 40 9 5 ⟨g, 0, none⟩ cap l Try.underlying40 Try.underlying5 Try.underlying9 (fun j hj => by rw [add_zero_addr]; exact h j hj)

/-- one byte written -/
theorem set_cells (W : World) (g n : Nat) (l : List UInt8) (b : UInt8) (hn : n < l.length) (h : ∀ j (hj : j < l.length), W.cell? ⟨g, j, none⟩ = some (.int .u8 (l[j].toNat : Int))) :
    ∀ j (hj : j < (l.set n b).length), (W.setCell ⟨g, n, none⟩ (.int .u8 (b.toNat : Int))).cell? ⟨g, j, none⟩ = some (.int .u8 ((l.set n b)[j].toNat : Int)) := by
  intro j hj
  rw [List.length_set] at hj
  by_cases e : n = j
  · subst e
    rw [World.cell?_setCell_same' _ _ _ (by rw [h n hn]; rfl)]
    simp
  · have hne : (⟨g, n, none⟩ : Addr) ≠ ⟨g, j, none⟩ := by intro he; apply e; cases he; rfl
    have hc : (W.setCell ⟨g, n, none⟩ (.int .u8 (b.toNat : Int))).cell? ⟨g, j, none⟩ = W.cell? ⟨g, j, none⟩ := by
      apply World.cell?_setCell_other; exact hne
    rw [hc, h j hj, List.getElem_set_ne e]
end Go.Proofs.Ytcakfmpckbmdeaa
