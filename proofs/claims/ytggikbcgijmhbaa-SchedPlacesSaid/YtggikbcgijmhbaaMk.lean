/- WHAT IS PROVED: what is known of whole blocks of one's own stays known across calls that change nothing below them (over any program). CONDITIONS: none. -/
import Derived.Test.YtggikbcgijmhbaaQr
import Derived.Test.YtggikbcgijmhbaaMr
namespace Go.QrMem
open Go Go.RowKit Go.QrBits

/-- Nothing that lay in 'w0' has changed; the listed blocks hold the listed cells, not frozen. -/
structure Kw (fs : List (Nat × List Value × TypeId)) (w0 w : World) : Prop where
  base : Below w0.heap.size w0 w
  blk : ∀ f ∈ fs, w.heap[f.1]? = some (.cells f.2.1.toArray f.2.2 (0, 0))
namespace Kw
variable {fs : List (Nat × List Value × TypeId)} {w0 w w' : World}
theorem start (w : World) : Kw [] w w := ⟨Below.refl _ _, fun _ h => (List.not_mem_nil h).elim⟩
theorem size (h : Kw fs w0 w) : w0.heap.size ≤ w.heap.size := h.base.size
theorem below (h : Kw fs w0 w) (hq : Below w.heap.size w w') : Kw fs w0 w' :=
  ⟨Below.tail h.base hq, fun f hf => by rw [hq.block _ (Array.getElem?_eq_some_iff.1 (h.blk f hf)).1]; exact h.blk f hf⟩
theorem alloc {o : Obj} (h : Kw fs w0 w) : Kw fs w0 (w.alloc o) := h.below (b_alloc (Below.refl _ _))
theorem drew (h : Kw fs w0 w) : Kw fs w0 w.drew := ⟨h.base.drew, h.blk⟩
theorem reg {p : Regrown} (h : Kw fs w0 w) : Kw fs w0 (reg w p) := h.below (below_reg _ _)
theorem cons {b : Nat} {vs : List Value} {t : TypeId} (h : Kw fs w0 w) (hc : w.heap[b]? = some (.cells vs.toArray t (0, 0))) : Kw ((b, vs, t) :: fs) w0 w :=
  ⟨h.base, fun f hf => by rcases List.mem_cons.1 hf with rfl | hf
                          · exact hc
                          · exact h.blk f hf⟩
theorem box {vs : List Value} {t : TypeId} (h : Kw fs w0 w) : Kw ((w.heap.size, vs, t) :: fs) w0 (w.alloc (.cells vs.toArray t)) :=
  h.alloc.cons (heap_alloc_new w _)
theorem drop {f : Nat × List Value × TypeId} (h : Kw (f :: fs) w0 w) : Kw fs w0 w := ⟨h.base, fun f hf => h.blk f (List.mem_cons_of_mem _ hf)⟩
theorem row {b : Nat} {vs : List Value} {t : TypeId} (h : Kw fs w0 w) (i : Nat) (hf : fs[i]? = some (b, vs, t)) : w.heap[b]? = some (.cells vs.toArray t (0, 0)) := h.blk (b, vs, t) (List.mem_of_getElem? hf)
theorem get {b : Nat} {vs : List Value} {t : TypeId} {v : Value} (h : Kw fs w0 w) (i j : Nat) (hf : fs[i]? = some (b, vs, t)) (hv : vs[j]? = some v) : w.cell? ⟨b, j, none⟩ = some v := by
  simp [World.cell?, h.row i hf, hv]
theorem fz {b : Nat} {vs : List Value} {t : TypeId} (h : Kw fs w0 w) (i j : Nat) (hf : fs[i]? = some (b, vs, t)) : w.frozen? ⟨b, j, none⟩ = false := by
  simp [World.frozen?, h.row i hf]
theorem lt {b : Nat} {vs : List Value} {t : TypeId} (h : Kw fs w0 w) (i : Nat) (hf : fs[i]? = some (b, vs, t)) : b < w.heap.size :=
  (Array.getElem?_eq_some_iff.1 (h.row i hf)).1
/-- A store into the first listed block, which is new. -/
theorem put {b j : Nat} {vs : List Value} {t : TypeId} {v : Value} (h : Kw ((b, vs, t) :: fs) w0 w) (hb : w0.heap.size ≤ b) (hne : ∀ f ∈ fs, f.1 ≠ b) : Kw ((b, vs.set j v, t) :: fs) w0 (w.setCell ⟨b, j, none⟩ v) :=
  ⟨h.base.setCell hb _, fun f hf => by
    rcases List.mem_cons.1 hf with rfl | hf
    · have := heap_setCell_same w b j vs.toArray t v (h.row 0 rfl)
      simpa using this
    · rw [Below.heap_setCell _ _ _ _ (hne f hf)]; exact h.blk f (List.mem_cons_of_mem _ hf)⟩
end Kw
end Go.QrMem
