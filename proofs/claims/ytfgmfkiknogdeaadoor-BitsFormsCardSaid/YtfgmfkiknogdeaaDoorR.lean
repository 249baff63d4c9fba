/- WHAT IS PROVED: blocks that hold two or three numbers, across calls that write nothing below them; 'op' of the laws at an addition and a multiplication. CONDITIONS: valid types; the package variable 'plain' holds the signed type of 4 bytes. -/
import Derived.Test.YtfgmfkiknogdeaaDoorConW
import Derived.Test.YtfgmfkiknogdeaaDoorE2
namespace Go.Proofs.YtfgmfkiknogdeaaDoor
open Go Go.RowKit Go.QrBits
attribute [local go_sem] reg_cell reg_frozen reg_setCell reg_lt reg_lt_add reg_drew reg_of_drew quietR yieldsR

/-- A block that holds two numbers. -/
def At2 (w : World) (b : Nat) (x y : Int) : Prop := w.cell? ⟨b, 0, none⟩ = some (.int .i64 x) ∧ w.cell? ⟨b, 1, none⟩ = some (.int .i64 y) ∧ b < w.heap.size
theorem At2.below {w w' : World} {b : Nat} {x y : Int} (h : At2 w b x y) (hb : Below w.heap.size w w') : At2 w' b x y :=
  ⟨by rw [below_cell hb b 0 h.2.2]; exact h.1, by rw [below_cell hb b 1 h.2.2]; exact h.2.1, Nat.lt_of_lt_of_le h.2.2 hb.size⟩
theorem At2.next {w w' : World} {b : Nat} {x y : Int} {o : Obj} (h : At2 w b x y) (hq : Below (w.alloc o).heap.size (w.alloc o) w') : At2 w' b x y := h.below (Below.tail (b_alloc (Below.refl _ _)) hq)
theorem At2.alloc {w : World} {b : Nat} {x y : Int} {o : Obj} (h : At2 w b x y) : At2 (w.alloc o) b x y := h.below (b_alloc (Below.refl _ _))
theorem At2.box0 {w : World} {x y : Int} {t : TypeId} : At2 (w.alloc (.cells #[.int .i64 x, .int .i64 y] t)) w.heap.size x y := ⟨by simp, by simp, by simp⟩
theorem At2.box1 {w : World} {o : Obj} {x y : Int} {t : TypeId} : At2 ((w.alloc o).alloc (.cells #[.int .i64 x, .int .i64 y] t)) (w.heap.size + 1) x y := by
  have := At2.box0 (w := w.alloc o) (x := x) (y := y) (t := t); rwa [World.size_alloc] at this
theorem At2.box2 {w : World} {o o' : Obj} {x y : Int} {t : TypeId} : At2 (((w.alloc o).alloc o').alloc (.cells #[.int .i64 x, .int .i64 y] t)) (w.heap.size + 1 + 1) x y := by
  have := At2.box0 (w := (w.alloc o).alloc o') (x := x) (y := y) (t := t); rwa [World.size_alloc, World.size_alloc] at this
/-- A block that holds three numbers. -/
def At3 (w : World) (b : Nat) (x y z : Int) : Prop := w.cell? ⟨b, 0, none⟩ = some (.int .i64 x) ∧ w.cell? ⟨b, 1, none⟩ = some (.int .i64 y) ∧ w.cell? ⟨b, 2, none⟩ = some (.int .i64 z) ∧ b < w.heap.size
theorem At3.below {w w' : World} {b : Nat} {x y z : Int} (h : At3 w b x y z) (hb : Below w.heap.size w w') : At3 w' b x y z :=
  ⟨by rw [below_cell hb b 0 h.2.2.2]; exact h.1, by rw [below_cell hb b 1 h.2.2.2]; exact h.2.1, by rw [below_cell hb b 2 h.2.2.2]; exact h.2.2.1, Nat.lt_of_lt_of_le h.2.2.2 hb.size⟩
theorem At3.next {w w' : World} {b : Nat} {x y z : Int} {o : Obj} (h : At3 w b x y z) (hq : Below (w.alloc o).heap.size (w.alloc o) w') : At3 w' b x y z := h.below (Below.tail (b_alloc (Below.refl _ _)) hq)
theorem At3.alloc {w : World} {b : Nat} {x y z : Int} {o : Obj} (h : At3 w b x y z) : At3 (w.alloc o) b x y z := h.below (b_alloc (Below.refl _ _))
theorem At3.box0 {w : World} {x y z : Int} {t : TypeId} : At3 (w.alloc (.cells #[.int .i64 x, .int .i64 y, .int .i64 z] t)) w.heap.size x y z := ⟨by simp, by simp, by simp, by simp⟩
theorem At3.box1 {w : World} {o : Obj} {x y z : Int} {t : TypeId} : At3 ((w.alloc o).alloc (.cells #[.int .i64 x, .int .i64 y, .int .i64 z] t)) (w.heap.size + 1) x y z := by
  have := At3.box0 (w := w.alloc o) (x := x) (y := y) (z := z) (t := t); rwa [World.size_alloc] at this
theorem At3.box2 {w : World} {o o' : Obj} {x y z : Int} {t : TypeId} : At3 (((w.alloc o).alloc o').alloc (.cells #[.int .i64 x, .int .i64 y, .int .i64 z] t)) (w.heap.size + 1 + 1) x y z := by
  have := At3.box0 (w := (w.alloc o).alloc o') (x := x) (y := y) (z := z) (t := t); rwa [World.size_alloc, World.size_alloc] at this

set_option maxHeartbeats 1000000 in
set_option maxRecDepth 20000 in
/-- The law's own 'op', where the operation itself is known. -/
theorem op_of {n s : Int} {g : Bool} {a b S : Int} {G : Bool} {v e : Int} (w : World) (hp : PlainAt w)
    (h : ∀ w, PlainAt w → Calls Tryd.prog 28 #[.int .i64 n, .agg #[.int .i64 s, .bool g], .int .i64 a, .agg #[.int .i64 s, .bool g], .int .i64 b] w fun e' w' => e' = .returned (.tuple #[.agg #[.int .i64 S, .bool G], .int .i64 v, .int .i64 e]) ∧ Below w.heap.size w w') :
    Calls Tryd.prog 40 #[.int .i64 n, .agg #[.int .i64 s, .bool g], .int .i64 a, .int .i64 b] w fun e' w' => e' = .returned (.tuple #[.agg #[.int .i64 S, .bool G], .int .i64 v]) ∧ Below w.heap.size w w' := by
  go_enter Tryd.func40, Tryd.ntmps40
  go_wp2_with fail
  refine (h _ hp.alloc.alloc).mono ?_
  rintro e w1 ⟨rfl, hq⟩
  clear h
  obtain ⟨p, rfl⟩ := regrown hq
  clear hq
  go_wp2
  go_returns
  exact ⟨rfl, by repeat (first | exact Below.refl _ _ | apply b_alloc | apply b_reg)⟩
end Go.Proofs.YtfgmfkiknogdeaaDoor
