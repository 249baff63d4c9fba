/- WHAT IS PROVED: the ways of taplinelaw01.BitsOrders, over what its calls answer. CONDITIONS: the package variables 'plain' and 'promoted' hold what their initialisers lay. -/
import Derived.Test.YtfgmfkiknogdeaaDoorKb
import Derived.Test.YtfgmfkiknogdeaaDoorDvW
namespace Go.Proofs.YtfgmfkiknogdeaaDoor
open Go Go.RowKit Go.QrBits
attribute [local go_sem] reg_cell reg_frozen reg_setCell reg_lt reg_lt_add reg_drew reg_of_drew quietR yieldsR

/-- A block that holds six truth values. -/
def At6 (w : World) (k : Nat) (a b c d e f : Bool) : Prop := w.cell? ⟨k, 0, none⟩ = some (.bool a) ∧ w.cell? ⟨k, 1, none⟩ = some (.bool b) ∧ w.cell? ⟨k, 2, none⟩ = some (.bool c) ∧ w.cell? ⟨k, 3, none⟩ = some (.bool d) ∧ w.cell? ⟨k, 4, none⟩ = some (.bool e) ∧ w.cell? ⟨k, 5, none⟩ = some (.bool f) ∧ k < w.heap.size
theorem At6.below {w w' : World} {k : Nat} {a b c d e f : Bool} (h : At6 w k a b c d e f) (hb : Below w.heap.size w w') : At6 w' k a b c d e f := by
  obtain ⟨h0, h1, h2, h3, h4, h5, hs⟩ := h
  refine ⟨?_, ?_, ?_, ?_, ?_, ?_, Nat.lt_of_lt_of_le hs hb.size⟩ <;> rw [below_cell hb k _ hs] <;> assumption
theorem At6.next {w w' : World} {k : Nat} {a b c d e f : Bool} {o : Obj} (h : At6 w k a b c d e f) (hq : Below (w.alloc o).heap.size (w.alloc o) w') : At6 w' k a b c d e f := h.below (Below.tail (b_alloc (Below.refl _ _)) hq)
theorem At6.fresh {w w' : World} {a b c d e f : Bool} {t : TypeId} (hq : Below (w.alloc (.cells #[.bool a, .bool b, .bool c, .bool d, .bool e, .bool f] t)).heap.size (w.alloc (.cells #[.bool a, .bool b, .bool c, .bool d, .bool e, .bool f] t)) w') : At6 w' w.heap.size a b c d e f :=
  At6.below ⟨by simp, by simp, by simp, by simp, by simp, by simp, by simp⟩ hq
set_option maxHeartbeats 1000000 in
set_option maxRecDepth 20000 in
theorem I4_c (w : World) (hr : PromAt w) : Calls Tryd.prog 42 #[] w fun e w' => e = .returned (.agg #[.int .i64 4, .bool true]) ∧ Below w.heap.size w w' := by
  obtain ⟨c0, c1, _, _, _, _, _, _, c8⟩ := hr
  go_enter Tryd.func42, Tryd.ntmps42
  go_wp2
  go_returns
  exact ⟨rfl, by repeat (first | exact Below.refl _ _ | apply b_alloc | apply b_reg)⟩
section
variable (s : Int) (g : Bool) (l0 l1 l2 y z low high a b : Int)
set_option maxHeartbeats 4000000 in
set_option maxRecDepth 100000 in
theorem orders_w1 (w : World) (hp : PlainAt w) (hr : PromAt w) (h : vB s = false) : Calls Tryd.prog 10 #[.agg #[.int .i64 s, .bool g], .agg #[.int .i64 l0, .int .i64 l1, .int .i64 l2]] w fun e w' => e = .returned (.bool true) ∧ Below w.heap.size w w' := by
  go_enter Tryd.func10, Tryd.ntmps10
  go_wp2_with fail
  refine (sane_c _ (hp.alloc.alloc)).mono ?_
  rintro e w1 ⟨rfl, hq⟩
  have HB1 : Hid (Below w.heap.size w w1) := Below.tail (b_alloc (b_alloc (Below.refl _ w))) hq
  have HP1 := (hp.alloc.alloc).below hq
  have HR1 := (hr.alloc.alloc).below hq
  have HA : At w1 (w.heap.size) s g := At.below (At.box0.alloc) hq
  have HL : At3 w1 (w.heap.size + 1) l0 l1 l2 := At3.below (At3.box1) hq
  clear hq
  have HAr := HA; obtain ⟨HAa, HAb, HAc⟩ := HAr
  go_wp2_with fail
  refine (check_no s g _ h).mono ?_
  rintro e w2 ⟨rfl, hq⟩
  clear HAa HAb HAc
  have HB2 : Hid (Below w.heap.size w w2) := Below.tail HB1.out hq
  have HP2 := HP1.below hq
  have HR2 := HR1.below hq
  have HA' := HA.below hq
  have HL' := HL.below hq
  clear hq HB1 HP1 HR1
  clear HA HL
  have HA := HA'; clear HA'
  have HL := HL'; clear HL'
  go_wp2
  go_ret
  exact ⟨rfl, HB2.out⟩
end
end Go.Proofs.YtfgmfkiknogdeaaDoor
