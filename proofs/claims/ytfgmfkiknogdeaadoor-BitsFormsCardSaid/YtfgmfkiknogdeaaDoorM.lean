/- WHAT IS PROVED: package bits' four tables of operations, as maps, and what a look into one returns. CONDITIONS: none. -/
import Derived.Test.YtfgmfkiknogdeaaDoorB
import Derived.Test.YtfgmfkiknogdeaaDoorQm
namespace Go.Proofs.YtfgmfkiknogdeaaDoor
open Go Go.RowKit Go.QrBits
attribute [local go_sem] reg_cell reg_frozen reg_setCell reg_lt reg_lt_add reg_reg reg_drew reg_of_drew findNow_nil findNow_int


def shiftsM : Array MapEntry := #[⟨.int .i64 9, .func (.func 82) #[] #[], 0⟩, ⟨.int .i64 10, .func (.func 83) #[] #[], 1⟩]
set_option maxHeartbeats 1000000 in
set_option maxRecDepth 4000 in
theorem shifts_c (w : World) : Calls Tryd.prog 55 #[] w fun e w' => e = .returned (.map (some w.heap.size)) ∧ w' = w.alloc (.map shiftsM 2) := by
  have hmm := @run_makeMap Tryd.prog
  have i0 : ∀ w : World, (Instr.mapUpdate 84 (.map (some w.heap.size)) (.int .i64 9) (.func (.func 82) #[] #[])).run Tryd.prog (w.alloc (.map #[] 0)) = .ok () (w.alloc (.map #[⟨.int .i64 9, .func (.func 82) #[] #[], 0⟩] 1)) := fun w => run_insert_lit Tryd.underlying84 Tryd.underlying3 w _ _ _ _ _ rfl rfl
  have i1 : ∀ w : World, (Instr.mapUpdate 84 (.map (some w.heap.size)) (.int .i64 10) (.func (.func 83) #[] #[])).run Tryd.prog (w.alloc (.map #[⟨.int .i64 9, .func (.func 82) #[] #[], 0⟩] 1)) = .ok () (w.alloc (.map #[⟨.int .i64 9, .func (.func 82) #[] #[], 0⟩, ⟨.int .i64 10, .func (.func 83) #[] #[], 1⟩] 2)) := fun w => run_insert_lit Tryd.underlying84 Tryd.underlying3 w _ _ _ _ _ rfl rfl
  go_enter Tryd.func55, Tryd.ntmps55
  go_wp2
  go_ret
  exact ⟨rfl, rfl⟩
def unariesM : Array MapEntry := #[⟨.int .i64 1, .func (.func 79) #[] #[], 0⟩, ⟨.int .i64 2, .func (.func 80) #[] #[], 1⟩, ⟨.int .i64 3, .func (.func 81) #[] #[], 2⟩]
set_option maxHeartbeats 1000000 in
set_option maxRecDepth 4000 in
theorem unaries_c (w : World) : Calls Tryd.prog 53 #[] w fun e w' => e = .returned (.map (some w.heap.size)) ∧ w' = w.alloc (.map unariesM 3) := by
  have hmm := @run_makeMap Tryd.prog
  have i0 : ∀ w : World, (Instr.mapUpdate 79 (.map (some w.heap.size)) (.int .i64 1) (.func (.func 79) #[] #[])).run Tryd.prog (w.alloc (.map #[] 0)) = .ok () (w.alloc (.map #[⟨.int .i64 1, .func (.func 79) #[] #[], 0⟩] 1)) := fun w => run_insert_lit Tryd.underlying79 Tryd.underlying3 w _ _ _ _ _ rfl rfl
  have i1 : ∀ w : World, (Instr.mapUpdate 79 (.map (some w.heap.size)) (.int .i64 2) (.func (.func 80) #[] #[])).run Tryd.prog (w.alloc (.map #[⟨.int .i64 1, .func (.func 79) #[] #[], 0⟩] 1)) = .ok () (w.alloc (.map #[⟨.int .i64 1, .func (.func 79) #[] #[], 0⟩, ⟨.int .i64 2, .func (.func 80) #[] #[], 1⟩] 2)) := fun w => run_insert_lit Tryd.underlying79 Tryd.underlying3 w _ _ _ _ _ rfl rfl
  have i2 : ∀ w : World, (Instr.mapUpdate 79 (.map (some w.heap.size)) (.int .i64 3) (.func (.func 81) #[] #[])).run Tryd.prog (w.alloc (.map #[⟨.int .i64 1, .func (.func 79) #[] #[], 0⟩, ⟨.int .i64 2, .func (.func 80) #[] #[], 1⟩] 2)) = .ok () (w.alloc (.map #[⟨.int .i64 1, .func (.func 79) #[] #[], 0⟩, ⟨.int .i64 2, .func (.func 80) #[] #[], 1⟩, ⟨.int .i64 3, .func (.func 81) #[] #[], 2⟩] 3)) := fun w => run_insert_lit Tryd.underlying79 Tryd.underlying3 w _ _ _ _ _ rfl rfl
  go_enter Tryd.func53, Tryd.ntmps53
  go_wp2
  go_ret
  exact ⟨rfl, rfl⟩
def arithM : Array MapEntry := #[⟨.int .i64 1, .func (.func 84) #[] #[], 0⟩, ⟨.int .i64 2, .func (.func 85) #[] #[], 1⟩, ⟨.int .i64 3, .func (.func 86) #[] #[], 2⟩, ⟨.int .i64 4, .func (.func 87) #[] #[], 3⟩, ⟨.int .i64 5, .func (.func 88) #[] #[], 4⟩, ⟨.int .i64 6, .func (.func 89) #[] #[], 5⟩, ⟨.int .i64 7, .func (.func 90) #[] #[], 6⟩, ⟨.int .i64 8, .func (.func 91) #[] #[], 7⟩]
set_option maxHeartbeats 1000000 in
set_option maxRecDepth 4000 in
theorem arith_c (w : World) : Calls Tryd.prog 57 #[] w fun e w' => e = .returned (.map (some w.heap.size)) ∧ w' = w.alloc (.map arithM 8) := by
  have hmm := @run_makeMap Tryd.prog
  have i0 : ∀ w : World, (Instr.mapUpdate 89 (.map (some w.heap.size)) (.int .i64 1) (.func (.func 84) #[] #[])).run Tryd.prog (w.alloc (.map #[] 0)) = .ok () (w.alloc (.map #[⟨.int .i64 1, .func (.func 84) #[] #[], 0⟩] 1)) := fun w => run_insert_lit Tryd.underlying89 Tryd.underlying3 w _ _ _ _ _ rfl rfl
  have i1 : ∀ w : World, (Instr.mapUpdate 89 (.map (some w.heap.size)) (.int .i64 2) (.func (.func 85) #[] #[])).run Tryd.prog (w.alloc (.map #[⟨.int .i64 1, .func (.func 84) #[] #[], 0⟩] 1)) = .ok () (w.alloc (.map #[⟨.int .i64 1, .func (.func 84) #[] #[], 0⟩, ⟨.int .i64 2, .func (.func 85) #[] #[], 1⟩] 2)) := fun w => run_insert_lit Tryd.underlying89 Tryd.underlying3 w _ _ _ _ _ rfl rfl
  have i2 : ∀ w : World, (Instr.mapUpdate 89 (.map (some w.heap.size)) (.int .i64 3) (.func (.func 86) #[] #[])).run Tryd.prog (w.alloc (.map #[⟨.int .i64 1, .func (.func 84) #[] #[], 0⟩, ⟨.int .i64 2, .func (.func 85) #[] #[], 1⟩] 2)) = .ok () (w.alloc (.map #[⟨.int .i64 1, .func (.func 84) #[] #[], 0⟩, ⟨.int .i64 2, .func (.func 85) #[] #[], 1⟩, ⟨.int .i64 3, .func (.func 86) #[] #[], 2⟩] 3)) := fun w => run_insert_lit Tryd.underlying89 Tryd.underlying3 w _ _ _ _ _ rfl rfl
  have i3 : ∀ w : World, (Instr.mapUpdate 89 (.map (some w.heap.size)) (.int .i64 4) (.func (.func 87) #[] #[])).run Tryd.prog (w.alloc (.map #[⟨.int .i64 1, .func (.func 84) #[] #[], 0⟩, ⟨.int .i64 2, .func (.func 85) #[] #[], 1⟩, ⟨.int .i64 3, .func (.func 86) #[] #[], 2⟩] 3)) = .ok () (w.alloc (.map #[⟨.int .i64 1, .func (.func 84) #[] #[], 0⟩, ⟨.int .i64 2, .func (.func 85) #[] #[], 1⟩, ⟨.int .i64 3, .func (.func 86) #[] #[], 2⟩, ⟨.int .i64 4, .func (.func 87) #[] #[], 3⟩] 4)) := fun w => run_insert_lit Tryd.underlying89 Tryd.underlying3 w _ _ _ _ _ rfl rfl
  have i4 : ∀ w : World, (Instr.mapUpdate 89 (.map (some w.heap.size)) (.int .i64 5) (.func (.func 88) #[] #[])).run Tryd.prog (w.alloc (.map #[⟨.int .i64 1, .func (.func 84) #[] #[], 0⟩, ⟨.int .i64 2, .func (.func 85) #[] #[], 1⟩, ⟨.int .i64 3, .func (.func 86) #[] #[], 2⟩, ⟨.int .i64 4, .func (.func 87) #[] #[], 3⟩] 4)) = .ok () (w.alloc (.map #[⟨.int .i64 1, .func (.func 84) #[] #[], 0⟩, ⟨.int .i64 2, .func (.func 85) #[] #[], 1⟩, ⟨.int .i64 3, .func (.func 86) #[] #[], 2⟩, ⟨.int .i64 4, .func (.func 87) #[] #[], 3⟩, ⟨.int .i64 5, .func (.func 88) #[] #[], 4⟩] 5)) := fun w => run_insert_lit Tryd.underlying89 Tryd.underlying3 w _ _ _ _ _ rfl rfl
  have i5 : ∀ w : World, (Instr.mapUpdate 89 (.map (some w.heap.size)) (.int .i64 6) (.func (.func 89) #[] #[])).run Tryd.prog (w.alloc (.map #[⟨.int .i64 1, .func (.func 84) #[] #[], 0⟩, ⟨.int .i64 2, .func (.func 85) #[] #[], 1⟩, ⟨.int .i64 3, .func (.func 86) #[] #[], 2⟩, ⟨.int .i64 4, .func (.func 87) #[] #[], 3⟩, ⟨.int .i64 5, .func (.func 88) #[] #[], 4⟩] 5)) = .ok () (w.alloc (.map #[⟨.int .i64 1, .func (.func 84) #[] #[], 0⟩, ⟨.int .i64 2, .func (.func 85) #[] #[], 1⟩, ⟨.int .i64 3, .func (.func 86) #[] #[], 2⟩, ⟨.int .i64 4, .func (.func 87) #[] #[], 3⟩, ⟨.int .i64 5, .func (.func 88) #[] #[], 4⟩, ⟨.int .i64 6, .func (.func 89) #[] #[], 5⟩] 6)) := fun w => run_insert_lit Tryd.underlying89 Tryd.underlying3 w _ _ _ _ _ rfl rfl
  have i6 : ∀ w : World, (Instr.mapUpdate 89 (.map (some w.heap.size)) (.int .i64 7) (.func (.func 90) #[] #[])).run Tryd.prog (w.alloc (.map #[⟨.int .i64 1, .func (.func 84) #[] #[], 0⟩, ⟨.int .i64 2, .func (.func 85) #[] #[], 1⟩, ⟨.int .i64 3, .func (.func 86) #[] #[], 2⟩, ⟨.int .i64 4, .func (.func 87) #[] #[], 3⟩, ⟨.int .i64 5, .func (.func 88) #[] #[], 4⟩, ⟨.int .i64 6, .func (.func 89) #[] #[], 5⟩] 6)) = .ok () (w.alloc (.map #[⟨.int .i64 1, .func (.func 84) #[] #[], 0⟩, ⟨.int .i64 2, .func (.func 85) #[] #[], 1⟩, ⟨.int .i64 3, .func (.func 86) #[] #[], 2⟩, ⟨.int .i64 4, .func (.func 87) #[] #[], 3⟩, ⟨.int .i64 5, .func (.func 88) #[] #[], 4⟩, ⟨.int .i64 6, .func (.func 89) #[] #[], 5⟩, ⟨.int .i64 7, .func (.func 90) #[] #[], 6⟩] 7)) := fun w => run_insert_lit Tryd.underlying89 Tryd.underlying3 w _ _ _ _ _ rfl rfl
  have i7 : ∀ w : World, (Instr.mapUpdate 89 (.map (some w.heap.size)) (.int .i64 8) (.func (.func 91) #[] #[])).run Tryd.prog (w.alloc (.map #[⟨.int .i64 1, .func (.func 84) #[] #[], 0⟩, ⟨.int .i64 2, .func (.func 85) #[] #[], 1⟩, ⟨.int .i64 3, .func (.func 86) #[] #[], 2⟩, ⟨.int .i64 4, .func (.func 87) #[] #[], 3⟩, ⟨.int .i64 5, .func (.func 88) #[] #[], 4⟩, ⟨.int .i64 6, .func (.func 89) #[] #[], 5⟩, ⟨.int .i64 7, .func (.func 90) #[] #[], 6⟩] 7)) = .ok () (w.alloc (.map #[⟨.int .i64 1, .func (.func 84) #[] #[], 0⟩, ⟨.int .i64 2, .func (.func 85) #[] #[], 1⟩, ⟨.int .i64 3, .func (.func 86) #[] #[], 2⟩, ⟨.int .i64 4, .func (.func 87) #[] #[], 3⟩, ⟨.int .i64 5, .func (.func 88) #[] #[], 4⟩, ⟨.int .i64 6, .func (.func 89) #[] #[], 5⟩, ⟨.int .i64 7, .func (.func 90) #[] #[], 6⟩, ⟨.int .i64 8, .func (.func 91) #[] #[], 7⟩] 8)) := fun w => run_insert_lit Tryd.underlying89 Tryd.underlying3 w _ _ _ _ _ rfl rfl
  go_enter Tryd.func57, Tryd.ntmps57
  go_wp2
  go_ret
  exact ⟨rfl, rfl⟩
def relationsM : Array MapEntry := #[⟨.int .i64 11, .func (.func 92) #[] #[], 0⟩, ⟨.int .i64 12, .func (.func 93) #[] #[], 1⟩, ⟨.int .i64 13, .func (.func 94) #[] #[], 2⟩, ⟨.int .i64 14, .func (.func 95) #[] #[], 3⟩, ⟨.int .i64 15, .func (.func 96) #[] #[], 4⟩, ⟨.int .i64 16, .func (.func 97) #[] #[], 5⟩]
set_option maxHeartbeats 1000000 in
set_option maxRecDepth 4000 in
theorem relations_c (w : World) : Calls Tryd.prog 58 #[] w fun e w' => e = .returned (.map (some w.heap.size)) ∧ w' = w.alloc (.map relationsM 6) := by
  have hmm := @run_makeMap Tryd.prog
  have i0 : ∀ w : World, (Instr.mapUpdate 93 (.map (some w.heap.size)) (.int .i64 11) (.func (.func 92) #[] #[])).run Tryd.prog (w.alloc (.map #[] 0)) = .ok () (w.alloc (.map #[⟨.int .i64 11, .func (.func 92) #[] #[], 0⟩] 1)) := fun w => run_insert_lit Tryd.underlying93 Tryd.underlying3 w _ _ _ _ _ rfl rfl
  have i1 : ∀ w : World, (Instr.mapUpdate 93 (.map (some w.heap.size)) (.int .i64 12) (.func (.func 93) #[] #[])).run Tryd.prog (w.alloc (.map #[⟨.int .i64 11, .func (.func 92) #[] #[], 0⟩] 1)) = .ok () (w.alloc (.map #[⟨.int .i64 11, .func (.func 92) #[] #[], 0⟩, ⟨.int .i64 12, .func (.func 93) #[] #[], 1⟩] 2)) := fun w => run_insert_lit Tryd.underlying93 Tryd.underlying3 w _ _ _ _ _ rfl rfl
  have i2 : ∀ w : World, (Instr.mapUpdate 93 (.map (some w.heap.size)) (.int .i64 13) (.func (.func 94) #[] #[])).run Tryd.prog (w.alloc (.map #[⟨.int .i64 11, .func (.func 92) #[] #[], 0⟩, ⟨.int .i64 12, .func (.func 93) #[] #[], 1⟩] 2)) = .ok () (w.alloc (.map #[⟨.int .i64 11, .func (.func 92) #[] #[], 0⟩, ⟨.int .i64 12, .func (.func 93) #[] #[], 1⟩, ⟨.int .i64 13, .func (.func 94) #[] #[], 2⟩] 3)) := fun w => run_insert_lit Tryd.underlying93 Tryd.underlying3 w _ _ _ _ _ rfl rfl
  have i3 : ∀ w : World, (Instr.mapUpdate 93 (.map (some w.heap.size)) (.int .i64 14) (.func (.func 95) #[] #[])).run Tryd.prog (w.alloc (.map #[⟨.int .i64 11, .func (.func 92) #[] #[], 0⟩, ⟨.int .i64 12, .func (.func 93) #[] #[], 1⟩, ⟨.int .i64 13, .func (.func 94) #[] #[], 2⟩] 3)) = .ok () (w.alloc (.map #[⟨.int .i64 11, .func (.func 92) #[] #[], 0⟩, ⟨.int .i64 12, .func (.func 93) #[] #[], 1⟩, ⟨.int .i64 13, .func (.func 94) #[] #[], 2⟩, ⟨.int .i64 14, .func (.func 95) #[] #[], 3⟩] 4)) := fun w => run_insert_lit Tryd.underlying93 Tryd.underlying3 w _ _ _ _ _ rfl rfl
  have i4 : ∀ w : World, (Instr.mapUpdate 93 (.map (some w.heap.size)) (.int .i64 15) (.func (.func 96) #[] #[])).run Tryd.prog (w.alloc (.map #[⟨.int .i64 11, .func (.func 92) #[] #[], 0⟩, ⟨.int .i64 12, .func (.func 93) #[] #[], 1⟩, ⟨.int .i64 13, .func (.func 94) #[] #[], 2⟩, ⟨.int .i64 14, .func (.func 95) #[] #[], 3⟩] 4)) = .ok () (w.alloc (.map #[⟨.int .i64 11, .func (.func 92) #[] #[], 0⟩, ⟨.int .i64 12, .func (.func 93) #[] #[], 1⟩, ⟨.int .i64 13, .func (.func 94) #[] #[], 2⟩, ⟨.int .i64 14, .func (.func 95) #[] #[], 3⟩, ⟨.int .i64 15, .func (.func 96) #[] #[], 4⟩] 5)) := fun w => run_insert_lit Tryd.underlying93 Tryd.underlying3 w _ _ _ _ _ rfl rfl
  have i5 : ∀ w : World, (Instr.mapUpdate 93 (.map (some w.heap.size)) (.int .i64 16) (.func (.func 97) #[] #[])).run Tryd.prog (w.alloc (.map #[⟨.int .i64 11, .func (.func 92) #[] #[], 0⟩, ⟨.int .i64 12, .func (.func 93) #[] #[], 1⟩, ⟨.int .i64 13, .func (.func 94) #[] #[], 2⟩, ⟨.int .i64 14, .func (.func 95) #[] #[], 3⟩, ⟨.int .i64 15, .func (.func 96) #[] #[], 4⟩] 5)) = .ok () (w.alloc (.map #[⟨.int .i64 11, .func (.func 92) #[] #[], 0⟩, ⟨.int .i64 12, .func (.func 93) #[] #[], 1⟩, ⟨.int .i64 13, .func (.func 94) #[] #[], 2⟩, ⟨.int .i64 14, .func (.func 95) #[] #[], 3⟩, ⟨.int .i64 15, .func (.func 96) #[] #[], 4⟩, ⟨.int .i64 16, .func (.func 97) #[] #[], 5⟩] 6)) := fun w => run_insert_lit Tryd.underlying93 Tryd.underlying3 w _ _ _ _ _ rfl rfl
  go_enter Tryd.func58, Tryd.ntmps58
  go_wp2
  go_ret
  exact ⟨rfl, rfl⟩

/-- A map of functions that the call makes, and the look-up behind it. -/
def MapAt (f mt : Nat) (k : Int) (v : Value) (ok : Bool) : Prop := ∀ w : World, Calls Tryd.prog f #[] w fun e w' => ∃ b, e = .returned (.map (some b)) ∧ Below w.heap.size w w' ∧ (Instr.lookup mt (.map (some b)) (.int .i64 k) true).run Tryd.prog w' = .ok (.tuple #[v, .bool ok]) w'
theorem map_block (w : World) (o : Obj) : (w.alloc o).heap[w.heap.size]? = some o := (MapKept.heap_alloc w o).1
theorem shifts_hit (k : Int) (i : Nat) (v : Value) (h : Instr.findNow (.int .i64) (.int .i64 k) shiftsM.toList 0 = some (some (i, v))) : MapAt 55 84 k v true := fun w =>
  (shifts_c w).mono fun _ _ ⟨he, hw⟩ => ⟨_, he, by subst hw; exact b_alloc (Below.refl _ _), by subst hw; exact run_look_hit Tryd.underlying84 Tryd.underlying3 (map_block w _) h⟩
theorem shifts_miss (k : Int) (h : Instr.findNow (.int .i64) (.int .i64 k) shiftsM.toList 0 = some none) : MapAt 55 84 k .nilFunc false := fun w =>
  (shifts_c w).mono fun _ _ ⟨he, hw⟩ => ⟨_, he, by subst hw; exact b_alloc (Below.refl _ _), by subst hw; exact run_look_miss Tryd.underlying84 Tryd.underlying3 (by kernel_rfl) (map_block w _) h⟩
theorem unaries_hit (k : Int) (i : Nat) (v : Value) (h : Instr.findNow (.int .i64) (.int .i64 k) unariesM.toList 0 = some (some (i, v))) : MapAt 53 79 k v true := fun w =>
  (unaries_c w).mono fun _ _ ⟨he, hw⟩ => ⟨_, he, by subst hw; exact b_alloc (Below.refl _ _), by subst hw; exact run_look_hit Tryd.underlying79 Tryd.underlying3 (map_block w _) h⟩
theorem unaries_miss (k : Int) (h : Instr.findNow (.int .i64) (.int .i64 k) unariesM.toList 0 = some none) : MapAt 53 79 k .nilFunc false := fun w =>
  (unaries_c w).mono fun _ _ ⟨he, hw⟩ => ⟨_, he, by subst hw; exact b_alloc (Below.refl _ _), by subst hw; exact run_look_miss Tryd.underlying79 Tryd.underlying3 (by kernel_rfl) (map_block w _) h⟩
theorem arith_hit (k : Int) (i : Nat) (v : Value) (h : Instr.findNow (.int .i64) (.int .i64 k) arithM.toList 0 = some (some (i, v))) : MapAt 57 89 k v true := fun w =>
  (arith_c w).mono fun _ _ ⟨he, hw⟩ => ⟨_, he, by subst hw; exact b_alloc (Below.refl _ _), by subst hw; exact run_look_hit Tryd.underlying89 Tryd.underlying3 (map_block w _) h⟩
theorem arith_miss (k : Int) (h : Instr.findNow (.int .i64) (.int .i64 k) arithM.toList 0 = some none) : MapAt 57 89 k .nilFunc false := fun w =>
  (arith_c w).mono fun _ _ ⟨he, hw⟩ => ⟨_, he, by subst hw; exact b_alloc (Below.refl _ _), by subst hw; exact run_look_miss Tryd.underlying89 Tryd.underlying3 (by kernel_rfl) (map_block w _) h⟩
theorem relations_hit (k : Int) (i : Nat) (v : Value) (h : Instr.findNow (.int .i64) (.int .i64 k) relationsM.toList 0 = some (some (i, v))) : MapAt 58 93 k v true := fun w =>
  (relations_c w).mono fun _ _ ⟨he, hw⟩ => ⟨_, he, by subst hw; exact b_alloc (Below.refl _ _), by subst hw; exact run_look_hit Tryd.underlying93 Tryd.underlying3 (map_block w _) h⟩
theorem relations_miss (k : Int) (h : Instr.findNow (.int .i64) (.int .i64 k) relationsM.toList 0 = some none) : MapAt 58 93 k .nilFunc false := fun w =>
  (relations_c w).mono fun _ _ ⟨he, hw⟩ => ⟨_, he, by subst hw; exact b_alloc (Below.refl _ _), by subst hw; exact run_look_miss Tryd.underlying93 Tryd.underlying3 (by kernel_rfl) (map_block w _) h⟩
end Go.Proofs.YtfgmfkiknogdeaaDoor
