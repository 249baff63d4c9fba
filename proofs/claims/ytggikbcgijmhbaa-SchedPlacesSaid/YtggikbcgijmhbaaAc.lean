/- WHAT IS PROVED: the law's sane answers true. -/
import Derived.Test.YtggikbcgijmhbaaAb
set_option linter.unusedSimpArgs false
set_option linter.unusedVariables false
namespace Go.Proofs.Ytggikbcgijmhbaa
open Go Go.RowKit Go.QrBits Go.QrMem
attribute [local go_sem] reg_cell reg_frozen reg_setCell reg_lt reg_lt_add reg_drew reg_of_drew
theorem st_ext {s t : St} (h1 : s.qs = t.qs) (h2 : s.ts = t.ts) (h3 : s.q = t.q) : s = t := by
  obtain ⟨_, _, _⟩ := s; obtain ⟨_, _, _⟩ := t
  simp only at h1 h2 h3; subst h1 h2 h3; rfl
theorem put_x {W w' w : World} {x g d z e : Nat} {b : Option Addr} {s : St} {u0 u1 u2 : Value} (hx : W.heap[x]? = some (.cells #[u0, u1, u2] 25 (0, 0))) (hzx : z ≤ x) (hw : Below z w W) (hb : Below W.heap.size W w') (how : Owned W.heap.size s g d b e w') (hok : Ok s) (a0 a1 a2 : Value) :
    w'.heap[x]? = some (.cells #[u0, u1, u2] 25 (0, 0)) ∧ (((w'.setCell ⟨x, 0, none⟩ a0).setCell ⟨x, 1, none⟩ a1).setCell ⟨x, 2, none⟩ a2).heap[x]? = some (.cells #[a0, a1, a2] 25 (0, 0)) ∧
      Below z w (((w'.setCell ⟨x, 0, none⟩ a0).setCell ⟨x, 1, none⟩ a1).setCell ⟨x, 2, none⟩ a2) ∧ ScIn (((w'.setCell ⟨x, 0, none⟩ a0).setCell ⟨x, 1, none⟩ a1).setCell ⟨x, 2, none⟩ a2) (some ⟨g, 0, none⟩) d b e s.qs s.ts := by
  have hxl := (Array.getElem?_eq_some_iff.1 hx).1
  have h5 := (hb.block x hxl).trans hx
  have f1 := heap_setCell_same w' x 0 _ 25 a0 h5
  have f2 := heap_setCell_same _ x 1 _ 25 a1 f1
  have f3 := heap_setCell_same _ x 2 _ 25 a2 f2
  obtain ⟨B, b0, rs, hB, ho⟩ := how
  exact ⟨h5, by simpa using f3,
    (((hw.trans (hb.mono (by omega))).setCell (by show _ ≤ x; omega) _).setCell (by show _ ≤ x; omega) _).setCell (by show _ ≤ x; omega) _,
    (((ho.setXj (by omega) 0 _).setXj (by omega) 1 _).setXj (by omega) 2 _).scIn (short_of_ok hok)⟩
theorem row2 {w : World} {b : Nat} {x y : Value} {t : TypeId} (h : w.heap[b]? = some (.cells #[x, y] t (0, 0))) : w.cell? ⟨b, 0, none⟩ = some x ∧ w.cell? ⟨b, 1, none⟩ = some y ∧ b < w.heap.size :=
  ⟨by simp [World.cell?, h], by simp [World.cell?, h], (Array.getElem?_eq_some_iff.1 h).1⟩
def S3 : St := ⟨[⟨-1, 0, [2, 0, 1]⟩], [⟨3, 0, 1⟩, ⟨3, 0, 1⟩, ⟨5, 0, 1⟩], 2⟩
theorem okS3 : Ok S3 := by
  have : st3 = S3 := st_ext st3_eq.1 st3_eq.2.1 st3_eq.2.2
  rw [← this]; exact ok3
theorem S3_eq : st3 = S3 := st_ext st3_eq.1 st3_eq.2.1 st3_eq.2.2
def S4 : St := ⟨[⟨2, 2, [0, 1]⟩], [⟨3, 0, 1⟩, ⟨3, 0, 1⟩, ⟨5, 0, 2⟩], 2⟩
theorem eqS4 : switchM S3 0 = S4 := st_ext (by decide +kernel) (by decide +kernel) (by decide +kernel)
theorem okS4 : Ok S4 := by rw [← eqS4]; exact switch_ok okS3 (by decide)
theorem goS4 (g d : Nat) (b : Option Addr) (e : Nat) (w : World) (hs : ScIn w (some ⟨g, 0, none⟩) d b e S3.qs S3.ts) : Calls Try.prog 22 #[.agg #[.slice (some ⟨g, 0, none⟩) 1 d, .slice b 3 e, .int .i64 2], .int .i64 0] w (Res3 S4 (.int .i64 2) w) := by
  have h := switch_y (some ⟨g, 0, none⟩) d b e S3.qs S3.ts 2 0 w hs (chk_of_ok okS3) (by decide)
  rw [show switchM ⟨S3.qs, S3.ts, 2⟩ 0 = S4 from eqS4] at h
  exact h
def S5 : St := ⟨[⟨2, 1, [0, 1]⟩], [⟨3, 0, 1⟩, ⟨3, 0, 1⟩, ⟨5, 0, 2⟩], 2⟩
theorem eqS5 : tickM S4 0 = S5 := st_ext (by decide +kernel) (by decide +kernel) (by decide +kernel)
theorem okS5 : Ok S5 := by rw [← eqS5]; exact tick_ok okS4 (by decide)
theorem goS5 (g d : Nat) (b : Option Addr) (e : Nat) (w : World) (hs : ScIn w (some ⟨g, 0, none⟩) d b e S4.qs S4.ts) : Calls Try.prog 23 #[.agg #[.slice (some ⟨g, 0, none⟩) 1 d, .slice b 3 e, .int .i64 2], .int .i64 0] w (Res3 S5 (.bool false) w) := by
  have h := tick_y (some ⟨g, 0, none⟩) d b e S4.qs S4.ts 2 0 w hs (chk_of_ok okS4) (by decide)
  rw [show tickM ⟨S4.qs, S4.ts, 2⟩ 0 = S5 from eqS5, show dueM S5 0 = false by decide +kernel] at h
  exact h
def S6 : St := ⟨[⟨2, 0, [0, 1]⟩], [⟨3, 0, 1⟩, ⟨3, 0, 1⟩, ⟨5, 0, 2⟩], 2⟩
theorem eqS6 : tickM S5 0 = S6 := st_ext (by decide +kernel) (by decide +kernel) (by decide +kernel)
theorem okS6 : Ok S6 := by rw [← eqS6]; exact tick_ok okS5 (by decide)
theorem goS6 (g d : Nat) (b : Option Addr) (e : Nat) (w : World) (hs : ScIn w (some ⟨g, 0, none⟩) d b e S5.qs S5.ts) : Calls Try.prog 23 #[.agg #[.slice (some ⟨g, 0, none⟩) 1 d, .slice b 3 e, .int .i64 2], .int .i64 0] w (Res3 S6 (.bool false) w) := by
  have h := tick_y (some ⟨g, 0, none⟩) d b e S5.qs S5.ts 2 0 w hs (chk_of_ok okS5) (by decide)
  rw [show tickM ⟨S5.qs, S5.ts, 2⟩ 0 = S6 from eqS6, show dueM S6 0 = false by decide +kernel] at h
  exact h
def S7 : St := ⟨[⟨2, 2, [0, 1]⟩], [⟨3, 0, 1⟩, ⟨3, 0, 1⟩, ⟨5, 0, 2⟩], 2⟩
theorem eqS7 : switchM S6 0 = S7 := st_ext (by decide +kernel) (by decide +kernel) (by decide +kernel)
theorem okS7 : Ok S7 := by rw [← eqS7]; exact switch_ok okS6 (by decide)
theorem goS7 (g d : Nat) (b : Option Addr) (e : Nat) (w : World) (hs : ScIn w (some ⟨g, 0, none⟩) d b e S6.qs S6.ts) : Calls Try.prog 22 #[.agg #[.slice (some ⟨g, 0, none⟩) 1 d, .slice b 3 e, .int .i64 2], .int .i64 0] w (Res3 S7 (.int .i64 2) w) := by
  have h := switch_y (some ⟨g, 0, none⟩) d b e S6.qs S6.ts 2 0 w hs (chk_of_ok okS6) (by decide)
  rw [show switchM ⟨S6.qs, S6.ts, 2⟩ 0 = S7 from eqS7] at h
  exact h
def S8 : St := ⟨[⟨-1, 0, [0, 1]⟩], [⟨3, 0, 1⟩, ⟨3, 0, 1⟩, ⟨5, 0, 3⟩], 2⟩
theorem eqS8 : leaveM S7 2 3 = S8 := st_ext (by decide +kernel) (by decide +kernel) (by decide +kernel)
theorem okS8 : Ok S8 := by rw [← eqS8]; exact nowhere_ok okS7 (by decide) (.inl rfl)
theorem goS8 (g d : Nat) (b : Option Addr) (e : Nat) (w : World) (hs : ScIn w (some ⟨g, 0, none⟩) d b e S7.qs S7.ts) : Calls Try.prog 25 #[.agg #[.slice (some ⟨g, 0, none⟩) 1 d, .slice b 3 e, .int .i64 2], .int .i64 2] w (Res2 S8 w) := by
  have h := block_y (some ⟨g, 0, none⟩) d b e S7.qs S7.ts 2 2 w hs (chk_of_ok okS7) (by decide) (by decide +kernel)
  rw [show leaveM ⟨S7.qs, S7.ts, 2⟩ 2 3 = S8 from eqS8] at h
  exact h
def S9 : St := ⟨[⟨0, 2, [1]⟩], [⟨3, 0, 2⟩, ⟨3, 0, 1⟩, ⟨5, 0, 3⟩], 2⟩
theorem eqS9 : switchM S8 0 = S9 := st_ext (by decide +kernel) (by decide +kernel) (by decide +kernel)
theorem okS9 : Ok S9 := by rw [← eqS9]; exact switch_ok okS8 (by decide)
theorem goS9 (g d : Nat) (b : Option Addr) (e : Nat) (w : World) (hs : ScIn w (some ⟨g, 0, none⟩) d b e S8.qs S8.ts) : Calls Try.prog 22 #[.agg #[.slice (some ⟨g, 0, none⟩) 1 d, .slice b 3 e, .int .i64 2], .int .i64 0] w (Res3 S9 (.int .i64 0) w) := by
  have h := switch_y (some ⟨g, 0, none⟩) d b e S8.qs S8.ts 2 0 w hs (chk_of_ok okS8) (by decide)
  rw [show switchM ⟨S8.qs, S8.ts, 2⟩ 0 = S9 from eqS9] at h
  exact h
def S10 : St := ⟨[⟨0, 1, [1]⟩], [⟨3, 0, 2⟩, ⟨3, 0, 1⟩, ⟨5, 0, 3⟩], 2⟩
theorem eqS10 : tickM S9 0 = S10 := st_ext (by decide +kernel) (by decide +kernel) (by decide +kernel)
theorem okS10 : Ok S10 := by rw [← eqS10]; exact tick_ok okS9 (by decide)
theorem goS10 (g d : Nat) (b : Option Addr) (e : Nat) (w : World) (hs : ScIn w (some ⟨g, 0, none⟩) d b e S9.qs S9.ts) : Calls Try.prog 23 #[.agg #[.slice (some ⟨g, 0, none⟩) 1 d, .slice b 3 e, .int .i64 2], .int .i64 0] w (Res3 S10 (.bool false) w) := by
  have h := tick_y (some ⟨g, 0, none⟩) d b e S9.qs S9.ts 2 0 w hs (chk_of_ok okS9) (by decide)
  rw [show tickM ⟨S9.qs, S9.ts, 2⟩ 0 = S10 from eqS10, show dueM S10 0 = false by decide +kernel] at h
  exact h
def S11 : St := ⟨[⟨0, 0, [1]⟩], [⟨3, 0, 2⟩, ⟨3, 0, 1⟩, ⟨5, 0, 3⟩], 2⟩
theorem eqS11 : tickM S10 0 = S11 := st_ext (by decide +kernel) (by decide +kernel) (by decide +kernel)
theorem okS11 : Ok S11 := by rw [← eqS11]; exact tick_ok okS10 (by decide)
theorem goS11 (g d : Nat) (b : Option Addr) (e : Nat) (w : World) (hs : ScIn w (some ⟨g, 0, none⟩) d b e S10.qs S10.ts) : Calls Try.prog 23 #[.agg #[.slice (some ⟨g, 0, none⟩) 1 d, .slice b 3 e, .int .i64 2], .int .i64 0] w (Res3 S11 (.bool true) w) := by
  have h := tick_y (some ⟨g, 0, none⟩) d b e S10.qs S10.ts 2 0 w hs (chk_of_ok okS10) (by decide)
  rw [show tickM ⟨S10.qs, S10.ts, 2⟩ 0 = S11 from eqS11, show dueM S11 0 = true by decide +kernel] at h
  exact h
def S12 : St := ⟨[⟨1, 2, [0]⟩], [⟨3, 0, 1⟩, ⟨3, 0, 2⟩, ⟨5, 0, 3⟩], 2⟩
theorem eqS12 : switchM S11 0 = S12 := st_ext (by decide +kernel) (by decide +kernel) (by decide +kernel)
theorem okS12 : Ok S12 := by rw [← eqS12]; exact switch_ok okS11 (by decide)
theorem goS12 (g d : Nat) (b : Option Addr) (e : Nat) (w : World) (hs : ScIn w (some ⟨g, 0, none⟩) d b e S11.qs S11.ts) : Calls Try.prog 22 #[.agg #[.slice (some ⟨g, 0, none⟩) 1 d, .slice b 3 e, .int .i64 2], .int .i64 0] w (Res3 S12 (.int .i64 1) w) := by
  have h := switch_y (some ⟨g, 0, none⟩) d b e S11.qs S11.ts 2 0 w hs (chk_of_ok okS11) (by decide)
  rw [show switchM ⟨S11.qs, S11.ts, 2⟩ 0 = S12 from eqS12] at h
  exact h
def S13 : St := ⟨[⟨1, 1, [0]⟩], [⟨3, 0, 1⟩, ⟨3, 0, 2⟩, ⟨5, 0, 3⟩], 2⟩
theorem eqS13 : tickM S12 0 = S13 := st_ext (by decide +kernel) (by decide +kernel) (by decide +kernel)
theorem okS13 : Ok S13 := by rw [← eqS13]; exact tick_ok okS12 (by decide)
theorem goS13 (g d : Nat) (b : Option Addr) (e : Nat) (w : World) (hs : ScIn w (some ⟨g, 0, none⟩) d b e S12.qs S12.ts) : Calls Try.prog 23 #[.agg #[.slice (some ⟨g, 0, none⟩) 1 d, .slice b 3 e, .int .i64 2], .int .i64 0] w (Res3 S13 (.bool false) w) := by
  have h := tick_y (some ⟨g, 0, none⟩) d b e S12.qs S12.ts 2 0 w hs (chk_of_ok okS12) (by decide)
  rw [show tickM ⟨S12.qs, S12.ts, 2⟩ 0 = S13 from eqS13, show dueM S13 0 = false by decide +kernel] at h
  exact h
def S14 : St := ⟨[⟨1, 1, [2, 0]⟩], [⟨3, 0, 1⟩, ⟨3, 0, 2⟩, ⟨5, 0, 1⟩], 2⟩
theorem eqS14 : toEndM S13 2 = S14 := st_ext (by decide +kernel) (by decide +kernel) (by decide +kernel)
theorem okS14 : Ok S14 := by rw [← eqS14]; exact toEnd_ok okS13 (.inl rfl) (by decide)
theorem goS14 (g d : Nat) (b : Option Addr) (e : Nat) (w : World) (hs : ScIn w (some ⟨g, 0, none⟩) d b e S13.qs S13.ts) : Calls Try.prog 26 #[.agg #[.slice (some ⟨g, 0, none⟩) 1 d, .slice b 3 e, .int .i64 2], .int .i64 2] w (Res3 S14 (.bool true) w) := by
  have h := wake_y (some ⟨g, 0, none⟩) d b e S13.qs S13.ts 2 2 w hs (chk_of_ok okS13) 0 (by decide) (by decide +kernel) (by decide +kernel)
  rw [show toEndM ⟨S13.qs, S13.ts, 2⟩ 2 = S14 from eqS14, show dueM S14 0 = true by decide +kernel] at h
  exact h
def S15 : St := ⟨[⟨2, 2, [1, 0]⟩], [⟨3, 0, 1⟩, ⟨3, 0, 1⟩, ⟨5, 0, 2⟩], 2⟩
theorem eqS15 : switchM S14 0 = S15 := st_ext (by decide +kernel) (by decide +kernel) (by decide +kernel)
theorem okS15 : Ok S15 := by rw [← eqS15]; exact switch_ok okS14 (by decide)
theorem goS15 (g d : Nat) (b : Option Addr) (e : Nat) (w : World) (hs : ScIn w (some ⟨g, 0, none⟩) d b e S14.qs S14.ts) : Calls Try.prog 22 #[.agg #[.slice (some ⟨g, 0, none⟩) 1 d, .slice b 3 e, .int .i64 2], .int .i64 0] w (Res3 S15 (.int .i64 2) w) := by
  have h := switch_y (some ⟨g, 0, none⟩) d b e S14.qs S14.ts 2 0 w hs (chk_of_ok okS14) (by decide)
  rw [show switchM ⟨S14.qs, S14.ts, 2⟩ 0 = S15 from eqS15] at h
  exact h
theorem dueS3 (g d : Nat) (b : Option Addr) (e : Nat) (w : World) (hs : ScIn w (some ⟨g, 0, none⟩) d b e S3.qs S3.ts) : Calls Try.prog 17 #[.agg #[.slice (some ⟨g, 0, none⟩) 1 d, .slice b 3 e, .int .i64 2], .int .i64 0] w fun y w' => y = .returned (.bool true) ∧ Below w.heap.size w w' := by
  have h := dueF_y (some ⟨g, 0, none⟩) d b e S3.qs S3.ts 2 0 w hs (chk_of_ok okS3) (by decide)
  rw [show dueM ⟨S3.qs, S3.ts, 2⟩ 0 = true by decide +kernel] at h
  exact h
theorem chkS15 (g d : Nat) (b : Option Addr) (e : Nat) (w : World) (hs : ScIn w (some ⟨g, 0, none⟩) d b e S15.qs S15.ts) : Calls Try.prog 13 #[.agg #[.slice (some ⟨g, 0, none⟩) 1 d, .slice b 3 e, .int .i64 2]] w fun y w' => y = .returned (.int .i64 0) ∧ Below w.heap.size w w' := by
  have h := check_c (some ⟨g, 0, none⟩) d b e S15.qs S15.ts 2 w hs
  rw [show chkB S15.qs S15.ts 2 = true from chk_of_ok okS15] at h
  exact h
theorem threeS3 (w : World) : Calls Try.prog 29 #[] w fun y w' => ∃ (g d : Nat) (b : Option Addr) (d2 : Nat), y = .returned (.agg #[.slice (some ⟨g, 0, none⟩) 1 d, .slice b 3 d2, .int .i64 2]) ∧ ScIn w' (some ⟨g, 0, none⟩) d b d2 S3.qs S3.ts ∧ Below w.heap.size w w' := by
  have h := three_c w
  rw [S3_eq] at h
  exact h
theorem readyS4 (g d : Nat) (b : Option Addr) (e p : Nat) (w : World) (hs : ScIn w (some ⟨g, 0, none⟩) d b e S4.qs S4.ts) (hp : p < w.heap.size) (h0 : w.cell? ⟨p, 0, none⟩ = some (.int .i64 0)) (h1 : w.cell? ⟨p, 1, none⟩ = some (.int .i64 1)) : Calls Try.prog 30 #[.agg #[.slice (some ⟨g, 0, none⟩) 1 d, .slice b 3 e, .int .i64 2], .int .i64 2, .slice (some ⟨p, 0, none⟩) 2 2] w fun y w' => y = .returned (.bool true) ∧ Below w.heap.size w w' := by
  refine ready_c (some ⟨g, 0, none⟩) d b e _ S4.ts 2 2 3 2 p 2 w hs rfl rfl (by decide) (by decide) hp ?_
  intro j x hj
  match j, hj with
  | 0, hj => have e : (0 : Int) = x := by simpa using hj
             rw [← e]; exact h0
  | 1, hj => have e : (1 : Int) = x := by simpa using hj
             rw [← e]; exact h1
  | j + 2, hj => simp at hj
theorem readyS9 (g d : Nat) (b : Option Addr) (e p : Nat) (w : World) (hs : ScIn w (some ⟨g, 0, none⟩) d b e S9.qs S9.ts) (hp : p < w.heap.size) (h0 : w.cell? ⟨p, 0, none⟩ = some (.int .i64 1)) : Calls Try.prog 30 #[.agg #[.slice (some ⟨g, 0, none⟩) 1 d, .slice b 3 e, .int .i64 2], .int .i64 0, .slice (some ⟨p, 0, none⟩) 1 1] w fun y w' => y = .returned (.bool true) ∧ Below w.heap.size w w' := by
  refine ready_c (some ⟨g, 0, none⟩) d b e _ S9.ts 2 0 3 1 p 1 w hs rfl rfl (by decide) (by decide) hp ?_
  intro j x hj
  match j, hj with
  | 0, hj => have e : (1 : Int) = x := by simpa using hj
             rw [← e]; exact h0
  | j + 1, hj => simp at hj
theorem readyS15 (g d : Nat) (b : Option Addr) (e p : Nat) (w : World) (hs : ScIn w (some ⟨g, 0, none⟩) d b e S15.qs S15.ts) (hp : p < w.heap.size) (h0 : w.cell? ⟨p, 0, none⟩ = some (.int .i64 1)) (h1 : w.cell? ⟨p, 1, none⟩ = some (.int .i64 0)) : Calls Try.prog 30 #[.agg #[.slice (some ⟨g, 0, none⟩) 1 d, .slice b 3 e, .int .i64 2], .int .i64 2, .slice (some ⟨p, 0, none⟩) 2 2] w fun y w' => y = .returned (.bool true) ∧ Below w.heap.size w w' := by
  refine ready_c (some ⟨g, 0, none⟩) d b e _ S15.ts 2 2 3 2 p 2 w hs rfl rfl (by decide) (by decide) hp ?_
  intro j x hj
  match j, hj with
  | 0, hj => have e : (1 : Int) = x := by simpa using hj
             rw [← e]; exact h0
  | 1, hj => have e : (0 : Int) = x := by simpa using hj
             rw [← e]; exact h1
  | j + 2, hj => simp at hj
set_option maxHeartbeats 8000000 in
set_option maxRecDepth 100000 in
theorem sane_c (w : World) : Calls Try.prog 11 #[] w fun y w' => y = .returned (.bool true) ∧ Below w.heap.size w w' := by
  have HthreeS3 := Lib.hid (@threeS3)
  have HdueS3 := Lib.hid (@dueS3)
  have HchkS15 := Lib.hid (@chkS15)
  have HreadyS4 := Lib.hid (@readyS4)
  have HreadyS9 := Lib.hid (@readyS9)
  have HreadyS15 := Lib.hid (@readyS15)
  have HgoS4 := Lib.hid (@goS4)
  have HgoS5 := Lib.hid (@goS5)
  have HgoS6 := Lib.hid (@goS6)
  have HgoS7 := Lib.hid (@goS7)
  have HgoS8 := Lib.hid (@goS8)
  have HgoS9 := Lib.hid (@goS9)
  have HgoS10 := Lib.hid (@goS10)
  have HgoS11 := Lib.hid (@goS11)
  have HgoS12 := Lib.hid (@goS12)
  have HgoS13 := Lib.hid (@goS13)
  have HgoS14 := Lib.hid (@goS14)
  have HgoS15 := Lib.hid (@goS15)
  go_enter Try.func11, Try.ntmps11
  go_wp2_with fail
  refine (HthreeS3.out _).mono ?_
  rintro y w1 ⟨g0, d0, b0, e0, rfl, hsc, hb⟩
  have HS := Lib.hid (hsc.below (w' := w1.alloc (.cells #[.slice (some ⟨g0, 0, none⟩) 1 d0, .slice b0 3 e0, .int .i64 2] 25)) (b_alloc (Below.refl _ _)))
  have HX := Lib.hid (heap_alloc_new w1 (.cells #[.slice (some ⟨g0, 0, none⟩) 1 d0, .slice b0 3 e0, .int .i64 2] 25))
  have HW := Lib.hid (Below.tail hb (b_alloc (o := .cells #[.slice (some ⟨g0, 0, none⟩) 1 d0, .slice b0 3 e0, .int .i64 2] 25) (Below.refl w1.heap.size w1)))
  have HZ := Lib.hid hb.size
  obtain ⟨r0, r1, r2, s0, s1, s2, rl⟩ := row3 HX.out
  clear hsc hb HthreeS3
  go_upto_region 2 with fail
  generalize w1.heap.size = x at *
  generalize (w1.alloc (.cells #[.slice (some ⟨g0, 0, none⟩) 1 d0, .slice b0 3 e0, .int .i64 2] 25)) = W0 at *
  go_wp2_with fail
  refine (HdueS3.out g0 d0 b0 e0 _ HS.out).mono ?_
  rintro y v0 ⟨rfl, hb⟩
  replace HS := Lib.hid (HS.out.below (hb.mono (Nat.le_refl _)))
  replace HW := Lib.hid (HW.out.trans (hb.mono (Nat.le_of_lt (Nat.lt_of_le_of_lt HZ.out rl))))
  replace HX := Lib.hid ((hb.block _ rl).trans HX.out)
  clear hb r0 r1 r2 s0 s1 s2 rl
  obtain ⟨r0, r1, r2, s0, s1, s2, rl⟩ := row3 HX.out
  go_wp2_with fail
  refine (HgoS4.out g0 d0 b0 e0 _ HS.out).mono ?_
  rintro y w4 ⟨g4, d4, b4, e4, hy, -, hb, how⟩
  have hy' : y = .returned (.tuple #[.agg #[.slice (some ⟨g4, 0, none⟩) 1 d4, .slice b4 3 e4, .int .i64 2], .int .i64 2, .int .i64 0]) := hy
  subst hy'
  clear hy
  obtain ⟨h5, hx, hw, hsc⟩ := put_x HX.out HZ.out HW.out hb how okS4 (.slice (some ⟨g4, 0, none⟩) 1 d4) (.slice b4 3 e4) (.int .i64 2)
  clear HS HX HW r0 r1 r2 s0 s1 s2 rl how hb HgoS4
  obtain ⟨r0, r1, r2, s0, s1, s2, rl⟩ := row3 h5
  have HS := Lib.hid hsc
  have HX := Lib.hid hx
  have HW := Lib.hid hw
  clear h5 hx hw hsc
  obtain ⟨t0, t1, t2, _, _, _, tl⟩ := row3 HX.out
  go_upto_region 4 with fail
  generalize (((w4.setCell ⟨x, 0, none⟩ (.slice (some ⟨g4, 0, none⟩) 1 d4)).setCell ⟨x, 1, none⟩ (.slice b4 3 e4)).setCell ⟨x, 2, none⟩ (.int .i64 2)) = W4 at *
  clear r0 r1 r2 s0 s1 s2 rl t0 t1 t2 tl
  obtain ⟨r0, r1, r2, s0, s1, s2, rl⟩ := row3 HX.out
  go_wp2_with fail
  have hb : Below W4.heap.size W4 (W4.alloc (.cells #[.int .i64 0, .int .i64 1] 3)) := b_alloc (Below.refl _ _)
  have HP := heap_alloc_new W4 (.cells #[.int .i64 0, .int .i64 1] 3)
  replace HS := Lib.hid (HS.out.below (hb.mono (Nat.le_refl _)))
  replace HW := Lib.hid (HW.out.trans (hb.mono (Nat.le_of_lt (Nat.lt_of_le_of_lt HZ.out rl))))
  replace HX := Lib.hid ((hb.block _ rl).trans HX.out)
  clear hb r0 r1 r2 s0 s1 s2 rl
  obtain ⟨r0, r1, r2, s0, s1, s2, rl⟩ := row3 HX.out
  obtain ⟨q0, q1, pl⟩ := row2 HP
  generalize hPP : W4.heap.size = PP at *
  generalize (W4.alloc (.cells #[.int .i64 0, .int .i64 1] 3)) = V4 at *
  refine (HreadyS4.out g4 d4 b4 e4 PP _ HS.out pl q0 q1).mono ?_
  rintro y u4 ⟨rfl, hb⟩
  replace HS := Lib.hid (HS.out.below (hb.mono (Nat.le_refl _)))
  replace HW := Lib.hid (HW.out.trans (hb.mono (Nat.le_of_lt (Nat.lt_of_le_of_lt HZ.out rl))))
  replace HX := Lib.hid ((hb.block _ rl).trans HX.out)
  clear hb r0 r1 r2 s0 s1 s2 rl
  obtain ⟨r0, r1, r2, s0, s1, s2, rl⟩ := row3 HX.out
  clear HP q0 q1 pl hPP HreadyS4
  go_wp2_with fail
  refine (HgoS5.out g4 d4 b4 e4 _ HS.out).mono ?_
  rintro y w5 ⟨g5, d5, b5, e5, hy, -, hb, how⟩
  have hy' : y = .returned (.tuple #[.agg #[.slice (some ⟨g5, 0, none⟩) 1 d5, .slice b5 3 e5, .int .i64 2], .bool false, .int .i64 0]) := hy
  subst hy'
  clear hy
  obtain ⟨h5, hx, hw, hsc⟩ := put_x HX.out HZ.out HW.out hb how okS5 (.slice (some ⟨g5, 0, none⟩) 1 d5) (.slice b5 3 e5) (.int .i64 2)
  clear HS HX HW r0 r1 r2 s0 s1 s2 rl how hb HgoS5
  obtain ⟨r0, r1, r2, s0, s1, s2, rl⟩ := row3 h5
  have HS := Lib.hid hsc
  have HX := Lib.hid hx
  have HW := Lib.hid hw
  clear h5 hx hw hsc
  obtain ⟨t0, t1, t2, _, _, _, tl⟩ := row3 HX.out
  go_upto_region 7 with fail
  generalize (((w5.setCell ⟨x, 0, none⟩ (.slice (some ⟨g5, 0, none⟩) 1 d5)).setCell ⟨x, 1, none⟩ (.slice b5 3 e5)).setCell ⟨x, 2, none⟩ (.int .i64 2)) = W5 at *
  clear r0 r1 r2 s0 s1 s2 rl t0 t1 t2 tl
  obtain ⟨r0, r1, r2, s0, s1, s2, rl⟩ := row3 HX.out
  go_wp2_with fail
  refine (HgoS6.out g5 d5 b5 e5 _ HS.out).mono ?_
  rintro y w6 ⟨g6, d6, b6, e6, hy, -, hb, how⟩
  have hy' : y = .returned (.tuple #[.agg #[.slice (some ⟨g6, 0, none⟩) 1 d6, .slice b6 3 e6, .int .i64 2], .bool false, .int .i64 0]) := hy
  subst hy'
  clear hy
  obtain ⟨h5, hx, hw, hsc⟩ := put_x HX.out HZ.out HW.out hb how okS6 (.slice (some ⟨g6, 0, none⟩) 1 d6) (.slice b6 3 e6) (.int .i64 2)
  clear HS HX HW r0 r1 r2 s0 s1 s2 rl how hb HgoS6
  obtain ⟨r0, r1, r2, s0, s1, s2, rl⟩ := row3 h5
  have HS := Lib.hid hsc
  have HX := Lib.hid hx
  have HW := Lib.hid hw
  clear h5 hx hw hsc
  obtain ⟨t0, t1, t2, _, _, _, tl⟩ := row3 HX.out
  go_upto_region 8 with fail
  generalize (((w6.setCell ⟨x, 0, none⟩ (.slice (some ⟨g6, 0, none⟩) 1 d6)).setCell ⟨x, 1, none⟩ (.slice b6 3 e6)).setCell ⟨x, 2, none⟩ (.int .i64 2)) = W6 at *
  clear r0 r1 r2 s0 s1 s2 rl t0 t1 t2 tl
  obtain ⟨r0, r1, r2, s0, s1, s2, rl⟩ := row3 HX.out
  go_wp2_with fail
  refine (HgoS7.out g6 d6 b6 e6 _ HS.out).mono ?_
  rintro y w7 ⟨g7, d7, b7, e7, hy, -, hb, how⟩
  have hy' : y = .returned (.tuple #[.agg #[.slice (some ⟨g7, 0, none⟩) 1 d7, .slice b7 3 e7, .int .i64 2], .int .i64 2, .int .i64 0]) := hy
  subst hy'
  clear hy
  obtain ⟨h5, hx, hw, hsc⟩ := put_x HX.out HZ.out HW.out hb how okS7 (.slice (some ⟨g7, 0, none⟩) 1 d7) (.slice b7 3 e7) (.int .i64 2)
  clear HS HX HW r0 r1 r2 s0 s1 s2 rl how hb HgoS7
  obtain ⟨r0, r1, r2, s0, s1, s2, rl⟩ := row3 h5
  have HS := Lib.hid hsc
  have HX := Lib.hid hx
  have HW := Lib.hid hw
  clear h5 hx hw hsc
  obtain ⟨t0, t1, t2, _, _, _, tl⟩ := row3 HX.out
  go_upto_region 9 with fail
  generalize (((w7.setCell ⟨x, 0, none⟩ (.slice (some ⟨g7, 0, none⟩) 1 d7)).setCell ⟨x, 1, none⟩ (.slice b7 3 e7)).setCell ⟨x, 2, none⟩ (.int .i64 2)) = W7 at *
  clear r0 r1 r2 s0 s1 s2 rl t0 t1 t2 tl
  obtain ⟨r0, r1, r2, s0, s1, s2, rl⟩ := row3 HX.out
  go_wp2_with fail
  refine (HgoS8.out g7 d7 b7 e7 _ HS.out).mono ?_
  rintro y w8 ⟨g8, d8, b8, e8, hy, -, hb, how⟩
  have hy' : y = .returned (.tuple #[.agg #[.slice (some ⟨g8, 0, none⟩) 1 d8, .slice b8 3 e8, .int .i64 2], .int .i64 0]) := hy
  subst hy'
  clear hy
  obtain ⟨h5, hx, hw, hsc⟩ := put_x HX.out HZ.out HW.out hb how okS8 (.slice (some ⟨g8, 0, none⟩) 1 d8) (.slice b8 3 e8) (.int .i64 2)
  clear HS HX HW r0 r1 r2 s0 s1 s2 rl how hb HgoS8
  obtain ⟨r0, r1, r2, s0, s1, s2, rl⟩ := row3 h5
  have HS := Lib.hid hsc
  have HX := Lib.hid hx
  have HW := Lib.hid hw
  clear h5 hx hw hsc
  obtain ⟨t0, t1, t2, _, _, _, tl⟩ := row3 HX.out
  go_upto_region 10 with fail
  generalize (((w8.setCell ⟨x, 0, none⟩ (.slice (some ⟨g8, 0, none⟩) 1 d8)).setCell ⟨x, 1, none⟩ (.slice b8 3 e8)).setCell ⟨x, 2, none⟩ (.int .i64 2)) = W8 at *
  clear r0 r1 r2 s0 s1 s2 rl t0 t1 t2 tl
  obtain ⟨r0, r1, r2, s0, s1, s2, rl⟩ := row3 HX.out
  go_wp2_with fail
  refine (HgoS9.out g8 d8 b8 e8 _ HS.out).mono ?_
  rintro y w9 ⟨g9, d9, b9, e9, hy, -, hb, how⟩
  have hy' : y = .returned (.tuple #[.agg #[.slice (some ⟨g9, 0, none⟩) 1 d9, .slice b9 3 e9, .int .i64 2], .int .i64 0, .int .i64 0]) := hy
  subst hy'
  clear hy
  obtain ⟨h5, hx, hw, hsc⟩ := put_x HX.out HZ.out HW.out hb how okS9 (.slice (some ⟨g9, 0, none⟩) 1 d9) (.slice b9 3 e9) (.int .i64 2)
  clear HS HX HW r0 r1 r2 s0 s1 s2 rl how hb HgoS9
  obtain ⟨r0, r1, r2, s0, s1, s2, rl⟩ := row3 h5
  have HS := Lib.hid hsc
  have HX := Lib.hid hx
  have HW := Lib.hid hw
  clear h5 hx hw hsc
  obtain ⟨t0, t1, t2, _, _, _, tl⟩ := row3 HX.out
  go_upto_region 11 with fail
  generalize (((w9.setCell ⟨x, 0, none⟩ (.slice (some ⟨g9, 0, none⟩) 1 d9)).setCell ⟨x, 1, none⟩ (.slice b9 3 e9)).setCell ⟨x, 2, none⟩ (.int .i64 2)) = W9 at *
  clear r0 r1 r2 s0 s1 s2 rl t0 t1 t2 tl
  obtain ⟨r0, r1, r2, s0, s1, s2, rl⟩ := row3 HX.out
  go_wp2_with fail
  have hb : Below W9.heap.size W9 (W9.alloc (.cells #[.int .i64 1] 3)) := b_alloc (Below.refl _ _)
  have HP := heap_alloc_new W9 (.cells #[.int .i64 1] 3)
  replace HS := Lib.hid (HS.out.below (hb.mono (Nat.le_refl _)))
  replace HW := Lib.hid (HW.out.trans (hb.mono (Nat.le_of_lt (Nat.lt_of_le_of_lt HZ.out rl))))
  replace HX := Lib.hid ((hb.block _ rl).trans HX.out)
  clear hb r0 r1 r2 s0 s1 s2 rl
  obtain ⟨r0, r1, r2, s0, s1, s2, rl⟩ := row3 HX.out
  obtain ⟨q0, _, pl⟩ := cell0 HP
  generalize hPP : W9.heap.size = PP at *
  generalize (W9.alloc (.cells #[.int .i64 1] 3)) = V9 at *
  refine (HreadyS9.out g9 d9 b9 e9 PP _ HS.out pl q0).mono ?_
  rintro y u9 ⟨rfl, hb⟩
  replace HS := Lib.hid (HS.out.below (hb.mono (Nat.le_refl _)))
  replace HW := Lib.hid (HW.out.trans (hb.mono (Nat.le_of_lt (Nat.lt_of_le_of_lt HZ.out rl))))
  replace HX := Lib.hid ((hb.block _ rl).trans HX.out)
  clear hb r0 r1 r2 s0 s1 s2 rl
  obtain ⟨r0, r1, r2, s0, s1, s2, rl⟩ := row3 HX.out
  clear HP q0 pl hPP HreadyS9
  go_wp2_with fail
  refine (HgoS10.out g9 d9 b9 e9 _ HS.out).mono ?_
  rintro y w10 ⟨g10, d10, b10, e10, hy, -, hb, how⟩
  have hy' : y = .returned (.tuple #[.agg #[.slice (some ⟨g10, 0, none⟩) 1 d10, .slice b10 3 e10, .int .i64 2], .bool false, .int .i64 0]) := hy
  subst hy'
  clear hy
  obtain ⟨h5, hx, hw, hsc⟩ := put_x HX.out HZ.out HW.out hb how okS10 (.slice (some ⟨g10, 0, none⟩) 1 d10) (.slice b10 3 e10) (.int .i64 2)
  clear HS HX HW r0 r1 r2 s0 s1 s2 rl how hb HgoS10
  obtain ⟨r0, r1, r2, s0, s1, s2, rl⟩ := row3 h5
  have HS := Lib.hid hsc
  have HX := Lib.hid hx
  have HW := Lib.hid hw
  clear h5 hx hw hsc
  obtain ⟨t0, t1, t2, _, _, _, tl⟩ := row3 HX.out
  go_upto_region 14 with fail
  generalize (((w10.setCell ⟨x, 0, none⟩ (.slice (some ⟨g10, 0, none⟩) 1 d10)).setCell ⟨x, 1, none⟩ (.slice b10 3 e10)).setCell ⟨x, 2, none⟩ (.int .i64 2)) = W10 at *
  clear r0 r1 r2 s0 s1 s2 rl t0 t1 t2 tl
  obtain ⟨r0, r1, r2, s0, s1, s2, rl⟩ := row3 HX.out
  go_wp2_with fail
  refine (HgoS11.out g10 d10 b10 e10 _ HS.out).mono ?_
  rintro y w11 ⟨g11, d11, b11, e11, hy, -, hb, how⟩
  have hy' : y = .returned (.tuple #[.agg #[.slice (some ⟨g11, 0, none⟩) 1 d11, .slice b11 3 e11, .int .i64 2], .bool true, .int .i64 0]) := hy
  subst hy'
  clear hy
  obtain ⟨h5, hx, hw, hsc⟩ := put_x HX.out HZ.out HW.out hb how okS11 (.slice (some ⟨g11, 0, none⟩) 1 d11) (.slice b11 3 e11) (.int .i64 2)
  clear HS HX HW r0 r1 r2 s0 s1 s2 rl how hb HgoS11
  obtain ⟨r0, r1, r2, s0, s1, s2, rl⟩ := row3 h5
  have HS := Lib.hid hsc
  have HX := Lib.hid hx
  have HW := Lib.hid hw
  clear h5 hx hw hsc
  obtain ⟨t0, t1, t2, _, _, _, tl⟩ := row3 HX.out
  go_upto_region 15 with fail
  generalize (((w11.setCell ⟨x, 0, none⟩ (.slice (some ⟨g11, 0, none⟩) 1 d11)).setCell ⟨x, 1, none⟩ (.slice b11 3 e11)).setCell ⟨x, 2, none⟩ (.int .i64 2)) = W11 at *
  clear r0 r1 r2 s0 s1 s2 rl t0 t1 t2 tl
  obtain ⟨r0, r1, r2, s0, s1, s2, rl⟩ := row3 HX.out
  go_wp2_with fail
  refine (HgoS12.out g11 d11 b11 e11 _ HS.out).mono ?_
  rintro y w12 ⟨g12, d12, b12, e12, hy, -, hb, how⟩
  have hy' : y = .returned (.tuple #[.agg #[.slice (some ⟨g12, 0, none⟩) 1 d12, .slice b12 3 e12, .int .i64 2], .int .i64 1, .int .i64 0]) := hy
  subst hy'
  clear hy
  obtain ⟨h5, hx, hw, hsc⟩ := put_x HX.out HZ.out HW.out hb how okS12 (.slice (some ⟨g12, 0, none⟩) 1 d12) (.slice b12 3 e12) (.int .i64 2)
  clear HS HX HW r0 r1 r2 s0 s1 s2 rl how hb HgoS12
  obtain ⟨r0, r1, r2, s0, s1, s2, rl⟩ := row3 h5
  have HS := Lib.hid hsc
  have HX := Lib.hid hx
  have HW := Lib.hid hw
  clear h5 hx hw hsc
  obtain ⟨t0, t1, t2, _, _, _, tl⟩ := row3 HX.out
  go_upto_region 16 with fail
  generalize (((w12.setCell ⟨x, 0, none⟩ (.slice (some ⟨g12, 0, none⟩) 1 d12)).setCell ⟨x, 1, none⟩ (.slice b12 3 e12)).setCell ⟨x, 2, none⟩ (.int .i64 2)) = W12 at *
  clear r0 r1 r2 s0 s1 s2 rl t0 t1 t2 tl
  obtain ⟨r0, r1, r2, s0, s1, s2, rl⟩ := row3 HX.out
  go_wp2_with fail
  refine (HgoS13.out g12 d12 b12 e12 _ HS.out).mono ?_
  rintro y w13 ⟨g13, d13, b13, e13, hy, -, hb, how⟩
  have hy' : y = .returned (.tuple #[.agg #[.slice (some ⟨g13, 0, none⟩) 1 d13, .slice b13 3 e13, .int .i64 2], .bool false, .int .i64 0]) := hy
  subst hy'
  clear hy
  obtain ⟨h5, hx, hw, hsc⟩ := put_x HX.out HZ.out HW.out hb how okS13 (.slice (some ⟨g13, 0, none⟩) 1 d13) (.slice b13 3 e13) (.int .i64 2)
  clear HS HX HW r0 r1 r2 s0 s1 s2 rl how hb HgoS13
  obtain ⟨r0, r1, r2, s0, s1, s2, rl⟩ := row3 h5
  have HS := Lib.hid hsc
  have HX := Lib.hid hx
  have HW := Lib.hid hw
  clear h5 hx hw hsc
  obtain ⟨t0, t1, t2, _, _, _, tl⟩ := row3 HX.out
  go_upto_region 17 with fail
  generalize (((w13.setCell ⟨x, 0, none⟩ (.slice (some ⟨g13, 0, none⟩) 1 d13)).setCell ⟨x, 1, none⟩ (.slice b13 3 e13)).setCell ⟨x, 2, none⟩ (.int .i64 2)) = W13 at *
  clear r0 r1 r2 s0 s1 s2 rl t0 t1 t2 tl
  obtain ⟨r0, r1, r2, s0, s1, s2, rl⟩ := row3 HX.out
  go_wp2_with fail
  refine (HgoS14.out g13 d13 b13 e13 _ HS.out).mono ?_
  rintro y w14 ⟨g14, d14, b14, e14, hy, -, hb, how⟩
  have hy' : y = .returned (.tuple #[.agg #[.slice (some ⟨g14, 0, none⟩) 1 d14, .slice b14 3 e14, .int .i64 2], .bool true, .int .i64 0]) := hy
  subst hy'
  clear hy
  obtain ⟨h5, hx, hw, hsc⟩ := put_x HX.out HZ.out HW.out hb how okS14 (.slice (some ⟨g14, 0, none⟩) 1 d14) (.slice b14 3 e14) (.int .i64 2)
  clear HS HX HW r0 r1 r2 s0 s1 s2 rl how hb HgoS14
  obtain ⟨r0, r1, r2, s0, s1, s2, rl⟩ := row3 h5
  have HS := Lib.hid hsc
  have HX := Lib.hid hx
  have HW := Lib.hid hw
  clear h5 hx hw hsc
  obtain ⟨t0, t1, t2, _, _, _, tl⟩ := row3 HX.out
  go_upto_region 18 with fail
  generalize (((w14.setCell ⟨x, 0, none⟩ (.slice (some ⟨g14, 0, none⟩) 1 d14)).setCell ⟨x, 1, none⟩ (.slice b14 3 e14)).setCell ⟨x, 2, none⟩ (.int .i64 2)) = W14 at *
  clear r0 r1 r2 s0 s1 s2 rl t0 t1 t2 tl
  obtain ⟨r0, r1, r2, s0, s1, s2, rl⟩ := row3 HX.out
  go_wp2_with fail
  refine (HgoS15.out g14 d14 b14 e14 _ HS.out).mono ?_
  rintro y w15 ⟨g15, d15, b15, e15, hy, -, hb, how⟩
  have hy' : y = .returned (.tuple #[.agg #[.slice (some ⟨g15, 0, none⟩) 1 d15, .slice b15 3 e15, .int .i64 2], .int .i64 2, .int .i64 0]) := hy
  subst hy'
  clear hy
  obtain ⟨h5, hx, hw, hsc⟩ := put_x HX.out HZ.out HW.out hb how okS15 (.slice (some ⟨g15, 0, none⟩) 1 d15) (.slice b15 3 e15) (.int .i64 2)
  clear HS HX HW r0 r1 r2 s0 s1 s2 rl how hb HgoS15
  obtain ⟨r0, r1, r2, s0, s1, s2, rl⟩ := row3 h5
  have HS := Lib.hid hsc
  have HX := Lib.hid hx
  have HW := Lib.hid hw
  clear h5 hx hw hsc
  obtain ⟨t0, t1, t2, _, _, _, tl⟩ := row3 HX.out
  go_upto_region 19 with fail
  generalize (((w15.setCell ⟨x, 0, none⟩ (.slice (some ⟨g15, 0, none⟩) 1 d15)).setCell ⟨x, 1, none⟩ (.slice b15 3 e15)).setCell ⟨x, 2, none⟩ (.int .i64 2)) = W15 at *
  clear r0 r1 r2 s0 s1 s2 rl t0 t1 t2 tl
  obtain ⟨r0, r1, r2, s0, s1, s2, rl⟩ := row3 HX.out
  go_wp2_with fail
  have hb : Below W15.heap.size W15 (W15.alloc (.cells #[.int .i64 1, .int .i64 0] 3)) := b_alloc (Below.refl _ _)
  have HP := heap_alloc_new W15 (.cells #[.int .i64 1, .int .i64 0] 3)
  replace HS := Lib.hid (HS.out.below (hb.mono (Nat.le_refl _)))
  replace HW := Lib.hid (HW.out.trans (hb.mono (Nat.le_of_lt (Nat.lt_of_le_of_lt HZ.out rl))))
  replace HX := Lib.hid ((hb.block _ rl).trans HX.out)
  clear hb r0 r1 r2 s0 s1 s2 rl
  obtain ⟨r0, r1, r2, s0, s1, s2, rl⟩ := row3 HX.out
  obtain ⟨q0, q1, pl⟩ := row2 HP
  generalize hPP : W15.heap.size = PP at *
  generalize (W15.alloc (.cells #[.int .i64 1, .int .i64 0] 3)) = V15 at *
  refine (HreadyS15.out g15 d15 b15 e15 PP _ HS.out pl q0 q1).mono ?_
  rintro y u15 ⟨rfl, hb⟩
  replace HS := Lib.hid (HS.out.below (hb.mono (Nat.le_refl _)))
  replace HW := Lib.hid (HW.out.trans (hb.mono (Nat.le_of_lt (Nat.lt_of_le_of_lt HZ.out rl))))
  replace HX := Lib.hid ((hb.block _ rl).trans HX.out)
  clear hb r0 r1 r2 s0 s1 s2 rl
  obtain ⟨r0, r1, r2, s0, s1, s2, rl⟩ := row3 HX.out
  clear HP q0 q1 pl hPP HreadyS15
  go_wp2_with fail
  refine (HchkS15.out g15 d15 b15 e15 _ HS.out).mono ?_
  rintro y v16 ⟨rfl, hb⟩
  have hBB := HW.out.trans (hb.mono (Nat.le_of_lt (Nat.lt_of_le_of_lt HZ.out rl)))
  clear HS HX HW HZ hb r0 r1 r2 s0 s1 s2 rl
  go_wp2
  go_ret
  exact ⟨rfl, hBB⟩
end Go.Proofs.Ytggikbcgijmhbaa
