/- WHAT IS PROVED: due on a valid state; the board's processor. CONDITIONS: the state lies in memory of one's own. -/
import Derived.Test.YtggikbcgijmhbaaO
set_option linter.unusedSimpArgs false
set_option linter.unusedVariables false
namespace Go.Proofs.Ytggikbcgijmhbaa
open Go Go.RowKit Go.QrBits Go.QrMem
attribute [local go_sem] reg_cell reg_frozen reg_setCell reg_lt reg_lt_add reg_drew reg_of_drew
theorem dueB_eq {qs : List Qu} {ts : List Th} {q : Int} {c : Nat} (h : Ok ⟨qs, ts, q⟩) (hc : c < qs.length) : dueB ts (quOf qs (c : Int)) = dueM ⟨qs, ts, q⟩ c := by
  unfold dueB dueM
  simp only []
  cases hq : (quOf qs (c : Int)).ready with
  | nil => rfl
  | cons r l =>
    simp only []
    split
    · rfl
    · rename_i hr
      obtain ⟨k, h1, _, _, _, t, h2, _⟩ := h.qr c _ (qu_some hc) hr
      obtain ⟨j, h3, _, t', h4, _⟩ := h.rd c _ (qu_some hc) r (by rw [hq]; simp)
      have h2 : ts[k]? = some t := h2
      have h4 : ts[j]? = some t' := h4
      rw [h1, h3]
      simp only [Int.toNat_natCast, h2, h4, thOf_of h2, thOf_of h4]
theorem due_c (a : Option Addr) (c : Nat) (a2 : Option Addr) (c2 : Nat) (qs : List Qu) (ts : List Th) (q : Int) (k : Nat) (w : World) (hs : ScIn w a c a2 c2 qs ts) (h : Ok ⟨qs, ts, q⟩) (hk : k < qs.length) :
    Calls Try.prog 41 #[.agg #[.slice a qs.length c, .slice a2 ts.length c2, .int .i64 q], .int .i64 k] w fun e w' => e = .returned (.bool (dueM ⟨qs, ts, q⟩ k)) ∧ Below w.heap.size w w' := by
  rw [← dueB_eq h hk]
  have hu := qu_some hk
  generalize hx : quOf qs (k : Int) = x at *
  by_cases h1 : x.ready = [] ∨ x.run = -1
  · exact due_idle a c a2 c2 qs ts q k x w hs hu h1
  · have h1a : x.ready ≠ [] := fun e => h1 (.inl e)
    have h1b : x.run ≠ -1 := fun e => h1 (.inr e)
    obtain ⟨m, g1, _, _, _, t, g2, _⟩ := h.qr k x hu h1b
    have hh := h.head hk (by show (quOf qs (k : Int)).ready ≠ []; rw [hx]; exact h1a)
    obtain ⟨r, l, g3, g4, _⟩ := hh
    have g3 : x.ready = (r : Int) :: l := by rw [← hx]; exact g3
    exact due_run a c a2 c2 qs ts q k x r m l _ t w hs hu g3 g1 (th_some g4) g2
section
variable {B b0 bc cc ct e : Nat} {at_ : Option Addr} {rs : List (Option Addr × Nat)} {s : St} {w : World}
/-- The cells of the board. -/
def bdC (b0 e : Nat) : List Value := [.pointer (some ⟨b0, 0, none⟩), .func (.func 88) #[] #[.pointer (some ⟨e + 2, 0, none⟩), .pointer (some ⟨e, 0, none⟩)], .func (.func 92) #[] #[.pointer (some ⟨e + 4, 0, none⟩), .pointer (some ⟨e, 0, none⟩)], .func (.func 94) #[] #[.pointer (some ⟨e + 4, 0, none⟩), .pointer (some ⟨e, 0, none⟩)],
  .func (.func 96) #[] #[.pointer (some ⟨e + 3, 0, none⟩), .pointer (some ⟨e + 2, 0, none⟩), .pointer (some ⟨e, 0, none⟩)], .func (.func 97) #[] #[.pointer (some ⟨e + 3, 0, none⟩), .pointer (some ⟨e, 0, none⟩), .pointer (some ⟨e + 5, 0, none⟩)]]
set_option maxHeartbeats 2000000 in
set_option maxRecDepth 100000 in
theorem processor_y (h : Own B b0 bc cc at_ ct rs s w) {c : Nat} (hc : c < s.qs.length) :
    Calls Try.prog 51 #[bdV b0 e, .int .i64 c] w fun y w' => y = .returned (.pointer (some ⟨bc, c * 3, none⟩)) ∧ Below w.heap.size w w' := by
  obtain ⟨p0, p1, p2, _, _, _, pl⟩ := row3 h.nxt
  have hn := (slV_own h.cp).max
  unfold maxLen at hn
  have hin : inB (c : Int) 0 ((s.qs.length : Int) - 1) = true := inB_in (by omega)
  have hW := fun w => within_y (c : Int) 0 ((s.qs.length : Int) - 1) w hin
  have hne : 0 < s.qs.length := by omega
  clear h hin
  generalize s.qs.length = n at *
  have c0 : (0 : Int) ≤ (c : Int) := Int.natCast_nonneg _
  have c1 : (c : Int) < (n : Int) := by omega
  have n1 : (1 : Int) ≤ (n : Int) := by omega
  have hw1 : IntKind.i64.wrap ((n : Int) - 1) = (n : Int) - 1 := by exact IntWalk.i64_in _ (by omega)
  have HW := Lib.hid hW
  clear hW
  unfold bdV
  go_enter Try.func51, Try.ntmps51
  go_wp2_with fail
  show Code.wp _ _ _ _ (w.alloc (.cells (bdC b0 e).toArray 77))
  have HK := (Kw.start w).box (vs := bdC b0 e) (t := 77)
  generalize w.alloc (.cells (bdC b0 e).toArray 77) = W at *
  have k_0 := HK.get 0 0 rfl rfl
  have k_1 := HK.get 0 1 rfl rfl
  have k_2 := HK.get 0 2 rfl rfl
  have k_3 := HK.get 0 3 rfl rfl
  have k_4 := HK.get 0 4 rfl rfl
  have k_5 := HK.get 0 5 rfl rfl
  have hxl := HK.lt 0 rfl
  have q0 := (HK.base.cell (p := ⟨b0, 0, none⟩) pl).trans p0
  have hbl : b0 < W.heap.size := by omega
  have HKK := Lib.hid HK
  have P0 := Lib.hid p0
  clear HK p0
  refine wp_quiet_tail 10 (by kernel_rfl) (by kernel_rfl) ?_
  simp only [List.take_succ_cons, List.take_zero, List.drop_succ_cons, List.drop_zero]
  repeat (quiet_step (fail))
  quiet_step ((go_at_call 31; exact reg_call ((HW.out _).mono (by rintro e w' ⟨h1, rfl⟩; exact ⟨h1, Below.refl _ _⟩))))
  refine wpQuiet_nil ?_
  intro _ hw'; obtain ⟨p, rfl⟩ := hw'
  have HKp := Lib.hid (HKK.out.reg (p := p))
  clear hw1 HKK k_0 k_1 k_2 k_3 k_4 k_5 q0 HW
  go_wp2_with fail
  refine (demand_y _ _ _).mono ?_
  rintro e w1 ⟨rfl, hb1⟩
  have HK1 := HKp.out.below hb1
  have k_0 := HK1.get 0 0 rfl rfl
  have q0 := (HK1.base.cell (p := ⟨b0, 0, none⟩) pl).trans P0.out
  have HB := Lib.hid HK1.base
  clear HKp hb1 HK1
  go_wp2
  go_ret
  exact ⟨by simp, HB.out⟩
end
end Go.Proofs.Ytggikbcgijmhbaa
