/- WHAT IS PROVED: New. CONDITIONS: one to four processors and a time slice of one to twenty; what it answers otherwise. -/
import Derived.Test.YtggikbcgijmhbaaX
import Derived.Test.YtggikbcgijmhbaaU
import Derived.Test.YtggikbcgijmhbaaY
set_option linter.unusedSimpArgs false
set_option linter.unusedVariables false
namespace Go.Proofs.Ytggikbcgijmhbaa
open Go Go.RowKit Go.QrBits Go.QrMem
attribute [local go_sem] reg_cell reg_frozen reg_setCell reg_lt reg_lt_add reg_drew reg_of_drew
def newQ (n : Nat) : List Qu := List.replicate n ⟨-1, 0, []⟩
def newU : List Value := [.int .i64 (-1), .int .i64 0, .slice none 0 0]
theorem new_in {w : World} {g n : Nat} {cur : List Value} (hn : n ≤ 4) (h : w.heap[g]? = some (.cells cur.toArray 47 (0, 0))) (hr : Reps newU n n cur) : ScIn w (some ⟨g, 0, none⟩) n none 0 (newQ n) [] := by
  refine ⟨⟨by simp [newQ], by unfold maxLen; omega, fun e => by cases e⟩, ⟨Nat.le_refl _, by unfold maxLen; simp, fun _ => ⟨rfl, rfl⟩⟩, .inr ⟨g, 0, rfl, (Array.getElem?_eq_some_iff.1 h).1, fun k x hx => ?_⟩, .inl rfl, fun k u hu => ?_⟩
  · have hk : k < n := by have := (List.getElem?_eq_some_iff.1 hx).1; simpa [newQ] using this
    obtain rfl : x = ⟨-1, 0, []⟩ := by
      simp only [newQ, List.getElem?_replicate, if_pos hk, Option.some.injEq] at hx
      exact hx.symm
    have hc : ∀ j v, j < 3 → newU[j]? = some v → w.cell? ⟨g, 0 + k * 3 + j, none⟩ = some v := fun j v hj hv => by
      refine (cell_of_row w g (0 + k * 3 + j) cur.toArray 47 (0, 0) h).trans ?_
      have e := hr.2 (0 + k * 3 + j) (by omega)
      rw [show (0 + k * 3 + j) % 3 = j by omega] at e
      simpa using e.trans hv
    exact ⟨hc 0 _ (by omega) rfl, hc 1 _ (by omega) rfl, none, 0, hc 2 _ (by omega) rfl, ⟨Nat.le_refl _, by unfold maxLen; simp, fun _ => ⟨rfl, rfl⟩⟩, .inl rfl⟩
  · have hk := (List.getElem?_eq_some_iff.1 hu).1
    simp only [newQ, List.length_replicate] at hk
    simp only [newQ, List.getElem?_replicate, if_pos hk, Option.some.injEq] at hu
    rw [← hu]; simp
set_option maxHeartbeats 4000000 in
set_option maxRecDepth 100000 in
theorem new_y (n : Nat) (q : Int) (w : World) (hn1 : 1 ≤ n) (hn4 : n ≤ 4) (hq : inB q 1 20 = true) :
    Calls Try.prog 12 #[.int .i64 n, .int .i64 q] w fun y w' => ∃ g, y = .returned (.tuple #[.agg #[.slice (some ⟨g, 0, none⟩) n n, .slice none 0 0, .int .i64 q], .int .i64 0]) ∧ ScIn w' (some ⟨g, 0, none⟩) n none 0 (newQ n) [] ∧ Below w.heap.size w w' := by
  have hin : inB (n : Int) 1 4 = true := inB_in (by omega)
  have HIn := Lib.hid hin
  have HQ := Lib.hid hq
  have hrep := fun (W : World) (g : Nat) (h : W.heap[g]? = some (.cells newU.toArray 47 (0, 0))) => repeat_c ⟨g, 0, none⟩ 1 n newU W rfl (by intro v hv; simp [newU] at hv; rcases hv with rfl | rfl | rfl <;> rfl) (fun j v hj => World.news_of_block h j v (by simpa using hj)) hn1 hn4 (Array.getElem?_eq_some_iff.1 h).1
  have HREP := Lib.hid hrep
  have HN4 := Lib.hid hn4
  have HK := (Kw.start w).box (vs := [.slice none 0 0, .slice none 0 0, .int .i64 0]) (t := 25)
  clear hin hq hrep hn1 hn4
  go_enter Try.func12, Try.ntmps12
  go_wp2_with fail
  refine (within_y _ _ _ _ HIn.out).mono ?_
  rintro y w2 ⟨rfl, rfl⟩
  go_wp2_with fail
  refine (within_y _ _ _ _ HQ.out).mono ?_
  rintro y w2 ⟨rfl, rfl⟩
  go_wp2_with fail
  have HK2 := HK.box (vs := newU) (t := 47)
  simp only [World.size_alloc] at HK2
  obtain ⟨W, hW⟩ : ∃ W, (w.alloc (.cells #[.slice none 0 0, .slice none 0 0, .int .i64 0] 25)).alloc (.cells newU.toArray 47) = W := ⟨_, rfl⟩
  have hWs : W.heap.size = w.heap.size + 2 := by rw [← hW]; simp
  have hrow := HK2.row 0 rfl
  change (((w.alloc (.cells #[.slice none 0 0, .slice none 0 0, .int .i64 0] 25)).alloc (.cells newU.toArray 47)).heap[w.heap.size + 1]? = _) at hrow
  change Kw _ w ((w.alloc (.cells #[.slice none 0 0, .slice none 0 0, .int .i64 0] 25)).alloc (.cells newU.toArray 47)) at HK2
  change Calls Try.prog 32 _ ((w.alloc (.cells #[.slice none 0 0, .slice none 0 0, .int .i64 0] 25)).alloc (.cells newU.toArray 47)) _
  rw [hW] at HK2 hrow ⊢
  clear hW
  refine (HREP.out _ _ hrow).mono ?_
  obtain ⟨g, hg⟩ : ∃ g, W.heap.size = g := ⟨_, rfl⟩
  rw [hg]
  rintro y w1 ⟨rfl, ⟨cur, hrow2, hreps⟩, hb⟩
  have h5 := (hb.block w.heap.size (by omega)).trans (HK2.row 1 rfl)
  have hgx : w.heap.size ≠ g := by omega
  have hb1 : Below w.heap.size w w1 := HK2.base.trans (hb.mono (by omega))
  obtain ⟨r0, r1, r2, s0, s1, s2, rl⟩ := row3 h5
  have f1 := heap_setCell_same w1 w.heap.size 0 _ 25 (.slice (some ⟨g, 0, none⟩) n n) h5
  have f2 := heap_setCell_same _ w.heap.size 1 _ 25 (.slice none 0 0) f1
  have f3 := heap_setCell_same _ w.heap.size 2 _ 25 (.int .i64 q) f2
  obtain ⟨u0, u1, u2, _⟩ := row3 (x := (.slice (some ⟨g, 0, none⟩) n n)) (y := (.slice none 0 0)) (z := (.int .i64 q)) (by simpa using f3)
  have HB3 := Lib.hid (((hb1.setCell (p := ⟨w.heap.size, 0, none⟩) (by show _ ≤ w.heap.size; omega) (.slice (some ⟨g, 0, none⟩) n n)).setCell (p := ⟨w.heap.size, 1, none⟩) (by show _ ≤ w.heap.size; omega) (.slice none 0 0)).setCell (p := ⟨w.heap.size, 2, none⟩) (by show _ ≤ w.heap.size; omega) (.int .i64 q))
  have HIN : Hid (ScIn (((w1.setCell ⟨w.heap.size, 0, none⟩ (.slice (some ⟨g, 0, none⟩) n n)).setCell ⟨w.heap.size, 1, none⟩ (.slice none 0 0)).setCell ⟨w.heap.size, 2, none⟩ (.int .i64 q)) (some ⟨g, 0, none⟩) n none 0 (newQ n) []) := Lib.hid (new_in HN4.out ((Below.heap_setCell _ _ _ _ hgx.symm).trans ((Below.heap_setCell _ _ _ _ hgx.symm).trans ((Below.heap_setCell _ _ _ _ hgx.symm).trans hrow2))) hreps)
  clear hrow hrow2 hreps hb h5 hb1 f1 f2 f3 HK HK2 hWs hg hgx HREP
  go_wp2
  exact bodyPost_ret (v := .tuple #[.agg #[.slice (some ⟨g, 0, none⟩) n n, .slice none 0 0, .int .i64 q], .int .i64 0]) (by simp [results, Try.results12, go_sem, u0, u1, u2]) rfl ⟨g, rfl, HIN.out, HB3.out⟩
end Go.Proofs.Ytggikbcgijmhbaa
