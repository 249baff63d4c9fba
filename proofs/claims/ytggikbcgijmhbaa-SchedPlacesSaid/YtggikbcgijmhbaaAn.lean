/- WHAT IS PROVED: the law's done, operation by operation. CONDITIONS: what the operation hands back. -/
import Derived.Test.YtggikbcgijmhbaaAg
import Derived.Test.YtggikbcgijmhbaaAd
set_option linter.unusedSimpArgs false
set_option linter.unusedVariables false
namespace Go.Proofs.Ytggikbcgijmhbaa
open Go Go.RowKit Go.QrBits Go.QrMem
attribute [local go_sem] reg_cell reg_frozen reg_setCell reg_lt reg_lt_add reg_drew reg_of_drew
def Rt2 (n m : Nat) (q : Int) (s : St) (w : World) (y : Ending) (w' : World) : Prop :=
  ∃ (g d : Nat) (b : Option Addr) (e : Nat), y = .returned (.tuple #[.agg #[.slice (some ⟨g, 0, none⟩) n d, .slice b m e, .int .i64 q], .int .i64 0]) ∧ Below w.heap.size w w' ∧ Owned w.heap.size s g d b e w'
/-- What done hands back. -/
def DnAt (n m : Nat) (q : Int) (s : St) (w : World) (y : Ending) (w' : World) : Prop :=
  ∃ (g d : Nat) (b : Option Addr) (e : Nat), y = .returned (.agg #[.slice (some ⟨g, 0, none⟩) n d, .slice b m e, .int .i64 q]) ∧ Below w.heap.size w w' ∧ Owned w.heap.size s g d b e w'
theorem Owned.mono {z z' : Nat} {s : St} {g d : Nat} {b : Option Addr} {e : Nat} {w : World} (h : Owned z s g d b e w) (hz : z' ≤ z) : Owned z' s g d b e w := by
  obtain ⟨B, b0, rs, hB, ho⟩ := h; exact ⟨B, b0, rs, Nat.le_trans hz hB, ho⟩
set_option maxHeartbeats 4000000 in
set_option maxRecDepth 100000 in
theorem done5_y (a : Option Addr) (n0 c : Nat) (a2 : Option Addr) (m0 c2 : Nat) (q0 : Int) (n m : Nat) (q : Int) (s : St) (r : Value) (N P : Int) (w : World) (hF : ∀ W, Below w.heap.size w W → Calls Try.prog 22 #[.agg #[.slice a n0 c, .slice a2 m0 c2, .int .i64 q0], .int .i64 N] W (RtAt n m q s r W)) :
    Calls Try.prog 21 #[.agg #[.slice a n0 c, .slice a2 m0 c2, .int .i64 q0], .agg #[.int .i64 5, .int .i64 N, .int .i64 P]] w (DnAt n m q s w) := by
  have HK := ((((Kw.start w).box (vs := [.slice a n0 c, .slice a2 m0 c2, .int .i64 q0]) (t := 25)).box (vs := [.int .i64 5, .int .i64 N, .int .i64 P]) (t := 42)).box (vs := [.slice none 0 0, .slice none 0 0, .int .i64 0]) (t := 25)).box (vs := [.slice a n0 c, .slice a2 m0 c2, .int .i64 q0]) (t := 25)
  simp only [World.size_alloc] at HK
  have HF := Lib.hid hF
  clear hF
  go_enter Try.func21, Try.ntmps21
  go_upto_region 3 with fail
  obtain ⟨W, hW⟩ : ∃ W, (((w.alloc (.cells #[.slice a n0 c, .slice a2 m0 c2, .int .i64 q0] 25)).alloc (.cells #[.int .i64 5, .int .i64 N, .int .i64 P] 42)).alloc (.cells #[.slice none 0 0, .slice none 0 0, .int .i64 0] 25)).alloc (.cells #[.slice a n0 c, .slice a2 m0 c2, .int .i64 q0] 25) = W := ⟨_, rfl⟩
  rw [hW] at HK ⊢
  clear hW
  have p_0 := HK.get 3 0 rfl rfl
  have p_1 := HK.get 3 1 rfl rfl
  have p_2 := HK.get 3 2 rfl rfl
  have q_0 := HK.get 2 0 rfl rfl
  have q_1 := HK.get 2 1 rfl rfl
  have q_2 := HK.get 2 2 rfl rfl
  have hz := HK.lt 0 rfl
  go_wp2_with fail
  refine (HF.out _ HK.base).mono ?_
  rintro y w1 ⟨g, d, b, e, rfl, hb, ho⟩
  have h5 := (HK.below hb).row 0 rfl
  have h4 := (HK.below hb).row 1 rfl
  have hB := (HK.below hb).base
  clear p_0 p_1 p_2 q_0 q_1 q_2
  obtain ⟨r0, r1, r2, s0, s1, s2, rl⟩ := row3 h5
  obtain ⟨t0, t1, t2, f0, f1, f2, tl⟩ := row3 h4
  have g5 := set3_row h5 (.slice (some ⟨g, 0, none⟩) n d) (.slice b m e) (.int .i64 q)
  have g4 := (set3_far (w := w1) (x := w.heap.size + 1 + 1 + 1) (y := w.heap.size + 1 + 1) (by omega) (.slice (some ⟨g, 0, none⟩) n d) (.slice b m e) (.int .i64 q)).trans h4
  have ho5 := ho.set3 (x := w.heap.size + 1 + 1 + 1) (by omega) (.slice (some ⟨g, 0, none⟩) n d) (.slice b m e) (.int .i64 q)
  have hB5 := set3_below hB (x := w.heap.size + 1 + 1 + 1) (by omega) (.slice (some ⟨g, 0, none⟩) n d) (.slice b m e) (.int .i64 q)
  clear h5 h4 HK HF hb ho hB t0 t1 t2 f0 f1 f2 tl
  go_upto_region 22 with fail
  generalize (((w1.setCell ⟨w.heap.size + 1 + 1 + 1, 0, none⟩ (.slice (some ⟨g, 0, none⟩) n d)).setCell ⟨w.heap.size + 1 + 1 + 1, 1, none⟩ (.slice b m e)).setCell ⟨w.heap.size + 1 + 1 + 1, 2, none⟩ (.int .i64 q)) = W5 at *
  clear r0 r1 r2 s0 s1 s2 rl
  obtain ⟨r0, r1, r2, s0, s1, s2, rl⟩ := row3 g5
  obtain ⟨t0, t1, t2, f0, f1, f2, tl⟩ := row3 g4
  have gU := set3_row g4 (.slice (some ⟨g, 0, none⟩) n d) (.slice b m e) (.int .i64 q)
  have hoU := Lib.hid ((ho5.set3 (x := w.heap.size + 1 + 1) (by omega) (.slice (some ⟨g, 0, none⟩) n d) (.slice b m e) (.int .i64 q)).mono (z' := w.heap.size) (by omega))
  have hBU := Lib.hid (set3_below hB5 (x := w.heap.size + 1 + 1) (by omega) (.slice (some ⟨g, 0, none⟩) n d) (.slice b m e) (.int .i64 q))
  obtain ⟨u0, u1, u2, _⟩ := row3 gU
  clear g5 g4 gU ho5 hB5
  go_wp2
  exact bodyPost_ret (v := .agg #[.slice (some ⟨g, 0, none⟩) n d, .slice b m e, .int .i64 q]) (by simp [results, Try.results21, go_sem, u0, u1, u2]) rfl ⟨g, d, b, e, rfl, hBU.out, hoU.out⟩
set_option maxHeartbeats 4000000 in
set_option maxRecDepth 100000 in
theorem done8_y (a : Option Addr) (n0 c : Nat) (a2 : Option Addr) (m0 c2 : Nat) (q0 : Int) (n m : Nat) (q : Int) (s : St) (r : Value) (N P : Int) (w : World) (hF : ∀ W, Below w.heap.size w W → Calls Try.prog 48 #[.agg #[.slice a n0 c, .slice a2 m0 c2, .int .i64 q0], .int .i64 N] W (RtAt n m q s r W)) :
    Calls Try.prog 21 #[.agg #[.slice a n0 c, .slice a2 m0 c2, .int .i64 q0], .agg #[.int .i64 8, .int .i64 N, .int .i64 P]] w (DnAt n m q s w) := by
  have HK := ((((Kw.start w).box (vs := [.slice a n0 c, .slice a2 m0 c2, .int .i64 q0]) (t := 25)).box (vs := [.int .i64 8, .int .i64 N, .int .i64 P]) (t := 42)).box (vs := [.slice none 0 0, .slice none 0 0, .int .i64 0]) (t := 25)).box (vs := [.slice a n0 c, .slice a2 m0 c2, .int .i64 q0]) (t := 25)
  simp only [World.size_alloc] at HK
  have HF := Lib.hid hF
  clear hF
  go_enter Try.func21, Try.ntmps21
  go_upto_region 3 with fail
  obtain ⟨W, hW⟩ : ∃ W, (((w.alloc (.cells #[.slice a n0 c, .slice a2 m0 c2, .int .i64 q0] 25)).alloc (.cells #[.int .i64 8, .int .i64 N, .int .i64 P] 42)).alloc (.cells #[.slice none 0 0, .slice none 0 0, .int .i64 0] 25)).alloc (.cells #[.slice a n0 c, .slice a2 m0 c2, .int .i64 q0] 25) = W := ⟨_, rfl⟩
  rw [hW] at HK ⊢
  clear hW
  have p_0 := HK.get 3 0 rfl rfl
  have p_1 := HK.get 3 1 rfl rfl
  have p_2 := HK.get 3 2 rfl rfl
  have q_0 := HK.get 2 0 rfl rfl
  have q_1 := HK.get 2 1 rfl rfl
  have q_2 := HK.get 2 2 rfl rfl
  have hz := HK.lt 0 rfl
  go_wp2_with fail
  refine (HF.out _ HK.base).mono ?_
  rintro y w1 ⟨g, d, b, e, rfl, hb, ho⟩
  have h5 := (HK.below hb).row 0 rfl
  have h4 := (HK.below hb).row 1 rfl
  have hB := (HK.below hb).base
  clear p_0 p_1 p_2 q_0 q_1 q_2
  obtain ⟨r0, r1, r2, s0, s1, s2, rl⟩ := row3 h5
  obtain ⟨t0, t1, t2, f0, f1, f2, tl⟩ := row3 h4
  have g5 := set3_row h5 (.slice (some ⟨g, 0, none⟩) n d) (.slice b m e) (.int .i64 q)
  have g4 := (set3_far (w := w1) (x := w.heap.size + 1 + 1 + 1) (y := w.heap.size + 1 + 1) (by omega) (.slice (some ⟨g, 0, none⟩) n d) (.slice b m e) (.int .i64 q)).trans h4
  have ho5 := ho.set3 (x := w.heap.size + 1 + 1 + 1) (by omega) (.slice (some ⟨g, 0, none⟩) n d) (.slice b m e) (.int .i64 q)
  have hB5 := set3_below hB (x := w.heap.size + 1 + 1 + 1) (by omega) (.slice (some ⟨g, 0, none⟩) n d) (.slice b m e) (.int .i64 q)
  clear h5 h4 HK HF hb ho hB t0 t1 t2 f0 f1 f2 tl
  go_upto_region 22 with fail
  generalize (((w1.setCell ⟨w.heap.size + 1 + 1 + 1, 0, none⟩ (.slice (some ⟨g, 0, none⟩) n d)).setCell ⟨w.heap.size + 1 + 1 + 1, 1, none⟩ (.slice b m e)).setCell ⟨w.heap.size + 1 + 1 + 1, 2, none⟩ (.int .i64 q)) = W5 at *
  clear r0 r1 r2 s0 s1 s2 rl
  obtain ⟨r0, r1, r2, s0, s1, s2, rl⟩ := row3 g5
  obtain ⟨t0, t1, t2, f0, f1, f2, tl⟩ := row3 g4
  have gU := set3_row g4 (.slice (some ⟨g, 0, none⟩) n d) (.slice b m e) (.int .i64 q)
  have hoU := Lib.hid ((ho5.set3 (x := w.heap.size + 1 + 1) (by omega) (.slice (some ⟨g, 0, none⟩) n d) (.slice b m e) (.int .i64 q)).mono (z' := w.heap.size) (by omega))
  have hBU := Lib.hid (set3_below hB5 (x := w.heap.size + 1 + 1) (by omega) (.slice (some ⟨g, 0, none⟩) n d) (.slice b m e) (.int .i64 q))
  obtain ⟨u0, u1, u2, _⟩ := row3 gU
  clear g5 g4 gU ho5 hB5
  go_wp2
  exact bodyPost_ret (v := .agg #[.slice (some ⟨g, 0, none⟩) n d, .slice b m e, .int .i64 q]) (by simp [results, Try.results21, go_sem, u0, u1, u2]) rfl ⟨g, d, b, e, rfl, hBU.out, hoU.out⟩
end Go.Proofs.Ytggikbcgijmhbaa
