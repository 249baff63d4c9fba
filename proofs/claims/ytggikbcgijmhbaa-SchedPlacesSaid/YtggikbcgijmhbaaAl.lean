/- WHAT IS PROVED: sched's threads, fullest (over slices.MaxFunc). CONDITIONS: the cells hold the lists; queues of at most 16. -/
import Derived.Test.YtggikbcgijmhbaaR
import Derived.Test.YtggikbcgijmhbaaPs
set_option linter.unusedSimpArgs false
set_option linter.unusedVariables false
namespace Go.Proofs.Ytggikbcgijmhbaa
open Go Go.RowKit Go.QrBits Go.QrMem
attribute [local go_sem] reg_cell reg_frozen reg_setCell reg_lt reg_lt_add reg_drew reg_of_drew
def quV (u : Qu) (ar : Option Addr) (cr : Nat) : Value := .agg #[.int .i64 u.run, .int .i64 u.left, .slice ar u.ready.length cr]
set_option maxHeartbeats 2000000 in
set_option maxRecDepth 100000 in
theorem threads_y (u : Qu) (ar : Option Addr) (cr : Nat) (w : World) (hl : u.ready.length ≤ 16) :
    Calls Try.prog 72 #[.agg #[.int .i64 u.run, .int .i64 u.left, .slice ar u.ready.length cr]] w fun e w' => e = .returned (.int .i64 (nThP u)) ∧ Below w.heap.size w w' := by
  have HK := (Kw.start w).box (vs := [.int .i64 u.run, .int .i64 u.left, .slice ar u.ready.length cr]) (t := 47)
  have hA := HK.base
  clear HK
  by_cases hr : u.run = -1
  · have e : nThP u = u.ready.length := by simp [nThP, hr]
    rw [e, hr]; rw [hr] at hA; clear e hr
    generalize u.ready.length = n at *
    generalize u.left = l at *
    go_enter Try.func72, Try.ntmps72
    go_wp2
    go_ret
    exact ⟨rfl, hA⟩
  · have e : nThP u = u.ready.length + 1 := by simp [nThP, hr]
    rw [e]; clear e
    have hr' : (u.run == -1) = false := by simpa using hr
    generalize u.ready.length = n at *
    generalize u.left = l at *
    generalize u.run = r at *
    have hw1 : IntKind.i64.wrap ((n : Int) + 1) = (n : Int) + 1 := IntWalk.i64_in _ (by omega)
    go_enter Try.func72, Try.ntmps72
    go_wp2
    go_ret
    exact ⟨rfl, hA⟩
theorem nTh_le {u : Qu} (h : u.ready.length ≤ 16) : 0 ≤ nThP u ∧ nThP u ≤ 17 := by unfold nThP; split <;> omega
set_option maxHeartbeats 2000000 in
set_option maxRecDepth 100000 in
theorem cmpq_y (u v : Qu) (ar : Option Addr) (cr : Nat) (ar' : Option Addr) (cr' : Nat) (w : World) (hl : u.ready.length ≤ 16) (hl' : v.ready.length ≤ 16) :
    Calls Try.prog 83 #[.agg #[.int .i64 u.run, .int .i64 u.left, .slice ar u.ready.length cr], .agg #[.int .i64 v.run, .int .i64 v.left, .slice ar' v.ready.length cr']] w fun e w' => e = .returned (.int .i64 (nThP u - nThP v)) ∧ Below w.heap.size w w' := by
  have HU := Lib.hid (fun w => threads_y u ar cr w hl)
  have HV := Lib.hid (fun w => threads_y v ar' cr' w hl')
  have hw1 : IntKind.i64.wrap (nThP u - nThP v) = nThP u - nThP v := IntWalk.i64_in _ (by have := nTh_le hl; have := nTh_le hl'; omega)
  have HK := ((Kw.start w).box (vs := [.int .i64 u.run, .int .i64 u.left, .slice ar u.ready.length cr]) (t := 47)).box (vs := [.int .i64 v.run, .int .i64 v.left, .slice ar' v.ready.length cr']) (t := 47)
  simp only [World.size_alloc] at HK
  generalize nThP u = nu at *
  generalize nThP v = nv at *
  generalize u.ready.length = n1 at *
  generalize v.ready.length = n2 at *
  generalize u.run = r1 at *
  generalize v.run = r2 at *
  generalize u.left = l1 at *
  generalize v.left = l2 at *
  go_enter Try.func83, Try.ntmps83
  go_wp2_with fail
  obtain ⟨W, hW⟩ : ∃ W, (w.alloc (.cells #[.int .i64 r1, .int .i64 l1, .slice ar n1 cr] 47)).alloc (.cells #[.int .i64 r2, .int .i64 l2, .slice ar' n2 cr'] 47) = W := ⟨_, rfl⟩
  rw [hW] at HK ⊢
  clear hW
  have p_0 := HK.get 1 0 rfl rfl
  have p_1 := HK.get 1 1 rfl rfl
  have p_2 := HK.get 1 2 rfl rfl
  have q_0 := HK.get 0 0 rfl rfl
  have q_1 := HK.get 0 1 rfl rfl
  have q_2 := HK.get 0 2 rfl rfl
  have z1 := HK.lt 1 rfl
  have z2 := HK.lt 0 rfl
  refine wp_quiet (by kernel_rfl) (by kernel_rfl) ?_
  repeat (quiet_step (fail))
  quiet_step ((go_at_call 72; exact reg_call ((HU.out _).mono (by rintro e w' ⟨h1, h2⟩; exact ⟨h1, h2⟩))))
  repeat (quiet_step (fail))
  quiet_step ((go_at_call 72; exact reg_call ((HV.out _).mono (by rintro e w' ⟨h1, h2⟩; exact ⟨h1, h2⟩))))
  repeat (quiet_step (fail))
  refine wpQuiet_nil ?_
  intro _ hw'; obtain ⟨p, rfl⟩ := hw'
  have hA := (HK.reg (p := p)).base
  clear HK p_0 p_1 p_2 q_0 q_1 q_2
  go_wp2
  go_ret
  exact ⟨by simp, hA⟩
theorem set3_row0 {w : World} {x : Nat} {u0 u1 u2 : Value} {t : TypeId} (h : w.heap[x]? = some (.cells #[u0, u1, u2] t (0, 0))) (a0 a1 a2 : Value) : (((w.setCell ⟨x, 0, none⟩ a0).setCell ⟨x, 1, none⟩ a1).setCell ⟨x, 2, none⟩ a2).heap[x]? = some (.cells #[a0, a1, a2] t (0, 0)) := by
  have f1 := heap_setCell_same w x 0 _ t a0 h
  have f2 := heap_setCell_same _ x 1 _ t a1 f1
  have f3 := heap_setCell_same _ x 2 _ t a2 f2
  simpa using f3
theorem set3_far0 {w : World} {x y : Nat} (hne : y ≠ x) (a0 a1 a2 : Value) : (((w.setCell ⟨x, 0, none⟩ a0).setCell ⟨x, 1, none⟩ a1).setCell ⟨x, 2, none⟩ a2).heap[y]? = w.heap[y]? :=
  (Below.heap_setCell _ _ _ _ hne).trans ((Below.heap_setCell _ _ _ _ hne).trans (Below.heap_setCell _ _ _ _ hne))
theorem set3_below0 {z x : Nat} {w0 w : World} (h : Below z w0 w) (hz : z ≤ x) (a0 a1 a2 : Value) : Below z w0 (((w.setCell ⟨x, 0, none⟩ a0).setCell ⟨x, 1, none⟩ a1).setCell ⟨x, 2, none⟩ a2) :=
  ((h.setCell (p := ⟨x, 0, none⟩) hz a0).setCell (p := ⟨x, 1, none⟩) hz a1).setCell (p := ⟨x, 2, none⟩) hz a2
/-- The first processor with the most threads. -/
def mxI (qs : List Qu) : Nat := mxP qs (qs.length - 1)
set_option maxHeartbeats 4000000 in
set_option maxRecDepth 100000 in
theorem max_y (a : Option Addr) (c : Nat) (qs : List Qu) (w0 w : World) (hb0 : Below w0.heap.size w0 w) (hs : QsAt w0 a qs) (hv : SlV a qs.length c) (hn : 1 ≤ qs.length) (hl : ∀ (k : Nat) (u : Qu), qs[k]? = some u → u.ready.length ≤ 16) :
    Calls Try.prog 82 #[.slice a qs.length c, .func (.func 83) #[] #[]] w fun e w' => ∃ (ar : Option Addr) (cr : Nat), e = .returned (quV (quOf qs ((mxI qs : Nat) : Int)) ar cr) ∧ SlV ar (quOf qs ((mxI qs : Nat) : Int)).ready.length cr ∧ SlAt w0 ar (iV (quOf qs ((mxI qs : Nat) : Int)).ready) ∧ (∀ b o : Nat, a = some ⟨b, o, none⟩ → w0.cell? ⟨b, o + mxI qs * 3 + 2, none⟩ = some (.slice ar (quOf qs ((mxI qs : Nat) : Int)).ready.length cr)) ∧ Below w.heap.size w w' := by
  have hm := hv.max
  unfold maxLen at hm
  have hmf : ∀ args w, (callFunc 83 args).run Try.prog w = .ok (.enter 83 args) w := enters_of Try.func83 (by kernel_rfl) rfl
  have HG : Hid (∀ k, k < qs.length → ∃ b o : Nat, a = some ⟨b, o, none⟩ ∧ b < w.heap.size ∧ ∃ (ar : Option Addr) (cr : Nat), SlV ar (quOf qs (k : Int)).ready.length cr ∧ SlAt w0 ar (iV (quOf qs (k : Int)).ready) ∧ w0.cell? ⟨b, o + k * 3 + 2, none⟩ = some (.slice ar (quOf qs (k : Int)).ready.length cr) ∧ ∀ W, Below w.heap.size w W →
      W.cell? ⟨b, o + k * 3, none⟩ = some (.int .i64 (quOf qs (k : Int)).run) ∧ W.cell? ⟨b, o + k * 3 + 1, none⟩ = some (.int .i64 (quOf qs (k : Int)).left) ∧ W.cell? ⟨b, o + k * 3 + 2, none⟩ = some (.slice ar (quOf qs (k : Int)).ready.length cr)) := by
    refine Lib.hid fun k hk => ?_
    have e1 := qu_some hk
    rcases hs with hs | ⟨b, o, ha, hb, hc⟩
    · rw [hs] at hk; simp at hk
    obtain ⟨g1, g2, ar, cr, g3, g4, g5⟩ := hc _ _ e1
    have hb2 : b < w.heap.size := Nat.lt_of_lt_of_le hb hb0.size
    exact ⟨b, o, ha, hb2, ar, cr, g4, g5, g3, fun W hW => ⟨(hW.cell (p := ⟨b, o + k * 3, none⟩) hb2).trans ((hb0.cell (p := ⟨b, o + k * 3, none⟩) hb).trans g1), (hW.cell (p := ⟨b, o + k * 3 + 1, none⟩) hb2).trans ((hb0.cell (p := ⟨b, o + k * 3 + 1, none⟩) hb).trans g2), (hW.cell (p := ⟨b, o + k * 3 + 2, none⟩) hb2).trans ((hb0.cell (p := ⟨b, o + k * 3 + 2, none⟩) hb).trans g3)⟩⟩
  have HLL := Lib.hid (fun k (hk : k < qs.length) => hl k _ (qu_some hk))
  obtain ⟨b, o, rfl, hb, ar0, cr0, v0, s0, y0, h0⟩ := HG.out 0 (by omega)
  clear hs hv hl hb0
  have n1 : (1 : Int) ≤ (qs.length : Int) := by omega
  have n2 : ¬ ((qs.length : Int) < 1) := by omega
  have n3 : (0 : Int) < (qs.length : Int) := by omega
  have HK := (Kw.start w).box (vs := [.int .i64 0, .int .i64 0, .slice none 0 0]) (t := 47)
  obtain ⟨c_0, c_1, c_2⟩ := h0 _ HK.base
  simp only [Nat.zero_mul, Nat.add_zero] at c_0 c_1 c_2
  have z0 : b < (w.alloc (.cells #[.int .i64 0, .int .i64 0, .slice none 0 0] 47)).heap.size := Nat.lt_of_lt_of_le hb HK.base.size
  replace HK := HK.box (vs := [.int .i64 (quOf qs ((0 : Nat) : Int)).run, .int .i64 (quOf qs ((0 : Nat) : Int)).left, .slice ar0 (quOf qs ((0 : Nat) : Int)).ready.length cr0]) (t := 47)
  simp only [World.size_alloc] at HK
  have h4 := HK.row 1 rfl
  have h5 := HK.row 0 rfl
  have hB := HK.base
  clear HK h0
  have HV0 := Lib.hid v0
  have HS0 := Lib.hid s0
  have HY0 := Lib.hid y0
  clear v0 s0 y0
  go_enter Try.func82, Try.ntmps82
  go_wp2_with fail
  go_loopw [6] (fun i wr => ∃ (k : Nat) (wv : World) (ar : Option Addr) (cr : Nat), wv = wr ∧ k < qs.length ∧ i = .int .i64 ((k + 1 : Nat) : Int) ∧ wv.heap[w.heap.size]? = some (.cells #[.int .i64 0, .int .i64 0, .slice none 0 0] 47 (0, 0)) ∧
      wv.heap[w.heap.size + 1]? = some (.cells #[.int .i64 (quOf qs ((mxP qs k : Nat) : Int)).run, .int .i64 (quOf qs ((mxP qs k : Nat) : Int)).left, .slice ar (quOf qs ((mxP qs k : Nat) : Int)).ready.length cr] 47 (0, 0)) ∧ Below w.heap.size w wv ∧ Hid (SlV ar (quOf qs ((mxP qs k : Nat) : Int)).ready.length cr ∧ SlAt w0 ar (iV (quOf qs ((mxP qs k : Nat) : Int)).ready) ∧ w0.cell? ⟨b, o + mxP qs k * 3 + 2, none⟩ = some (.slice ar (quOf qs ((mxP qs k : Nat) : Int)).ready.length cr))) (fun i _ => qs.length - (intOf i).toNat)
  case atStart => exact ⟨0, _, ar0, cr0, rfl, by omega, rfl, h4, h5, hB, Lib.hid ⟨HV0.out, HS0.out, HY0.out⟩⟩
  case round =>
    clear h4 h5 hB HV0 HS0 HY0 c_0 c_1 c_2
    obtain ⟨k, wv, ar, cr, hw, hk, rfl, h4, h5, hB, hH⟩ := hrel
    subst hw
    have HM := Lib.hid (mxP_le qs k)
    by_cases hlt : k + 1 < qs.length
    · obtain ⟨b', o', e', hb', ar2, cr2, v2, s2, y2, hc⟩ := HG.out (k + 1) hlt
      obtain ⟨rfl, rfl⟩ : b = b' ∧ o = o' := by simpa using e'
      obtain ⟨e_0, e_1, e_2⟩ := hc _ hB
      have hl1 := HLL.out (k + 1) hlt
      have hl2 := HLL.out (mxP qs k) (by have := HM.out; omega)
      have HCM := Lib.hid (fun w => cmpq_y (quOf qs ((k + 1 : Nat) : Int)) (quOf qs ((mxP qs k : Nat) : Int)) ar2 cr2 ar cr w hl1 hl2)
      have hmx : mxP qs (k + 1) = if nThP (quOf qs ((mxP qs k : Nat) : Int)) < nThP (quOf qs ((k + 1 : Nat) : Int)) then k + 1 else mxP qs k := rfl
      have HMX := Lib.hid hmx
      have HV2 := Lib.hid v2
      have HS2 := Lib.hid s2
      have HY2 := Lib.hid y2
      have H5 := Lib.hid h5
      obtain ⟨kk, hkk⟩ : ∃ kk : Nat, kk = k + 1 := ⟨_, rfl⟩
      rw [← hkk] at e_0 e_1 e_2 HCM hlt HMX HV2 HS2 HY2 ⊢
      have HKK := Lib.hid hkk
      clear hkk hc v2 s2 y2 hmx hl1 hl2 e'
      generalize hmk : mxP qs k = mk at *
      have k0 : (0 : Int) ≤ (kk : Int) := Int.natCast_nonneg _
      have k1 : (kk : Int) < (qs.length : Int) := by omega
      obtain ⟨m_0, m_1, m_2, f_0, f_1, f_2, ml⟩ := row3 h5
      have zb : b < wv.heap.size := Nat.lt_of_lt_of_le hb hB.size
      generalize hnm : nThP (quOf qs (mk : Int)) = nm at *
      generalize hnk : nThP (quOf qs (kk : Int)) = nk at *
      have HNM := Lib.hid hnm
      have HNK := Lib.hid hnk
      have HMK := Lib.hid hmk
      clear hnm hnk hmk h5
      go_wp2_with fail
      refine wp_quiet (by kernel_rfl) (by kernel_rfl) ?_
      repeat (quiet_step (fail))
      quiet_step ((go_at_call 83; exact reg_call ((HCM.out _).mono (by rintro e w' ⟨h1, h2⟩; exact ⟨h1, h2⟩))))
      repeat (quiet_step (fail))
      refine wpQuiet_nil ?_
      intro _ hw'; obtain ⟨p, rfl⟩ := hw'
      have hbp := below_reg wv p
      have hB2 := Below.tail hB hbp
      have h42 := (hbp.block _ (Array.getElem?_eq_some_iff.1 h4).1).trans h4
      have h52 := (hbp.block _ (Array.getElem?_eq_some_iff.1 H5.out).1).trans H5.out
      replace e_0 := (hbp.cell (p := ⟨b, o + kk * 3, none⟩) zb).trans e_0
      replace e_1 := (hbp.cell (p := ⟨b, o + kk * 3 + 1, none⟩) zb).trans e_1
      replace e_2 := (hbp.cell (p := ⟨b, o + kk * 3 + 2, none⟩) zb).trans e_2
      clear m_0 m_1 m_2 f_0 f_1 f_2 hbp h4 H5 HCM
      generalize reg wv p = W2 at *
      by_cases hgt : nm < nk
      · have hmx : mxP qs (k + 1) = kk := by rw [← HKK.out, HMX.out, if_pos hgt]
        have hgt2 : 0 < nk - nm := by omega
        obtain ⟨m_0, m_1, m_2, f_0, f_1, f_2, ml⟩ := row3 h52
        have hU := set3_row0 h52 (.int .i64 (quOf qs (kk : Int)).run) (.int .i64 (quOf qs (kk : Int)).left) (.slice ar2 (quOf qs (kk : Int)).ready.length cr2)
        have h4U := (set3_far0 (w := W2) (x := w.heap.size + 1) (y := w.heap.size) (by omega) (.int .i64 (quOf qs (kk : Int)).run) (.int .i64 (quOf qs (kk : Int)).left) (.slice ar2 (quOf qs (kk : Int)).ready.length cr2)).trans h42
        have hBU := set3_below0 hB2 (x := w.heap.size + 1) (by omega) (.int .i64 (quOf qs (kk : Int)).run) (.int .i64 (quOf qs (kk : Int)).left) (.slice ar2 (quOf qs (kk : Int)).ready.length cr2)
        have HU := Lib.hid hU
        have H4U := Lib.hid h4U
        have HBU := Lib.hid hBU
        have HMX2 := Lib.hid hmx
        clear h52 h42 hB2 hU h4U hBU hmx hB hgt
        go_wp2
        go_roundw
        case rel => exact ⟨k + 1, _, ar2, cr2, rfl, by have := HKK.out; omega, by have := HKK.out; go_num, H4U.out, by rw [HMX2.out]; exact HU.out, HBU.out, by rw [HMX2.out]; exact Lib.hid ⟨HV2.out, HS2.out, HY2.out⟩⟩
        case measure => have := HKK.out; simp [intOf]; omega
      · have hmx : mxP qs (k + 1) = mk := by rw [← HKK.out, HMX.out, if_neg hgt]
        have hgt2 : ¬ (0 < nk - nm) := by omega
        have H52 := Lib.hid h52
        have H42 := Lib.hid h42
        have HB2 := Lib.hid hB2
        have HMX2 := Lib.hid hmx
        clear h52 h42 hB2 hmx hB hgt
        go_wp2
        go_roundw
        case rel => exact ⟨k + 1, _, ar, cr, rfl, by have := HKK.out; omega, by have := HKK.out; go_num, H42.out, by rw [HMX2.out]; exact H52.out, HB2.out, by rw [HMX2.out]; exact hH⟩
        case measure => have := HKK.out; simp [intOf]; omega
    · obtain rfl : k = qs.length - 1 := by omega
      have hmx : mxP qs (qs.length - 1) = mxI qs := rfl
      rw [hmx] at h5 hH
      have hnk : ((qs.length - 1 + 1 : Nat) : Int) = (qs.length : Int) := by omega
      rw [hnk]
      clear hmx HM hk hlt hnk
      generalize huu : quOf qs ((mxI qs : Nat) : Int) = u at *
      have HUU := Lib.hid huu
      clear huu
      obtain ⟨m_0, m_1, m_2, _, _, _, ml⟩ := row3 h5
      obtain ⟨_, _, _, f_0, f_1, f_2, ml4⟩ := row3 h4
      have hU := set3_row0 h4 (.int .i64 u.run) (.int .i64 u.left) (.slice ar u.ready.length cr)
      have hBU := Lib.hid (set3_below0 hB (x := w.heap.size) (Nat.le_refl _) (.int .i64 u.run) (.int .i64 u.left) (.slice ar u.ready.length cr))
      obtain ⟨u0, u1, u2, _⟩ := row3 hU
      clear h4 h5 hB hU
      go_wp2
      exact bodyPost_ret (v := quV u ar cr) (by simp [results, Try.results82, go_sem, quV, u0, u1, u2]) rfl (by rw [HUU.out]; exact ⟨ar, cr, rfl, hH.out.1, hH.out.2.1, fun b' o' e' => by
        obtain ⟨rfl, rfl⟩ : b = b' ∧ o = o' := by simpa using e'
        exact hH.out.2.2, hBU.out⟩)
set_option maxHeartbeats 2000000 in
set_option maxRecDepth 100000 in
theorem full_y (a : Option Addr) (c : Nat) (a2 : Option Addr) (c2 : Nat) (qs : List Qu) (ts : List Th) (q : Int) (w : World) (hs : ScIn w a c a2 c2 qs ts) (hn : 1 ≤ qs.length) (hl : ∀ (k : Nat) (u : Qu), qs[k]? = some u → u.ready.length ≤ 16) :
    Calls Try.prog 71 #[.agg #[.slice a qs.length c, .slice a2 ts.length c2, .int .i64 q]] w fun e w' => ∃ (ar : Option Addr) (cr : Nat), e = .returned (quV (quOf qs ((mxI qs : Nat) : Int)) ar cr) ∧ SlV ar (quOf qs ((mxI qs : Nat) : Int)).ready.length cr ∧ SlAt w ar (iV (quOf qs ((mxI qs : Nat) : Int)).ready) ∧ (∀ b o : Nat, a = some ⟨b, o, none⟩ → w.cell? ⟨b, o + mxI qs * 3 + 2, none⟩ = some (.slice ar (quOf qs ((mxI qs : Nat) : Int)).ready.length cr)) ∧ Below w.heap.size w w' := by
  have HK := ((Kw.start w).box (vs := [.slice a qs.length c, .slice a2 ts.length c2, .int .i64 q]) (t := 25)).box (vs := [.int .i64 0, .int .i64 0, .slice none 0 0]) (t := 47)
  simp only [World.size_alloc] at HK
  have HQ : Hid (∀ (k : Nat), k < qs.length → ∃ b o : Nat, a = some ⟨b, o, none⟩ ∧ b < w.heap.size ∧ ∃ (ar : Option Addr) (cr : Nat), SlV ar (quOf qs (k : Int)).ready.length cr ∧ SlAt w ar (iV (quOf qs (k : Int)).ready) ∧ True) := Lib.hid fun k hk => by
    obtain ⟨b, o, h1, h2, _, _, ar, cr, _, h3, h4⟩ := hs.qu (qu_some hk)
    exact ⟨b, o, h1, h2, ar, cr, h3, h4, trivial⟩
  have HM := Lib.hid (fun W (hb : Below w.heap.size w W) => max_y a c qs w W hb hs.s1 hs.v1 hn hl)
  clear hs hl HQ
  go_enter Try.func71, Try.ntmps71
  go_wp2_with fail
  refine (HM.out _ HK.base).mono ?_
  rintro y w1 ⟨ar, cr, rfl, hv, hsl, hcl, hb⟩
  have h5 := (HK.below hb).row 0 rfl
  have hB := (HK.below hb).base
  generalize huu : quOf qs ((mxI qs : Nat) : Int) = u at *
  have HUU := Lib.hid huu
  clear huu
  obtain ⟨m_0, m_1, m_2, f_0, f_1, f_2, ml⟩ := row3 h5
  have hU := set3_row0 h5 (.int .i64 u.run) (.int .i64 u.left) (.slice ar u.ready.length cr)
  have hBU := Lib.hid (set3_below0 hB (x := w.heap.size + 1) (by omega) (.int .i64 u.run) (.int .i64 u.left) (.slice ar u.ready.length cr))
  obtain ⟨u0, u1, u2, _⟩ := row3 hU
  have HV := Lib.hid hv
  have HSL := Lib.hid hsl
  have HCL := Lib.hid hcl
  clear h5 hB hU HK hb hv hsl hcl HM
  unfold quV
  go_wp2
  exact bodyPost_ret (v := .agg #[.int .i64 u.run, .int .i64 u.left, .slice ar u.ready.length cr]) (by simp [results, Try.results71, go_sem, u0, u1, u2]) rfl (by rw [HUU.out]; exact ⟨ar, cr, rfl, HV.out, HSL.out, HCL.out, hBU.out⟩)
end Go.Proofs.Ytggikbcgijmhbaa
