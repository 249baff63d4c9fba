/- WHAT IS PROVED: sched.Switch and sched.Tick on valid states. CONDITIONS: a valid state, a processor of it. -/
import Derived.Test.YtggikbcgijmhbaaQ
set_option linter.unusedSimpArgs false
set_option linter.unusedVariables false
namespace Go.Proofs.Ytggikbcgijmhbaa
open Go Go.RowKit Go.QrBits Go.QrMem
attribute [local go_sem] reg_cell reg_frozen reg_setCell reg_lt reg_lt_add reg_drew reg_of_drew
section
variable {B b0 bc cc ct e : Nat} {at_ : Option Addr} {rs : List (Option Addr × Nat)} {s : St} {w : World}
theorem Fr.op {bc x b0 : Nat} {at_ : Option Addr} {w w' : World} (h : Fr bc at_ w w') : OpFr x b0 bc at_ w w' := ⟨h.os, h.tape, h.output, h.size, fun k hk _ _ h1 h2 => h.blk k hk h1 h2⟩
theorem OpFr.trans {bc x b0 : Nat} {at_ : Option Addr} {a b c : World} (h : OpFr x b0 bc at_ a b) (k : OpFr x b0 bc at_ b c) : OpFr x b0 bc at_ a c :=
  ⟨k.os.trans h.os, k.tape.trans h.tape, k.output.trans h.output, Nat.le_trans h.size k.size, fun i hi h0 h1 h2 h3 => (k.blk i (Nat.lt_of_lt_of_le hi h.size) h0 h1 h2 h3).trans (h.blk i hi h0 h1 h2 h3)⟩
theorem OpFr.setX {bc x b0 : Nat} {at_ : Option Addr} {w w' : World} (h : OpFr x b0 bc at_ w w') (u : Value) : OpFr x b0 bc at_ w (w'.setCell ⟨x, 0, none⟩ u) :=
  h.trans ⟨rfl, rfl, rfl, by simp [World.setCell], fun k hk h0 _ _ _ => Below.heap_setCell _ _ _ _ h0⟩
/-- A store into a variable of the caller's leaves the state. -/
theorem Own.setXj {x : Nat} (h : Own B b0 bc cc at_ ct rs s w) (hx : x < B) (j : Nat) (u : Value) : Own B b0 bc cc at_ ct rs s (w.setCell ⟨x, j, none⟩ u) := by
  obtain ⟨c1, h1, hb1⟩ := h.bcRow
  have hb0 := h.b0B
  have hne : ∀ k, x ≠ k → (w.setCell ⟨x, j, none⟩ u).heap[k]? = w.heap[k]? := fun k hk => Below.heap_setCell _ _ _ _ (fun e => hk e.symm)
  refine ⟨(hne b0 (by omega)).trans h.nxt, h.b0B, ownsRow_set_ne h.cp (by simp [Value.ownBlock]; omega), ownsRow_set_ne h.th (fun e => ?_), h.rl, fun k v r h2 h3 => ?_⟩
  · cases ha : at_ with
    | none => rw [ha] at e; simp [Value.ownBlock] at e
    | some a => rw [ha] at e; simp only [Value.ownBlock, Option.some.injEq] at e; obtain ⟨_, _, _, hB⟩ := h.btRow a ha; omega
  · obtain ⟨⟨g1, g2⟩, g3⟩ := h.rd k v r h2 h3
    refine ⟨⟨g1, g2⟩, ?_⟩
    rcases g3 with g3 | ⟨b, off, cur, g4, g5, g6⟩
    · exact .inl g3
    · by_cases hv : v.ready = []
      · exact .inl hv
      · have hB := g2 _ g4 hv
        have hB : B ≤ b := hB
        have hxb : x ≠ b := by omega
        exact .inr ⟨b, off, cur, g4, (hne b hxb).trans g5, fun i y hy => (World.cell?_of_block (w := w) (a := ⟨b, off + i, none⟩) (hne b hxb)).trans (g6 i y hy)⟩
theorem Own.setX {x : Nat} (h : Own B b0 bc cc at_ ct rs s w) (hx : x < B) (u : Value) : Own B b0 bc cc at_ ct rs s (w.setCell ⟨x, 0, none⟩ u) := h.setXj hx 0 u
/-- The variable x holds this number. -/
def IsI (x : Nat) (v : Int) (w : World) : Prop := w.heap[x]? = some (.cells #[.int .i64 v] 3 (0, 0))
def IsB (x : Nat) (v : Bool) (w : World) : Prop := w.heap[x]? = some (.cells #[.bool v] 4 (0, 0))
theorem stable_I (x : Nat) (v : Int) {w : World} (hx : x < w.heap.size) : Stable w (IsI x v) := fun W W' h hR => (h x hx).trans hR
theorem stable_B (x : Nat) (v : Bool) {w : World} (hx : x < w.heap.size) : Stable w (IsB x v) := fun W W' h hR => (h x hx).trans hR
set_option maxHeartbeats 4000000 in
set_option maxRecDepth 100000 in
theorem tick1_c (he : Env b0 e w) (h : Own B b0 bc cc at_ ct rs s w) (hok : Ok s) {c : Nat} (hc : c < s.qs.length) {xc xr : Nat} (hxB : xr < B) (hxc : IsI xc c w) (o : Bool) (hxr : IsB xr o w) :
    Calls Try.prog 53 #[bdV b0 e, .pointer (some ⟨xc, 0, none⟩), .pointer (some ⟨xr, 0, none⟩)] w (OpRes B xr b0 bc at_ (tickM s c) (IsB xr (dueM (tickM s c) c)) w) := by
  have hok2 := tick_ok hok hc
  obtain ⟨hlf1, hlf2, hlf3⟩ := hok.left hc
  have hq2 := hok.q2
  obtain ⟨x0, _, xl⟩ := cell0 hxc
  have xrl : xr < w.heap.size := (Array.getElem?_eq_some_iff.1 hxr).1
  have HXC := Lib.hid hxc
  have HXR := Lib.hid hxr
  have HE := Lib.hid he
  have HO := Lib.hid h
  have HOK2 := Lib.hid hok2
  have HU := Lib.hid (qu_some hc)
  clear hxc hxr he h hok hok2 hlf3
  unfold bdV
  have HK := (Kw.start w).box (vs := bdC b0 e) (t := 77)
  go_enter Try.func53, Try.ntmps53
  go_wp2_with fail
  show Calls Try.prog 51 #[bdV b0 e, .int .i64 c] (w.alloc (.cells (bdC b0 e).toArray 77)) _
  generalize w.alloc (.cells (bdC b0 e).toArray 77) = W at *
  have HKK := Lib.hid HK
  clear HK
  refine (processor_y (e := e) (HO.out.below HKK.out.base) hc).mono ?_
  rintro y w1 ⟨rfl, hb1⟩
  have HK1 := Lib.hid (HKK.out.below hb1)
  clear HKK hb1 x0
  have O1 := HO.out.below HK1.out.base
  obtain ⟨_, _, _, c1, _, _, f1, _⟩ := O1.cells HU.out
  have O2 := Lib.hid (O1.setLeft HU.out (max ((quOf s.qs (c : Int)).left - 1) 0))
  have E2 := Lib.hid ((HE.out.below HK1.out.base).fr O1 ((Fr.refl bc at_ w1).setC (c * 3 + 1) (.int .i64 (max ((quOf s.qs (c : Int)).left - 1) 0))))
  have F2 : Hid (OpFr xr b0 bc at_ w (w1.setCell ⟨bc, c * 3 + 1, none⟩ (.int .i64 (max ((quOf s.qs (c : Int)).left - 1) 0)))) := Lib.hid ((Fr.of_below HK1.out.base).setC _ _).op
  have BX := Lib.hid (O1.kept ((Fr.refl bc at_ w1).setC (c * 3 + 1) (.int .i64 (max ((quOf s.qs (c : Int)).left - 1) 0))) (HK1.out.row 0 rfl) (by decide))
  have XC := Lib.hid (O1.kept ((Fr.refl bc at_ w1).setC (c * 3 + 1) (.int .i64 (max ((quOf s.qs (c : Int)).left - 1) 0))) ((HK1.out.base.block _ xl).trans HXC.out) (by decide))
  have XR := Lib.hid (O1.kept ((Fr.refl bc at_ w1).setC (c * 3 + 1) (.int .i64 (max ((quOf s.qs (c : Int)).left - 1) 0))) ((HK1.out.base.block _ xrl).trans HXR.out) (by decide))
  have HT : Hid (tickM s c = { s with qs := s.qs.set c { (quOf s.qs (c : Int)) with left := max ((quOf s.qs (c : Int)).left - 1) 0 } }) := Lib.hid rfl
  have hlf : (quOf s.qs (c : Int)).left ≤ 20 := by omega
  clear O1
  generalize (quOf s.qs (c : Int)).left = lf at *
  go_wp2_with fail
  generalize (w1.setCell ⟨bc, c * 3 + 1, none⟩ (.int .i64 (max (lf - 1) 0))) = w2 at *
  have O3 : Own B b0 bc cc at_ ct rs (tickM s c) w2 := by rw [HT.out]; exact O2.out
  obtain ⟨k_0, k_1, k_2, k_3, k_4, k_5, hxl⟩ := board_cells BX.out
  obtain ⟨n0, n1, n2, _, _, _, nl⟩ := row3 O3.nxt
  obtain ⟨y0, _, yl⟩ := cell0 XC.out
  have hcl : c < (tickM s c).qs.length := by show c < (s.qs.set c _).length; simpa using hc
  have HD : Hid (∀ W, Below w2.heap.size w2 W → Calls Try.prog 41 #[.agg #[.slice (some ⟨bc, 0, none⟩) (tickM s c).qs.length cc, .slice at_ (tickM s c).ts.length ct, .int .i64 (tickM s c).q], .int .i64 c] W fun y w' => y = .returned (.bool (dueM (tickM s c) c)) ∧ Below W.heap.size W w') :=
    Lib.hid fun W hW => due_c _ _ _ _ _ _ _ c W ((O3.below hW).scIn (short_of_ok HOK2.out)) HOK2.out hcl
  have HO3 := Lib.hid O3
  clear O3 O2 HT c1 f1
  generalize tickM s c = s2 at *
  refine wp_quiet_tail 5 (by kernel_rfl) (by kernel_rfl) ?_
  simp only [List.take_succ_cons, List.take_zero, List.drop_succ_cons, List.drop_zero]
  repeat (quiet_step (fail))
  refine wpQuiet_nil ?_
  intro _ hw'; obtain ⟨p, rfl⟩ := hw'
  have hbp := below_reg w2 p
  clear k_0 k_1 k_2 k_3 k_4 k_5 n0 n1 n2 y0
  go_wp2_with fail
  refine (HD.out _ hbp).mono ?_
  rintro y w3 ⟨rfl, hb3⟩
  have hB3 := Below.tail hbp hb3
  have XR3 := (hB3.block _ (Array.getElem?_eq_some_iff.1 XR.out).1).trans XR.out
  obtain ⟨z0, z1, _⟩ := cell0 XR3
  have O4 := Lib.hid ((HO3.out.below hB3).setX hxB (.bool (dueM s2 c)))
  have F4 := Lib.hid ((F2.out.trans (Fr.of_below hB3).op).setX (.bool (dueM s2 c)))
  have hI : IsB xr (dueM s2 c) (w3.setCell ⟨xr, 0, none⟩ (.bool (dueM s2 c))) := by
    have := heap_setCell_same w3 xr 0 _ 4 (.bool (dueM s2 c)) XR3
    simpa [IsB] using this
  have HI := Lib.hid hI
  clear hb3 hB3 XR3 hbp hI
  go_wp2
  refine bodyPost_end (results_none rfl _ _ _) rfl ?_
  exact ⟨rfl, ⟨bc, cc, at_, ct, rs, O4.out⟩, F4.out, HI.out⟩
set_option maxHeartbeats 4000000 in
set_option maxRecDepth 100000 in
theorem switch1_c (he : Env b0 e w) (h : Own B b0 bc cc at_ ct rs s w) (hok : Ok s) {c : Nat} (hc : c < s.qs.length) {xc xr : Nat} (hxB : xr < B) (hxc : IsI xc c w) (o : Int) (hxr : IsI xr o w) :
    Calls Try.prog 50 #[bdV b0 e, .pointer (some ⟨xc, 0, none⟩), .pointer (some ⟨xr, 0, none⟩)] w (OpRes B xr b0 bc at_ (switchM s c) (IsI xr (quOf (switchM s c).qs (c : Int)).run) w) := by
  obtain ⟨x0, _, xl⟩ := cell0 hxc
  have xrl : xr < w.heap.size := (Array.getElem?_eq_some_iff.1 hxr).1
  have HXC := Lib.hid hxc
  have HXR := Lib.hid hxr
  have HE := Lib.hid he
  have HO := Lib.hid h
  have HOK := Lib.hid hok
  have HU := Lib.hid (qu_some hc)
  clear hxc hxr he h hok
  unfold bdV
  have HK := (Kw.start w).box (vs := bdC b0 e) (t := 77)
  go_enter Try.func50, Try.ntmps50
  go_wp2_with fail
  show Calls Try.prog 51 #[bdV b0 e, .int .i64 c] (w.alloc (.cells (bdC b0 e).toArray 77)) _
  generalize w.alloc (.cells (bdC b0 e).toArray 77) = W at *
  have HKK := Lib.hid HK
  clear HK
  refine (processor_y (e := e) (HO.out.below HKK.out.base) hc).mono ?_
  rintro y w1 ⟨rfl, hb1⟩
  have HK1 := Lib.hid (HKK.out.below hb1)
  clear HKK hb1 x0
  have O1 := HO.out.below HK1.out.base
  obtain ⟨k_0, k_1, k_2, k_3, k_4, k_5, hxl⟩ := board_cells (HK1.out.row 0 rfl)
  obtain ⟨n0, n1, n2, _, _, _, nl⟩ := row3 O1.nxt
  obtain ⟨y0, _, yl⟩ := cell0 ((HK1.out.base.block _ xl).trans HXC.out)
  have HD : Hid (∀ W', Below w1.heap.size w1 W' → Calls Try.prog 41 #[.agg #[.slice (some ⟨bc, 0, none⟩) s.qs.length cc, .slice at_ s.ts.length ct, .int .i64 s.q], .int .i64 c] W' fun y w' => y = .returned (.bool (dueM s c)) ∧ Below W'.heap.size W' w') :=
    Lib.hid fun W' hW => due_c _ _ _ _ s.qs s.ts s.q c W' ((O1.below hW).scIn (short_of_ok HOK.out)) HOK.out hc
  clear O1
  go_wp2_with fail
  refine wp_quiet_tail 5 (by kernel_rfl) (by kernel_rfl) ?_
  simp only [List.take_succ_cons, List.take_zero, List.drop_succ_cons, List.drop_zero]
  repeat (quiet_step (fail))
  refine wpQuiet_nil ?_
  intro _ hw'; obtain ⟨p, rfl⟩ := hw'
  have hbp := below_reg w1 p
  clear k_0 k_1 k_2 k_3 k_4 k_5 n0 n1 n2 y0
  go_wp2_with fail
  refine (HD.out _ hbp).mono ?_
  rintro y w3 ⟨rfl, hb3⟩
  have HK3 := Lib.hid (HK1.out.below (Below.tail hbp hb3))
  clear hbp hb3 HK1 HD
  have O3 := Lib.hid (HO.out.below HK3.out.base)
  have E3 := Lib.hid (HE.out.below HK3.out.base)
  have F3 : Hid (Fr bc at_ w w3) := Lib.hid (Fr.of_below HK3.out.base)
  have X3 := Lib.hid ((HK3.out.base.block _ xrl).trans HXR.out)
  cases hd : dueM s c with
  | true =>
    have HSW : Hid (switchM s c = dispM s c) := Lib.hid (by unfold switchM; rw [if_pos hd])
    have HDp := Lib.hid (dispatch_c E3.out O3.out HOK.out hc (due_ne hd))
    have hokd := disp_ok HOK.out hc (due_ne hd)
    have hcd : c < (dispM s c).qs.length := by
      obtain ⟨s1, g1, _, g2, _⟩ := disp_mid HOK.out hc (due_ne hd)
      rw [g1, toRunM_n]; omega
    obtain ⟨k_0, k_1, k_2, k_3, k_4, k_5, hxl⟩ := board_cells (HK3.out.row 0 rfl)
    clear hd
    go_wp2_with fail
    show Calls Try.prog 52 #[bdV b0 e, .pointer (some ⟨bc, c * 3, none⟩)] w3 _
    refine HDp.out.mono ?_
    rintro y w4 ⟨rfl, ⟨rs4, O4⟩, F4⟩
    obtain ⟨_, _, c0, _⟩ := O4.cells (qu_some hcd)
    have X4 := O3.out.kept F4 X3.out (by decide)
    obtain ⟨z0, z1, _⟩ := cell0 X4
    have O5 := Lib.hid (O4.setX hxB (.int .i64 (quOf (dispM s c).qs (c : Int)).run))
    have F5 := Lib.hid ((F3.out.trans F4).op (x := xr) (b0 := b0) |>.setX (.int .i64 (quOf (dispM s c).qs (c : Int)).run))
    have hI : IsI xr (quOf (dispM s c).qs (c : Int)).run (w4.setCell ⟨xr, 0, none⟩ (.int .i64 (quOf (dispM s c).qs (c : Int)).run)) := by
      have := heap_setCell_same w4 xr 0 _ 3 (.int .i64 (quOf (dispM s c).qs (c : Int)).run) X4
      simpa [IsI] using this
    have HI := Lib.hid hI
    clear O4 F4 X4 hI HDp hokd hcd k_0 k_1 k_2 k_3 k_4 k_5
    go_wp2
    refine bodyPost_end (results_none rfl _ _ _) rfl ?_
    exact ⟨rfl, by rw [HSW.out]; exact ⟨bc, cc, at_, ct, rs4, O5.out⟩, F5.out, by rw [HSW.out]; exact HI.out⟩
  | false =>
    obtain ⟨_, _, c0, c1, _, f0, f1, _⟩ := O3.out.cells HU.out
    by_cases hcond : (quOf s.qs (c : Int)).run ≠ -1 ∧ (quOf s.qs (c : Int)).left = 0
    · have HSW : Hid (switchM s c = { s with qs := s.qs.set c { (quOf s.qs (c : Int)) with left := s.q } }) := Lib.hid (by unfold switchM; rw [if_neg (by simp [hd]), if_pos hcond]; rfl)
      have hb : ((quOf s.qs (c : Int)).run != -1) = true := by simpa using hcond.1
      have hb2 : ((quOf s.qs (c : Int)).left == 0) = true := by simpa using hcond.2
      have hL := hcond.2
      rw [hL] at c1
      have O5 := O3.out.setLeft HU.out s.q
      have hu5 : (s.qs.set c { (quOf s.qs (c : Int)) with left := s.q })[c]? = some { (quOf s.qs (c : Int)) with left := s.q } := List.getElem?_set_self hc
      obtain ⟨_, _, d0, _⟩ := O5.cells hu5
      have X5 := O3.out.kept ((Fr.refl bc at_ w3).setC (c * 3 + 1) (.int .i64 s.q)) X3.out (by decide)
      obtain ⟨z0, z1, _⟩ := cell0 X5
      have HO6 := Lib.hid (O5.setX hxB (.int .i64 (quOf s.qs (c : Int)).run))
      have F6 := Lib.hid ((F3.out.setC (c * 3 + 1) (.int .i64 s.q)).op (x := xr) (b0 := b0) |>.setX (.int .i64 (quOf s.qs (c : Int)).run))
      have hI : IsI xr (quOf s.qs (c : Int)).run ((w3.setCell ⟨bc, c * 3 + 1, none⟩ (.int .i64 s.q)).setCell ⟨xr, 0, none⟩ (.int .i64 (quOf s.qs (c : Int)).run)) := by
        have := heap_setCell_same _ xr 0 _ 3 (.int .i64 (quOf s.qs (c : Int)).run) X5
        simpa [IsI] using this
      have HI := Lib.hid hI
      have HQ : Hid ((quOf (switchM s c).qs (c : Int)).run = (quOf s.qs (c : Int)).run) := Lib.hid (by rw [HSW.out]; simp only []; rw [quOf_set _ _ _ _ hc, if_pos rfl])
      obtain ⟨k_0, k_1, k_2, k_3, k_4, k_5, hxl⟩ := board_cells (HK3.out.row 0 rfl)
      obtain ⟨n0, n1, n2, _⟩ := row3 O3.out.nxt
      simp only [] at d0
      clear O5 hu5 X5 hI hcond hL hd
      generalize hgr : (quOf s.qs (c : Int)).run = rn at *
      have HGR := Lib.hid hgr
      clear hgr
      go_wp2
      refine bodyPost_end (results_none rfl _ _ _) rfl ?_
      exact ⟨rfl, by rw [HSW.out, HGR.out]; exact ⟨bc, cc, at_, ct, rs, HO6.out⟩, F6.out, by rw [HQ.out]; exact HI.out⟩
    · have HSW : Hid (switchM s c = s) := Lib.hid (by unfold switchM; rw [if_neg (by simp [hd]), if_neg hcond])
      obtain ⟨z0, z1, _⟩ := cell0 X3.out
      have HO6 := Lib.hid (O3.out.setX hxB (.int .i64 (quOf s.qs (c : Int)).run))
      have F6 := Lib.hid (F3.out.op (x := xr) (b0 := b0) |>.setX (.int .i64 (quOf s.qs (c : Int)).run))
      have hI : IsI xr (quOf s.qs (c : Int)).run (w3.setCell ⟨xr, 0, none⟩ (.int .i64 (quOf s.qs (c : Int)).run)) := by
        have := heap_setCell_same _ xr 0 _ 3 (.int .i64 (quOf s.qs (c : Int)).run) X3.out
        simpa [IsI] using this
      have HI := Lib.hid hI
      clear hI hd
      by_cases hr : (quOf s.qs (c : Int)).run = -1
      · have hb : ((quOf s.qs (c : Int)).run != -1) = false := by simpa using hr
        clear hcond hr
        generalize hgr : (quOf s.qs (c : Int)).run = rn at *
        have HGR := Lib.hid hgr
        clear hgr
        go_wp2
        refine bodyPost_end (results_none rfl _ _ _) rfl ?_
        exact ⟨rfl, by rw [HSW.out]; exact ⟨bc, cc, at_, ct, rs, HO6.out⟩, F6.out, by rw [HSW.out, HGR.out]; exact HI.out⟩
      · have hb : ((quOf s.qs (c : Int)).run != -1) = true := by simpa using hr
        have hb2 : ((quOf s.qs (c : Int)).left == 0) = false := by simpa using fun h => hcond ⟨hr, h⟩
        clear hcond hr
        generalize hgr : (quOf s.qs (c : Int)).run = rn at *
        have HGR := Lib.hid hgr
        clear hgr
        go_wp2
        refine bodyPost_end (results_none rfl _ _ _) rfl ?_
        exact ⟨rfl, by rw [HSW.out]; exact ⟨bc, cc, at_, ct, rs, HO6.out⟩, F6.out, by rw [HSW.out, HGR.out]; exact HI.out⟩
end
end Go.Proofs.Ytggikbcgijmhbaa
