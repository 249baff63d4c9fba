/- WHAT IS PROVED: sched.Wake, sched.Block, sched.Due. CONDITIONS: a valid state, a thread of it that waits, or does not; sched.Due: none. -/
import Derived.Test.YtggikbcgijmhbaaS
import Derived.Test.YtggikbcgijmhbaaT
set_option linter.unusedSimpArgs false
set_option linter.unusedVariables false
namespace Go.Proofs.Ytggikbcgijmhbaa
open Go Go.RowKit Go.QrBits Go.QrMem
attribute [local go_sem] reg_cell reg_frozen reg_setCell reg_lt reg_lt_add reg_drew reg_of_drew
set_option maxHeartbeats 4000000 in
set_option maxRecDepth 100000 in
theorem wake_y (a : Option Addr) (c : Nat) (a2 : Option Addr) (c2 : Nat) (qs : List Qu) (ts : List Th) (q : Int) (k : Nat) (w : World) (hs : ScIn w a c a2 c2 qs ts) (hck : chkB qs ts q = true) (c0 : Nat) (hk : k < ts.length) (hc : (thOf ts (k : Int)).cpu = c0) (hst : (thOf ts (k : Int)).st = 3) :
    Calls Try.prog 26 #[.agg #[.slice a qs.length c, .slice a2 ts.length c2, .int .i64 q], .int .i64 k] w (Res3 (toEndM ⟨qs, ts, q⟩ k) (.bool (dueM (toEndM ⟨qs, ts, q⟩ k) c0)) w) := by
  have hok := ok_of_chk hck
  have hok2 : Ok (toEndM ⟨qs, ts, q⟩ k) := toEnd_ok hok (.inl rfl) hk
  have HS := Lib.hid hs
  have HC := Lib.hid hck
  have HK := ((Kw.start w).box (vs := [.slice a qs.length c, .slice a2 ts.length c2, .int .i64 q]) (t := 25)).box (vs := [.int .i64 k]) (t := 3)
  replace HK := (HK.box (vs := [.slice none 0 0, .slice none 0 0, .int .i64 0]) (t := 25)).box (vs := [.bool false]) (t := 4)
  simp only [World.size_alloc] at HK
  have hmf : ∀ (fn : Fn) (first cap : Array Value) (w : World), (Instr.makeFunc fn first cap).run Try.prog w = .ok (.func fn first cap) w := fun _ _ _ _ => rfl
  have HOK := Lib.hid hok
  have HOK2 := Lib.hid hok2
  have HCC := Lib.hid hc
  have HST := Lib.hid hst
  clear hs hck hok hok2 hc hst
  go_enter Try.func26, Try.ntmps26
  go_wp2_with fail
  have hw : ∃ W, (((w.alloc (.cells #[.slice a qs.length c, .slice a2 ts.length c2, .int .i64 q] 25)).alloc (.cells #[.int .i64 k] 3)).alloc (.cells #[.slice none 0 0, .slice none 0 0, .int .i64 0] 25)).alloc (.cells #[.bool false] 4) = W := ⟨_, rfl⟩
  obtain ⟨W, hW⟩ := hw
  have hWs : W.heap.size = w.heap.size + 4 := by rw [← hW]; simp
  rw [hW] at HK ⊢
  clear hW
  have hch := change_y a c a2 c2 qs ts q 56 #[.pointer (some ⟨w.heap.size + 1, 0, none⟩), .pointer (some ⟨w.heap.size + 1 + 1 + 1, 0, none⟩)] (w.heap.size + 1 + 1 + 1) (toEndM ⟨qs, ts, q⟩ k) (IsB (w.heap.size + 1 + 1 + 1) (dueM (toEndM ⟨qs, ts, q⟩ k) c0)) W (HS.out.below HK.base) HC.out (stable_B _ _ (by omega)) (by omega) (enters_of Try.func56 (by kernel_rfl) rfl)
    (fun b0 e bc cc at_ ct rs V hb0 hV hO hE => wake1_c hE hO HOK.out hk HCC.out HST.out (by omega) ((hV.block _ (by omega)).trans (HK.row 2 rfl)) _ ((hV.block _ (by omega)).trans (HK.row 0 rfl)))
  have HCH := Lib.hid hch
  clear hch
  refine HCH.out.mono ?_
  rintro y w1 ⟨g, d, b, d2, rfl, ⟨B, b0, rs, hBz, hsc⟩, hfx, hI⟩
  have hrow4 := (hfx.blk (w.heap.size + 1 + 1) (by omega) (by omega)).trans (HK.row 1 rfl)
  have hb1 : Below w.heap.size w w1 := HK.base.trans (hfx.below (B := w.heap.size) (by omega) (by omega))
  have HSC := Lib.hid hsc
  have HB1 := Lib.hid hb1
  have hz1 : w.heap.size + 4 ≤ w1.heap.size := by have := hfx.size; omega
  have hBw : w.heap.size + 4 ≤ B := by omega
  obtain ⟨i0, i1, il⟩ := cell0 hI
  obtain ⟨r0, r1, r2, s0, s1, s2, rl⟩ := row3 hrow4
  have HR4 := Lib.hid hrow4
  generalize toEndM ⟨qs, ts, q⟩ k = st at *
  clear hsc hfx hb1 hI hrow4 HCH HK hWs
  go_wp2_with fail
  have hw2 : Below w1.heap.size w1 (w1.alloc (.cells #[.slice (some ⟨g, 0, none⟩) st.qs.length d, .slice b st.ts.length d2, .int .i64 st.q] 25)) := b_alloc (Below.refl _ _)
  have hx2 : (w1.alloc (.cells #[.slice (some ⟨g, 0, none⟩) st.qs.length d, .slice b st.ts.length d2, .int .i64 st.q] 25)).heap[w1.heap.size]? = some (.cells #[.slice (some ⟨g, 0, none⟩) st.qs.length d, .slice b st.ts.length d2, .int .i64 st.q] 25 (0, 0)) := heap_alloc_new w1 _
  obtain ⟨e0, e1, e2, _, _, _, el⟩ := row3 hx2
  replace i0 := (hw2.cell (p := ⟨w.heap.size + 1 + 1 + 1, 0, none⟩) il).trans i0
  have HR5 := Lib.hid ((hw2.block _ rl).trans HR4.out)
  have HSC2 := Lib.hid (HSC.out.below hw2)
  have HB2 := Lib.hid (Below.tail HB1.out hw2)
  generalize (w1.alloc (.cells #[.slice (some ⟨g, 0, none⟩) st.qs.length d, .slice b st.ts.length d2, .int .i64 st.q] 25)) = w2 at *
  have il2 : w.heap.size + 1 + 1 + 1 < w2.heap.size := Nat.lt_of_lt_of_le il hw2.size
  clear hw2 hx2 i1 il HR4 HSC HB1 r0 r1 r2 s0 s1 s2 rl
  have hz : w.heap.size + 4 ≤ w1.heap.size := hz1
  generalize w1.heap.size = z at *
  refine wp_region_any (by kernel_rfl) (wpAny_of_held (S := fun W' : World => W'.cell? ⟨z, 0, none⟩ = some (.slice (some ⟨g, 0, none⟩) st.qs.length d) ∧ W'.cell? ⟨z, 1, none⟩ = some (.slice b st.ts.length d2) ∧ W'.cell? ⟨z, 2, none⟩ = some (.int .i64 st.q) ∧ W'.cell? ⟨w.heap.size + 1 + 1 + 1, 0, none⟩ = some (.bool (dueM st c0))) _ _ _ _ ?_)
  change wpAnyH _ _ _ _ _ _ _ _ (World.drew _)
  have hbp : Below w2.heap.size w2 w2.drew := (Below.refl _ _).drew
  have HS0 : w2.drew.cell? ⟨z, 0, none⟩ = some (.slice (some ⟨g, 0, none⟩) st.qs.length d) ∧ w2.drew.cell? ⟨z, 1, none⟩ = some (.slice b st.ts.length d2) ∧ w2.drew.cell? ⟨z, 2, none⟩ = some (.int .i64 st.q) ∧ w2.drew.cell? ⟨w.heap.size + 1 + 1 + 1, 0, none⟩ = some (.bool (dueM st c0)) := ⟨e0, e1, e2, i0⟩
  have h5 := (hbp.block _ (Array.getElem?_eq_some_iff.1 HR5.out).1).trans HR5.out
  have hsc3 := HSC2.out.below hbp
  have HB2' := Below.tail HB2.out hbp
  generalize w2.drew = w3 at *
  obtain ⟨r0, r1, r2, s0, s1, s2, rl⟩ := row3 h5
  have f1 := heap_setCell_same w3 (w.heap.size + 1 + 1) 0 _ 25 (.slice (some ⟨g, 0, none⟩) st.qs.length d) h5
  have f2 := heap_setCell_same _ (w.heap.size + 1 + 1) 1 _ 25 (.slice b st.ts.length d2) f1
  have f3 := heap_setCell_same _ (w.heap.size + 1 + 1) 2 _ 25 (.int .i64 st.q) f2
  obtain ⟨u0, u1, u2, _⟩ := row3 (x := .slice (some ⟨g, 0, none⟩) st.qs.length d) (y := .slice b st.ts.length d2) (z := .int .i64 st.q) (by simpa using f3)
  have HB3 : Hid (Below w.heap.size w (((w3.setCell ⟨w.heap.size + 1 + 1, 0, none⟩ (.slice (some ⟨g, 0, none⟩) st.qs.length d)).setCell ⟨w.heap.size + 1 + 1, 1, none⟩ (.slice b st.ts.length d2)).setCell ⟨w.heap.size + 1 + 1, 2, none⟩ (.int .i64 st.q))) :=
    Lib.hid (((HB2'.setCell (by show _ ≤ w.heap.size + 1 + 1; omega) _).setCell (by show _ ≤ w.heap.size + 1 + 1; omega) _).setCell (by show _ ≤ w.heap.size + 1 + 1; omega) _)
  have HOW4 : Hid (Owned w.heap.size st g d b d2 (((w3.setCell ⟨w.heap.size + 1 + 1, 0, none⟩ (.slice (some ⟨g, 0, none⟩) st.qs.length d)).setCell ⟨w.heap.size + 1 + 1, 1, none⟩ (.slice b st.ts.length d2)).setCell ⟨w.heap.size + 1 + 1, 2, none⟩ (.int .i64 st.q))) := Lib.hid ⟨B, b0, rs, by omega, (((hsc3.setXj (by omega) 0 _).setXj (by omega) 1 _).setXj (by omega) 2 _)⟩
  have HSC4 : Hid (ScIn (((w3.setCell ⟨w.heap.size + 1 + 1, 0, none⟩ (.slice (some ⟨g, 0, none⟩) st.qs.length d)).setCell ⟨w.heap.size + 1 + 1, 1, none⟩ (.slice b st.ts.length d2)).setCell ⟨w.heap.size + 1 + 1, 2, none⟩ (.int .i64 st.q)) (some ⟨g, 0, none⟩) d b d2 st.qs st.ts) := Lib.hid ((((hsc3.setXj (by omega) 0 _).setXj (by omega) 1 _).setXj (by omega) 2 _).scIn (short_of_ok HOK2.out))
  have hfar : ∀ (k o : Nat), k ≠ w.heap.size + 1 + 1 → (((w3.setCell ⟨w.heap.size + 1 + 1, 0, none⟩ (.slice (some ⟨g, 0, none⟩) st.qs.length d)).setCell ⟨w.heap.size + 1 + 1, 1, none⟩ (.slice b st.ts.length d2)).setCell ⟨w.heap.size + 1 + 1, 2, none⟩ (.int .i64 st.q)).cell? ⟨k, o, none⟩ = w3.cell? ⟨k, o, none⟩ := fun k o hk =>
    World.cell?_of_block (w := w3) (a := ⟨k, o, none⟩) ((Below.heap_setCell _ _ _ _ hk).trans ((Below.heap_setCell _ _ _ _ hk).trans (Below.heap_setCell _ _ _ _ hk)))
  have HSF : Hid ((((w3.setCell ⟨w.heap.size + 1 + 1, 0, none⟩ (.slice (some ⟨g, 0, none⟩) st.qs.length d)).setCell ⟨w.heap.size + 1 + 1, 1, none⟩ (.slice b st.ts.length d2)).setCell ⟨w.heap.size + 1 + 1, 2, none⟩ (.int .i64 st.q)).cell? ⟨z, 0, none⟩ = some (.slice (some ⟨g, 0, none⟩) st.qs.length d) ∧ (((w3.setCell ⟨w.heap.size + 1 + 1, 0, none⟩ (.slice (some ⟨g, 0, none⟩) st.qs.length d)).setCell ⟨w.heap.size + 1 + 1, 1, none⟩ (.slice b st.ts.length d2)).setCell ⟨w.heap.size + 1 + 1, 2, none⟩ (.int .i64 st.q)).cell? ⟨z, 1, none⟩ = some (.slice b st.ts.length d2) ∧ (((w3.setCell ⟨w.heap.size + 1 + 1, 0, none⟩ (.slice (some ⟨g, 0, none⟩) st.qs.length d)).setCell ⟨w.heap.size + 1 + 1, 1, none⟩ (.slice b st.ts.length d2)).setCell ⟨w.heap.size + 1 + 1, 2, none⟩ (.int .i64 st.q)).cell? ⟨z, 2, none⟩ = some (.int .i64 st.q) ∧ (((w3.setCell ⟨w.heap.size + 1 + 1, 0, none⟩ (.slice (some ⟨g, 0, none⟩) st.qs.length d)).setCell ⟨w.heap.size + 1 + 1, 1, none⟩ (.slice b st.ts.length d2)).setCell ⟨w.heap.size + 1 + 1, 2, none⟩ (.int .i64 st.q)).cell? ⟨w.heap.size + 1 + 1 + 1, 0, none⟩ = some (.bool (dueM st c0))) :=
    Lib.hid ⟨(hfar z 0 (by omega)).trans HS0.1, (hfar z 1 (by omega)).trans HS0.2.1, (hfar z 2 (by omega)).trans HS0.2.2.1, (hfar _ 0 (by omega)).trans HS0.2.2.2⟩
  clear hfar h5 f1 f2 f3 hsc3 hbp e0 e1 e2 i0 HSC2 HB2 HB2' HR5 el
  refine wpAnyH_take (i := 0) (oi := _) (v := .agg #[.slice (some ⟨g, 0, none⟩) st.qs.length d, .slice b st.ts.length d2, .int .i64 st.q]) rfl (by kernel_rfl) (by kernel_rfl) (by kernel_rfl) (fun _ _ _ h => h) (Or.inl ⟨by rfl, ?_⟩) HS0 ?_
  · intro W' hW'
    have h := hW'.1; have h2 := hW'.2.1; have h3 := hW'.2.2.1; go_simp
  try simp only [Act.put, List.setIfInBounds_toArray, List.set_cons_zero, List.set_cons_succ]
  refine wpAnyH_take (i := 1) (oi := _) (v := .bool (dueM st c0)) rfl (by kernel_rfl) (by kernel_rfl) (by kernel_rfl) (fun _ _ _ h => h) (Or.inl ⟨by rfl, ?_⟩) HS0 ?_
  · intro W' hW'
    have h := hW'.2.2.2; go_simp
  try simp only [Act.put, List.setIfInBounds_toArray, List.set_cons_zero, List.set_cons_succ]
  refine wpAnyH_take (i := 2) (oi := _) (v := .int .i64 0) rfl (by kernel_rfl) (by kernel_rfl) (by kernel_rfl) (fun _ _ _ h => h) (Or.inl ⟨by rfl, ?_⟩) HS0 ?_
  · intro W' hW'
    go_simp
  try simp only [Act.put, List.setIfInBounds_toArray, List.set_cons_zero, List.set_cons_succ]
  refine wpAnyH_ready (rs := [3]) (by kernel_rfl) (by simp) ?_
  refine AllReadyH.cons (o := _) rfl (fun K hK => ?_) AllReadyH.nil
  go_simp
  refine hK.out _ _ HSF.out (fun hHeld => ?_)
  clear hK K hHeld
  try simp only [Act.put, List.setIfInBounds_toArray, List.set_cons_zero, List.set_cons_succ]
  refine wpAnyH_ready (rs := [4]) (by kernel_rfl) (by simp) ?_
  refine AllReadyH.cons (o := _) rfl (fun K hK => ?_) AllReadyH.nil
  go_simp
  refine hK.out _ _ HSF.out (fun hHeld => ?_)
  clear hK K hHeld
  try simp only [Act.put, List.setIfInBounds_toArray, List.set_cons_zero, List.set_cons_succ]
  refine wpAnyH_ready (rs := [5]) (by kernel_rfl) (by simp) ?_
  refine AllReadyH.cons (o := _) rfl (fun K hK => ?_) AllReadyH.nil
  go_simp
  refine hK.out _ _ HSF.out (fun hHeld => ?_)
  clear hK K hHeld
  refine wpAnyH_done (by kernel_rfl) ?_ _
  go_wp2
  exact bodyPost_ret (v := .tuple #[.agg #[.slice (some ⟨g, 0, none⟩) st.qs.length d, .slice b st.ts.length d2, .int .i64 st.q], .bool (dueM st c0), .int .i64 0]) (by simp [results, Try.results26, go_sem, u0, u1, u2]) rfl ⟨g, d, b, d2, rfl, HSC4.out, HB3.out, HOW4.out⟩

/-- What an operation without a further result hands back. -/
def Res2 (s : St) (w : World) (y : Ending) (w' : World) : Prop :=
  ∃ (g d : Nat) (b : Option Addr) (d2 : Nat), y = .returned (.tuple #[.agg #[.slice (some ⟨g, 0, none⟩) s.qs.length d, .slice b s.ts.length d2, .int .i64 s.q], .int .i64 0]) ∧ ScIn w' (some ⟨g, 0, none⟩) d b d2 s.qs s.ts ∧ Below w.heap.size w w' ∧ Owned w.heap.size s g d b d2 w'
set_option maxHeartbeats 4000000 in
set_option maxRecDepth 100000 in
theorem block_y (a : Option Addr) (c : Nat) (a2 : Option Addr) (c2 : Nat) (qs : List Qu) (ts : List Th) (q : Int) (k : Nat) (w : World) (hs : ScIn w a c a2 c2 qs ts) (hck : chkB qs ts q = true) (hk : k < ts.length) (hst : (thOf ts (k : Int)).st = 1 ∨ (thOf ts (k : Int)).st = 2) :
    Calls Try.prog 25 #[.agg #[.slice a qs.length c, .slice a2 ts.length c2, .int .i64 q], .int .i64 k] w (Res2 (leaveM ⟨qs, ts, q⟩ k 3) w) := by
  have hok := ok_of_chk hck
  have hok2 : Ok (leaveM ⟨qs, ts, q⟩ k 3) := nowhere_ok hok hk (.inl rfl)
  have HS := Lib.hid hs
  have HC := Lib.hid hck
  have HST := Lib.hid hst
  have HK := ((Kw.start w).box (vs := [.slice a qs.length c, .slice a2 ts.length c2, .int .i64 q]) (t := 25)).box (vs := [.int .i64 k]) (t := 3)
  replace HK := HK.box (vs := [.slice none 0 0, .slice none 0 0, .int .i64 0]) (t := 25)
  simp only [World.size_alloc] at HK
  have hmf : ∀ (fn : Fn) (first cap : Array Value) (w : World), (Instr.makeFunc fn first cap).run Try.prog w = .ok (.func fn first cap) w := fun _ _ _ _ => rfl
  have HOK := Lib.hid hok
  have HOK2 := Lib.hid hok2
  clear hs hck hok hok2 hst
  go_enter Try.func25, Try.ntmps25
  go_wp2_with fail
  have hw : ∃ W, ((w.alloc (.cells #[.slice a qs.length c, .slice a2 ts.length c2, .int .i64 q] 25)).alloc (.cells #[.int .i64 k] 3)).alloc (.cells #[.slice none 0 0, .slice none 0 0, .int .i64 0] 25) = W := ⟨_, rfl⟩
  obtain ⟨W, hW⟩ := hw
  have hWs : W.heap.size = w.heap.size + 3 := by rw [← hW]; simp
  rw [hW] at HK ⊢
  clear hW
  have hch := change_y a c a2 c2 qs ts q 54 #[.pointer (some ⟨w.heap.size + 1, 0, none⟩)] (w.heap.size + 1) (leaveM ⟨qs, ts, q⟩ k 3) (fun _ => True) W (HS.out.below HK.base) HC.out (fun _ _ _ _ => trivial) (by omega) (enters_of Try.func54 (by kernel_rfl) rfl)
    (fun b0 e bc cc at_ ct rs V hb0 hV hO hE => block1_c hE hO HOK.out hk HST.out ((hV.block _ (by omega)).trans (HK.row 1 rfl)))
  have HCH := Lib.hid hch
  clear hch
  refine HCH.out.mono ?_
  rintro y w1 ⟨g, d, b, d2, rfl, ⟨B, b0, rs, hBz, hsc⟩, hfx, _⟩
  have h5 := (hfx.blk (w.heap.size + 1 + 1) (by omega) (by omega)).trans (HK.row 0 rfl)
  have hb1 : Below w.heap.size w w1 := HK.base.trans (hfx.below (B := w.heap.size) (by omega) (by omega))
  obtain ⟨r0, r1, r2, s0, s1, s2, rl⟩ := row3 h5
  generalize leaveM ⟨qs, ts, q⟩ k 3 = st at *
  have f1 := heap_setCell_same w1 (w.heap.size + 1 + 1) 0 _ 25 (.slice (some ⟨g, 0, none⟩) st.qs.length d) h5
  have f2 := heap_setCell_same _ (w.heap.size + 1 + 1) 1 _ 25 (.slice b st.ts.length d2) f1
  have f3 := heap_setCell_same _ (w.heap.size + 1 + 1) 2 _ 25 (.int .i64 st.q) f2
  obtain ⟨u0, u1, u2, _⟩ := row3 (x := .slice (some ⟨g, 0, none⟩) st.qs.length d) (y := .slice b st.ts.length d2) (z := .int .i64 st.q) (by simpa using f3)
  have HB3 := Lib.hid (((hb1.setCell (p := ⟨w.heap.size + 1 + 1, 0, none⟩) (by show _ ≤ w.heap.size + 1 + 1; omega) (.slice (some ⟨g, 0, none⟩) st.qs.length d)).setCell (p := ⟨w.heap.size + 1 + 1, 1, none⟩) (by show _ ≤ w.heap.size + 1 + 1; omega) (.slice b st.ts.length d2)).setCell (p := ⟨w.heap.size + 1 + 1, 2, none⟩) (by show _ ≤ w.heap.size + 1 + 1; omega) (.int .i64 st.q))
  have HOW4 := Lib.hid (show Owned w.heap.size st g d b d2 _ from ⟨B, b0, rs, by omega, (((hsc.setXj (x := w.heap.size + 1 + 1) (by omega) 0 (.slice (some ⟨g, 0, none⟩) st.qs.length d)).setXj (x := w.heap.size + 1 + 1) (by omega) 1 (.slice b st.ts.length d2)).setXj (x := w.heap.size + 1 + 1) (by omega) 2 (.int .i64 st.q))⟩)
  have HSC4 := Lib.hid ((((hsc.setXj (x := w.heap.size + 1 + 1) (by omega) 0 (.slice (some ⟨g, 0, none⟩) st.qs.length d)).setXj (x := w.heap.size + 1 + 1) (by omega) 1 (.slice b st.ts.length d2)).setXj (x := w.heap.size + 1 + 1) (by omega) 2 (.int .i64 st.q)).scIn (short_of_ok HOK2.out))
  clear hsc hfx hb1 h5 f1 f2 f3 HCH HK hWs
  go_wp2
  exact bodyPost_ret (v := .tuple #[.agg #[.slice (some ⟨g, 0, none⟩) st.qs.length d, .slice b st.ts.length d2, .int .i64 st.q], .int .i64 0]) (by simp [results, Try.results25, go_sem, u0, u1, u2]) rfl ⟨g, d, b, d2, rfl, HSC4.out, HB3.out, HOW4.out⟩
set_option maxHeartbeats 2000000 in
set_option maxRecDepth 100000 in
/-- Due of a valid state. -/
theorem dueF_y (a : Option Addr) (c : Nat) (a2 : Option Addr) (c2 : Nat) (qs : List Qu) (ts : List Th) (q : Int) (k : Nat) (w : World) (hs : ScIn w a c a2 c2 qs ts) (hck : chkB qs ts q = true) (hk : k < qs.length) :
    Calls Try.prog 17 #[.agg #[.slice a qs.length c, .slice a2 ts.length c2, .int .i64 q], .int .i64 k] w fun y w' => y = .returned (.bool (dueM ⟨qs, ts, q⟩ k)) ∧ Below w.heap.size w w' := by
  have hok := ok_of_chk hck
  have hn4 : qs.length ≤ 4 := hok.n2
  have HOK := Lib.hid hok
  have HS := Lib.hid hs
  have hC := fun w hs => check_c a c a2 c2 qs ts q w hs
  rw [hck, show okE true = 0 from rfl] at hC
  have HC := Lib.hid hC
  have HK := (Kw.start w).box (vs := [.slice a qs.length c, .slice a2 ts.length c2, .int .i64 q]) (t := 25)
  have hin : inB (k : Int) 0 ((qs.length : Int) - 1) = true := inB_in (by omega)
  have HIn := Lib.hid hin
  have k0 : (0 : Int) ≤ (k : Int) := Int.natCast_nonneg _
  have k1 : (k : Int) < (qs.length : Int) := by omega
  clear hok hs hck hC hin
  go_enter Try.func17, Try.ntmps17
  go_wp2_with fail
  refine (HC.out _ (HS.out.below HK.base)).mono ?_
  rintro y w1 ⟨rfl, hq⟩
  replace HK := HK.below hq
  clear hq
  have p_0 := HK.get 0 0 rfl rfl
  have p_1 := HK.get 0 1 rfl rfl
  have p_2 := HK.get 0 2 rfl rfl
  go_wp2_with fail
  refine (within_y _ _ _ _ HIn.out).mono ?_
  rintro y w2 ⟨rfl, rfl⟩
  go_wp2_with fail
  refine (due_c a c a2 c2 qs ts q k _ (HS.out.below HK.base) HOK.out hk).mono ?_
  rintro y w3 ⟨rfl, hq⟩
  have hB := (HK.below hq).base
  clear HK hq p_0 p_1 p_2
  go_wp2
  go_ret
  exact ⟨by simp, hB⟩
end Go.Proofs.Ytggikbcgijmhbaa
