/- WHAT IS PROVED: End and SetPri of valid states; Block, End and SetPri where they have an error. CONDITIONS: as the cells lie. -/
import Derived.Test.YtggikbcgijmhbaaAi
import Derived.Test.YtggikbcgijmhbaaAd
set_option linter.unusedSimpArgs false
set_option linter.unusedVariables false
namespace Go.Proofs.Ytggikbcgijmhbaa
open Go Go.RowKit Go.QrBits Go.QrMem
attribute [local go_sem] reg_cell reg_frozen reg_setCell reg_lt reg_lt_add reg_drew reg_of_drew
set_option maxHeartbeats 4000000 in
set_option maxRecDepth 100000 in
theorem end_y (a : Option Addr) (c : Nat) (a2 : Option Addr) (c2 : Nat) (qs : List Qu) (ts : List Th) (q : Int) (k : Nat) (w : World) (hs : ScIn w a c a2 c2 qs ts) (hck : chkB qs ts q = true) (hk : k < ts.length) (hst : (thOf ts (k : Int)).st = 1 ∨ (thOf ts (k : Int)).st = 2 ∨ (thOf ts (k : Int)).st = 3) :
    Calls Try.prog 27 #[.agg #[.slice a qs.length c, .slice a2 ts.length c2, .int .i64 q], .int .i64 k] w (Res2 (leaveM ⟨qs, ts, q⟩ k 4) w) := by
  have hok := ok_of_chk hck
  have hok2 : Ok (leaveM ⟨qs, ts, q⟩ k 4) := nowhere_ok hok hk (.inr rfl)
  have HS := Lib.hid hs
  have HC := Lib.hid hck
  have HST := Lib.hid hst
  have HK := (((Kw.start w).box (vs := [.slice a qs.length c, .slice a2 ts.length c2, .int .i64 q]) (t := 25)).box (vs := [.int .i64 k]) (t := 3)).box (vs := [.slice none 0 0, .slice none 0 0, .int .i64 0]) (t := 25)
  simp only [World.size_alloc] at HK
  have hmf : ∀ (fn : Fn) (first cap : Array Value) (w : World), (Instr.makeFunc fn first cap).run Try.prog w = .ok (.func fn first cap) w := fun _ _ _ _ => rfl
  have HOK := Lib.hid hok
  have HOK2 := Lib.hid hok2
  clear hs hck hok hok2 hst
  go_enter Try.func27, Try.ntmps27
  go_wp2_with fail
  have hw : ∃ W, ((w.alloc (.cells #[.slice a qs.length c, .slice a2 ts.length c2, .int .i64 q] 25)).alloc (.cells #[.int .i64 k] 3)).alloc (.cells #[.slice none 0 0, .slice none 0 0, .int .i64 0] 25) = W := ⟨_, rfl⟩
  obtain ⟨W, hW⟩ := hw
  have hWs : W.heap.size = w.heap.size + 3 := by rw [← hW]; simp
  rw [hW] at HK ⊢
  clear hW
  have hch := change_y a c a2 c2 qs ts q 57 #[.pointer (some ⟨w.heap.size + 1, 0, none⟩)] (w.heap.size) (leaveM ⟨qs, ts, q⟩ k 4) (fun _ => True) W (HS.out.below HK.base) HC.out (fun _ _ _ _ => trivial) (by omega) (enters_of Try.func57 (by kernel_rfl) rfl)
    (fun b0 e bc cc at_ ct rs V hb0 hV hO hE => end1_c hE hO HOK.out hk HST.out ((hV.block _ (by omega)).trans (HK.row 1 rfl)))
  have HCH := Lib.hid hch
  clear hch
  refine HCH.out.mono ?_
  rintro y w1 ⟨g, d, b, d2, rfl, ⟨B, b0, rs, hBz, hsc⟩, hfx, _⟩
  have h5 := (hfx.blk (w.heap.size + 1 + 1) (by omega) (by omega)).trans (HK.row 0 rfl)
  have hb1 : Below w.heap.size w w1 := HK.base.trans (hfx.below (B := w.heap.size) (by omega) (by omega))
  obtain ⟨r0, r1, r2, s0, s1, s2, rl⟩ := row3 h5
  generalize leaveM ⟨qs, ts, q⟩ k 4 = st at *
  have f1 := heap_setCell_same w1 (w.heap.size + 1 + 1) 0 _ 25 (.slice (some ⟨g, 0, none⟩) st.qs.length d) h5
  have f2 := heap_setCell_same _ (w.heap.size + 1 + 1) 1 _ 25 (.slice b st.ts.length d2) f1
  have f3 := heap_setCell_same _ (w.heap.size + 1 + 1) 2 _ 25 (.int .i64 st.q) f2
  obtain ⟨u0, u1, u2, _⟩ := row3 (x := .slice (some ⟨g, 0, none⟩) st.qs.length d) (y := .slice b st.ts.length d2) (z := .int .i64 st.q) (by simpa using f3)
  have HB3 := Lib.hid (((hb1.setCell (p := ⟨w.heap.size + 1 + 1, 0, none⟩) (by show _ ≤ w.heap.size + 1 + 1; omega) (.slice (some ⟨g, 0, none⟩) st.qs.length d)).setCell (p := ⟨w.heap.size + 1 + 1, 1, none⟩) (by show _ ≤ w.heap.size + 1 + 1; omega) (.slice b st.ts.length d2)).setCell (p := ⟨w.heap.size + 1 + 1, 2, none⟩) (by show _ ≤ w.heap.size + 1 + 1; omega) (.int .i64 st.q))
  have HOW4 := Lib.hid (show Owned w.heap.size st g d b d2 _ from ⟨B, b0, rs, by omega, (((hsc.setXj (x := w.heap.size + 1 + 1) (by omega) 0 (.slice (some ⟨g, 0, none⟩) st.qs.length d)).setXj (x := w.heap.size + 1 + 1) (by omega) 1 (.slice b st.ts.length d2)).setXj (x := w.heap.size + 1 + 1) (by omega) 2 (.int .i64 st.q))⟩)
  have HSC4 := Lib.hid ((((hsc.setXj (x := w.heap.size + 1 + 1) (by omega) 0 (.slice (some ⟨g, 0, none⟩) st.qs.length d)).setXj (x := w.heap.size + 1 + 1) (by omega) 1 (.slice b st.ts.length d2)).setXj (x := w.heap.size + 1 + 1) (by omega) 2 (.int .i64 st.q)).scIn (short_of_ok HOK2.out))
  clear hsc hfx hb1 h5 f1 f2 f3 HCH HK hWs
  go_wp2
  exact bodyPost_ret (v := .tuple #[.agg #[.slice (some ⟨g, 0, none⟩) st.qs.length d, .slice b st.ts.length d2, .int .i64 st.q], .int .i64 0]) (by simp [results, Try.results27, go_sem, u0, u1, u2]) rfl ⟨g, d, b, d2, rfl, HSC4.out, HB3.out, HOW4.out⟩
set_option maxHeartbeats 4000000 in
set_option maxRecDepth 100000 in
theorem setPri_y (a : Option Addr) (c : Nat) (a2 : Option Addr) (c2 : Nat) (qs : List Qu) (ts : List Th) (q : Int) (k : Nat) (p : Int) (w : World) (hs : ScIn w a c a2 c2 qs ts) (hck : chkB qs ts q = true) (hk : k < ts.length) (hst : ((thOf ts (k : Int)).st = 1 ∨ (thOf ts (k : Int)).st = 2 ∨ (thOf ts (k : Int)).st = 3) ∧ inB p 0 7 = true) :
    Calls Try.prog 28 #[.agg #[.slice a qs.length c, .slice a2 ts.length c2, .int .i64 q], .int .i64 k, .int .i64 p] w (Res2 (setPriM ⟨qs, ts, q⟩ k p) w) := by
  have hok := ok_of_chk hck
  have hok2 : Ok (setPriM ⟨qs, ts, q⟩ k p) := setPri_ok hok hk (inB_out hst.2)
  have HS := Lib.hid hs
  have HC := Lib.hid hck
  have HST := Lib.hid hst
  have HK := (((Kw.start w).box (vs := [.slice a qs.length c, .slice a2 ts.length c2, .int .i64 q]) (t := 25)).box (vs := [.int .i64 k]) (t := 3).box (vs := [.int .i64 p]) (t := 3)).box (vs := [.slice none 0 0, .slice none 0 0, .int .i64 0]) (t := 25)
  simp only [World.size_alloc] at HK
  have hmf : ∀ (fn : Fn) (first cap : Array Value) (w : World), (Instr.makeFunc fn first cap).run Try.prog w = .ok (.func fn first cap) w := fun _ _ _ _ => rfl
  have HOK := Lib.hid hok
  have HOK2 := Lib.hid hok2
  clear hs hck hok hok2 hst
  go_enter Try.func28, Try.ntmps28
  go_wp2_with fail
  have hw : ∃ W, (((w.alloc (.cells #[.slice a qs.length c, .slice a2 ts.length c2, .int .i64 q] 25)).alloc (.cells #[.int .i64 k] 3)).alloc (.cells #[.int .i64 p] 3)).alloc (.cells #[.slice none 0 0, .slice none 0 0, .int .i64 0] 25) = W := ⟨_, rfl⟩
  obtain ⟨W, hW⟩ := hw
  have hWs : W.heap.size = w.heap.size + 4 := by rw [← hW]; simp
  rw [hW] at HK ⊢
  clear hW
  have hch := change_y a c a2 c2 qs ts q 58 #[.pointer (some ⟨w.heap.size + 1, 0, none⟩), .pointer (some ⟨w.heap.size + 1 + 1, 0, none⟩)] (w.heap.size) (setPriM ⟨qs, ts, q⟩ k p) (fun _ => True) W (HS.out.below HK.base) HC.out (fun _ _ _ _ => trivial) (by omega) (enters_of Try.func58 (by kernel_rfl) rfl)
    (fun b0 e bc cc at_ ct rs V hb0 hV hO hE => setPri1_c hE hO HOK.out hk HST.out.1 HST.out.2 ((hV.block _ (by omega)).trans (HK.row 2 rfl)) ((hV.block _ (by omega)).trans (HK.row 1 rfl)) ⟨by omega, by omega⟩)
  have HCH := Lib.hid hch
  clear hch
  refine HCH.out.mono ?_
  rintro y w1 ⟨g, d, b, d2, rfl, ⟨B, b0, rs, hBz, hsc⟩, hfx, _⟩
  have h5 := (hfx.blk (w.heap.size + 1 + 1 + 1) (by omega) (by omega)).trans (HK.row 0 rfl)
  have hb1 : Below w.heap.size w w1 := HK.base.trans (hfx.below (B := w.heap.size) (by omega) (by omega))
  obtain ⟨r0, r1, r2, s0, s1, s2, rl⟩ := row3 h5
  generalize setPriM ⟨qs, ts, q⟩ k p = st at *
  have f1 := heap_setCell_same w1 (w.heap.size + 1 + 1 + 1) 0 _ 25 (.slice (some ⟨g, 0, none⟩) st.qs.length d) h5
  have f2 := heap_setCell_same _ (w.heap.size + 1 + 1 + 1) 1 _ 25 (.slice b st.ts.length d2) f1
  have f3 := heap_setCell_same _ (w.heap.size + 1 + 1 + 1) 2 _ 25 (.int .i64 st.q) f2
  obtain ⟨u0, u1, u2, _⟩ := row3 (x := .slice (some ⟨g, 0, none⟩) st.qs.length d) (y := .slice b st.ts.length d2) (z := .int .i64 st.q) (by simpa using f3)
  have HB3 := Lib.hid (((hb1.setCell (p := ⟨w.heap.size + 1 + 1 + 1, 0, none⟩) (by show _ ≤ w.heap.size + 1 + 1 + 1; omega) (.slice (some ⟨g, 0, none⟩) st.qs.length d)).setCell (p := ⟨w.heap.size + 1 + 1 + 1, 1, none⟩) (by show _ ≤ w.heap.size + 1 + 1 + 1; omega) (.slice b st.ts.length d2)).setCell (p := ⟨w.heap.size + 1 + 1 + 1, 2, none⟩) (by show _ ≤ w.heap.size + 1 + 1 + 1; omega) (.int .i64 st.q))
  have HOW4 := Lib.hid (show Owned w.heap.size st g d b d2 _ from ⟨B, b0, rs, by omega, (((hsc.setXj (x := w.heap.size + 1 + 1 + 1) (by omega) 0 (.slice (some ⟨g, 0, none⟩) st.qs.length d)).setXj (x := w.heap.size + 1 + 1 + 1) (by omega) 1 (.slice b st.ts.length d2)).setXj (x := w.heap.size + 1 + 1 + 1) (by omega) 2 (.int .i64 st.q))⟩)
  have HSC4 := Lib.hid ((((hsc.setXj (x := w.heap.size + 1 + 1 + 1) (by omega) 0 (.slice (some ⟨g, 0, none⟩) st.qs.length d)).setXj (x := w.heap.size + 1 + 1 + 1) (by omega) 1 (.slice b st.ts.length d2)).setXj (x := w.heap.size + 1 + 1 + 1) (by omega) 2 (.int .i64 st.q)).scIn (short_of_ok HOK2.out))
  clear hsc hfx hb1 h5 f1 f2 f3 HCH HK hWs
  go_wp2
  exact bodyPost_ret (v := .tuple #[.agg #[.slice (some ⟨g, 0, none⟩) st.qs.length d, .slice b st.ts.length d2, .int .i64 st.q], .int .i64 0]) (by simp [results, Try.results28, go_sem, u0, u1, u2]) rfl ⟨g, d, b, d2, rfl, HSC4.out, HB3.out, HOW4.out⟩
set_option maxHeartbeats 4000000 in
set_option maxRecDepth 100000 in
theorem block_e (v0 v1 v2 : Value) (k er : Int) (w : World) (hch : ∀ W : World, Below w.heap.size w W → W.heap.size = w.heap.size + 3 → W.heap[w.heap.size + 1]? = some (.cells #[.int .i64 k] 3 (0, 0)) →
      Calls Try.prog 49 #[.agg #[v0, v1, v2], .func (.func 54) #[] #[.pointer (some ⟨w.heap.size + 1, 0, none⟩)]] W fun y w' => y = .returned (.tuple #[zSt, .int .i64 er]) ∧ Fx w.heap.size W w') :
    Calls Try.prog 25 #[.agg #[v0, v1, v2], .int .i64 k] w fun y w' => y = .returned (.tuple #[zSt, .int .i64 er]) ∧ Below w.heap.size w w' := by
  have HK := (((Kw.start w).box (vs := [v0, v1, v2]) (t := 25)).box (vs := [.int .i64 k]) (t := 3)).box (vs := [.slice none 0 0, .slice none 0 0, .int .i64 0]) (t := 25)
  simp only [World.size_alloc] at HK
  have hmf : ∀ (fn : Fn) (first cap : Array Value) (w : World), (Instr.makeFunc fn first cap).run Try.prog w = .ok (.func fn first cap) w := fun _ _ _ _ => rfl
  have HCH := Lib.hid hch
  clear hch
  go_enter Try.func25, Try.ntmps25
  go_wp2_with fail
  have hw : ∃ W, ((w.alloc (.cells #[v0, v1, v2] 25)).alloc (.cells #[.int .i64 k] 3)).alloc (.cells #[.slice none 0 0, .slice none 0 0, .int .i64 0] 25) = W := ⟨_, rfl⟩
  obtain ⟨W, hW⟩ := hw
  have hWs : W.heap.size = w.heap.size + 3 := by rw [← hW]; simp
  rw [hW] at HK ⊢
  clear hW
  refine (HCH.out W HK.base hWs (HK.row 1 rfl)).mono ?_
  rintro y w1 ⟨rfl, hfx⟩
  unfold zSt
  have h5 := (hfx.blk (w.heap.size + 1 + 1) (by omega) (by omega)).trans (HK.row 0 rfl)
  have hb1 : Below w.heap.size w w1 := HK.base.trans (hfx.below (B := w.heap.size) (by omega) (by omega))
  obtain ⟨r0, r1, r2, s0, s1, s2, rl⟩ := row3 h5
  have f1 := heap_setCell_same w1 (w.heap.size + 1 + 1) 0 _ 25 (.slice none 0 0) h5
  have f2 := heap_setCell_same _ (w.heap.size + 1 + 1) 1 _ 25 (.slice none 0 0) f1
  have f3 := heap_setCell_same _ (w.heap.size + 1 + 1) 2 _ 25 (.int .i64 0) f2
  obtain ⟨u0, u1, u2, _⟩ := row3 (x := .slice none 0 0) (y := .slice none 0 0) (z := .int .i64 0) (by simpa using f3)
  have HB3 := Lib.hid (((hb1.setCell (p := ⟨w.heap.size + 1 + 1, 0, none⟩) (by show _ ≤ w.heap.size + 1 + 1; omega) (.slice none 0 0)).setCell (p := ⟨w.heap.size + 1 + 1, 1, none⟩) (by show _ ≤ w.heap.size + 1 + 1; omega) (.slice none 0 0)).setCell (p := ⟨w.heap.size + 1 + 1, 2, none⟩) (by show _ ≤ w.heap.size + 1 + 1; omega) (.int .i64 0))
  clear hfx hb1 h5 f1 f2 f3 HCH HK hWs
  go_wp2
  exact bodyPost_ret (v := .tuple #[.agg #[.slice none 0 0, .slice none 0 0, .int .i64 0], .int .i64 er]) (by simp [results, Try.results25, go_sem, u0, u1, u2]) rfl ⟨rfl, HB3.out⟩
theorem block_n (a : Option Addr) (c : Nat) (a2 : Option Addr) (c2 : Nat) (qs : List Qu) (ts : List Th) (q k : Int) (w : World) (hs : ScIn w a c a2 c2 qs ts) (hck : chkB qs ts q = false) :
    Calls Try.prog 25 #[.agg #[.slice a qs.length c, .slice a2 ts.length c2, .int .i64 q], .int .i64 k] w fun y w' => y = .returned (.tuple #[zSt, .int .i64 50]) ∧ Below w.heap.size w w' :=
  block_e _ _ _ k 50 w fun W hW _ _ => (change_n a c a2 c2 qs ts q 54 _ W (hs.below hW) hck).mono fun _ _ h => ⟨h.1, Fx.of_below h.2⟩
theorem block_p (a : Option Addr) (c : Nat) (a2 : Option Addr) (c2 : Nat) (qs : List Qu) (ts : List Th) (q k : Int) (w : World) (hs : ScIn w a c a2 c2 qs ts) (hck : chkB qs ts q = true) (hk : NoTh ⟨qs, ts, q⟩ [1, 2] k) :
    Calls Try.prog 25 #[.agg #[.slice a qs.length c, .slice a2 ts.length c2, .int .i64 q], .int .i64 k] w fun y w' => y = .returned (.tuple #[zSt, .int .i64 51]) ∧ Below w.heap.size w w' :=
  block_e _ _ _ k 51 w fun W hW hz hr0 => change_p a c a2 c2 qs ts q 54 _ w.heap.size 51 W (hs.below hW) hck (by omega) (enters_of Try.func54 (by kernel_rfl) rfl)
    (fun b0 e bc cc at_ ct rs V hb0 hV hO hE => block1_n hO (ok_of_chk hck).m2 hk ((hV.block _ (by omega)).trans hr0))
set_option maxHeartbeats 4000000 in
set_option maxRecDepth 100000 in
theorem end_e (v0 v1 v2 : Value) (k er : Int) (w : World) (hch : ∀ W : World, Below w.heap.size w W → W.heap.size = w.heap.size + 3 → W.heap[w.heap.size + 1]? = some (.cells #[.int .i64 k] 3 (0, 0)) →
      Calls Try.prog 49 #[.agg #[v0, v1, v2], .func (.func 57) #[] #[.pointer (some ⟨w.heap.size + 1, 0, none⟩)]] W fun y w' => y = .returned (.tuple #[zSt, .int .i64 er]) ∧ Fx w.heap.size W w') :
    Calls Try.prog 27 #[.agg #[v0, v1, v2], .int .i64 k] w fun y w' => y = .returned (.tuple #[zSt, .int .i64 er]) ∧ Below w.heap.size w w' := by
  have HK := (((Kw.start w).box (vs := [v0, v1, v2]) (t := 25)).box (vs := [.int .i64 k]) (t := 3)).box (vs := [.slice none 0 0, .slice none 0 0, .int .i64 0]) (t := 25)
  simp only [World.size_alloc] at HK
  have hmf : ∀ (fn : Fn) (first cap : Array Value) (w : World), (Instr.makeFunc fn first cap).run Try.prog w = .ok (.func fn first cap) w := fun _ _ _ _ => rfl
  have HCH := Lib.hid hch
  clear hch
  go_enter Try.func27, Try.ntmps27
  go_wp2_with fail
  have hw : ∃ W, ((w.alloc (.cells #[v0, v1, v2] 25)).alloc (.cells #[.int .i64 k] 3)).alloc (.cells #[.slice none 0 0, .slice none 0 0, .int .i64 0] 25) = W := ⟨_, rfl⟩
  obtain ⟨W, hW⟩ := hw
  have hWs : W.heap.size = w.heap.size + 3 := by rw [← hW]; simp
  rw [hW] at HK ⊢
  clear hW
  refine (HCH.out W HK.base hWs (HK.row 1 rfl)).mono ?_
  rintro y w1 ⟨rfl, hfx⟩
  unfold zSt
  have h5 := (hfx.blk (w.heap.size + 1 + 1) (by omega) (by omega)).trans (HK.row 0 rfl)
  have hb1 : Below w.heap.size w w1 := HK.base.trans (hfx.below (B := w.heap.size) (by omega) (by omega))
  obtain ⟨r0, r1, r2, s0, s1, s2, rl⟩ := row3 h5
  have f1 := heap_setCell_same w1 (w.heap.size + 1 + 1) 0 _ 25 (.slice none 0 0) h5
  have f2 := heap_setCell_same _ (w.heap.size + 1 + 1) 1 _ 25 (.slice none 0 0) f1
  have f3 := heap_setCell_same _ (w.heap.size + 1 + 1) 2 _ 25 (.int .i64 0) f2
  obtain ⟨u0, u1, u2, _⟩ := row3 (x := .slice none 0 0) (y := .slice none 0 0) (z := .int .i64 0) (by simpa using f3)
  have HB3 := Lib.hid (((hb1.setCell (p := ⟨w.heap.size + 1 + 1, 0, none⟩) (by show _ ≤ w.heap.size + 1 + 1; omega) (.slice none 0 0)).setCell (p := ⟨w.heap.size + 1 + 1, 1, none⟩) (by show _ ≤ w.heap.size + 1 + 1; omega) (.slice none 0 0)).setCell (p := ⟨w.heap.size + 1 + 1, 2, none⟩) (by show _ ≤ w.heap.size + 1 + 1; omega) (.int .i64 0))
  clear hfx hb1 h5 f1 f2 f3 HCH HK hWs
  go_wp2
  exact bodyPost_ret (v := .tuple #[.agg #[.slice none 0 0, .slice none 0 0, .int .i64 0], .int .i64 er]) (by simp [results, Try.results27, go_sem, u0, u1, u2]) rfl ⟨rfl, HB3.out⟩
theorem end_n (a : Option Addr) (c : Nat) (a2 : Option Addr) (c2 : Nat) (qs : List Qu) (ts : List Th) (q k : Int) (w : World) (hs : ScIn w a c a2 c2 qs ts) (hck : chkB qs ts q = false) :
    Calls Try.prog 27 #[.agg #[.slice a qs.length c, .slice a2 ts.length c2, .int .i64 q], .int .i64 k] w fun y w' => y = .returned (.tuple #[zSt, .int .i64 50]) ∧ Below w.heap.size w w' :=
  end_e _ _ _ k 50 w fun W hW _ _ => (change_n a c a2 c2 qs ts q 57 _ W (hs.below hW) hck).mono fun _ _ h => ⟨h.1, Fx.of_below h.2⟩
theorem end_p (a : Option Addr) (c : Nat) (a2 : Option Addr) (c2 : Nat) (qs : List Qu) (ts : List Th) (q k : Int) (w : World) (hs : ScIn w a c a2 c2 qs ts) (hck : chkB qs ts q = true) (hk : NoTh ⟨qs, ts, q⟩ [1, 2, 3] k) :
    Calls Try.prog 27 #[.agg #[.slice a qs.length c, .slice a2 ts.length c2, .int .i64 q], .int .i64 k] w fun y w' => y = .returned (.tuple #[zSt, .int .i64 51]) ∧ Below w.heap.size w w' :=
  end_e _ _ _ k 51 w fun W hW hz hr0 => change_p a c a2 c2 qs ts q 57 _ w.heap.size 51 W (hs.below hW) hck (by omega) (enters_of Try.func57 (by kernel_rfl) rfl)
    (fun b0 e bc cc at_ ct rs V hb0 hV hO hE => end1_n hO (ok_of_chk hck).m2 hk ((hV.block _ (by omega)).trans hr0))
set_option maxHeartbeats 4000000 in
set_option maxRecDepth 100000 in
theorem setPri_e (v0 v1 v2 : Value) (k p er : Int) (w : World) (hch : ∀ W : World, Below w.heap.size w W → W.heap.size = w.heap.size + 4 → W.heap[w.heap.size + 1]? = some (.cells #[.int .i64 k] 3 (0, 0)) → W.heap[w.heap.size + 1 + 1]? = some (.cells #[.int .i64 p] 3 (0, 0)) →
      Calls Try.prog 49 #[.agg #[v0, v1, v2], .func (.func 58) #[] #[.pointer (some ⟨w.heap.size + 1, 0, none⟩), .pointer (some ⟨w.heap.size + 1 + 1, 0, none⟩)]] W fun y w' => y = .returned (.tuple #[zSt, .int .i64 er]) ∧ Fx w.heap.size W w') :
    Calls Try.prog 28 #[.agg #[v0, v1, v2], .int .i64 k, .int .i64 p] w fun y w' => y = .returned (.tuple #[zSt, .int .i64 er]) ∧ Below w.heap.size w w' := by
  have HK := (((Kw.start w).box (vs := [v0, v1, v2]) (t := 25)).box (vs := [.int .i64 k]) (t := 3).box (vs := [.int .i64 p]) (t := 3)).box (vs := [.slice none 0 0, .slice none 0 0, .int .i64 0]) (t := 25)
  simp only [World.size_alloc] at HK
  have hmf : ∀ (fn : Fn) (first cap : Array Value) (w : World), (Instr.makeFunc fn first cap).run Try.prog w = .ok (.func fn first cap) w := fun _ _ _ _ => rfl
  have HCH := Lib.hid hch
  clear hch
  go_enter Try.func28, Try.ntmps28
  go_wp2_with fail
  have hw : ∃ W, (((w.alloc (.cells #[v0, v1, v2] 25)).alloc (.cells #[.int .i64 k] 3)).alloc (.cells #[.int .i64 p] 3)).alloc (.cells #[.slice none 0 0, .slice none 0 0, .int .i64 0] 25) = W := ⟨_, rfl⟩
  obtain ⟨W, hW⟩ := hw
  have hWs : W.heap.size = w.heap.size + 4 := by rw [← hW]; simp
  rw [hW] at HK ⊢
  clear hW
  refine (HCH.out W HK.base hWs (HK.row 2 rfl) (HK.row 1 rfl)).mono ?_
  rintro y w1 ⟨rfl, hfx⟩
  unfold zSt
  have h5 := (hfx.blk (w.heap.size + 1 + 1 + 1) (by omega) (by omega)).trans (HK.row 0 rfl)
  have hb1 : Below w.heap.size w w1 := HK.base.trans (hfx.below (B := w.heap.size) (by omega) (by omega))
  obtain ⟨r0, r1, r2, s0, s1, s2, rl⟩ := row3 h5
  have f1 := heap_setCell_same w1 (w.heap.size + 1 + 1 + 1) 0 _ 25 (.slice none 0 0) h5
  have f2 := heap_setCell_same _ (w.heap.size + 1 + 1 + 1) 1 _ 25 (.slice none 0 0) f1
  have f3 := heap_setCell_same _ (w.heap.size + 1 + 1 + 1) 2 _ 25 (.int .i64 0) f2
  obtain ⟨u0, u1, u2, _⟩ := row3 (x := .slice none 0 0) (y := .slice none 0 0) (z := .int .i64 0) (by simpa using f3)
  have HB3 := Lib.hid (((hb1.setCell (p := ⟨w.heap.size + 1 + 1 + 1, 0, none⟩) (by show _ ≤ w.heap.size + 1 + 1 + 1; omega) (.slice none 0 0)).setCell (p := ⟨w.heap.size + 1 + 1 + 1, 1, none⟩) (by show _ ≤ w.heap.size + 1 + 1 + 1; omega) (.slice none 0 0)).setCell (p := ⟨w.heap.size + 1 + 1 + 1, 2, none⟩) (by show _ ≤ w.heap.size + 1 + 1 + 1; omega) (.int .i64 0))
  clear hfx hb1 h5 f1 f2 f3 HCH HK hWs
  go_wp2
  exact bodyPost_ret (v := .tuple #[.agg #[.slice none 0 0, .slice none 0 0, .int .i64 0], .int .i64 er]) (by simp [results, Try.results28, go_sem, u0, u1, u2]) rfl ⟨rfl, HB3.out⟩
theorem setPri_n (a : Option Addr) (c : Nat) (a2 : Option Addr) (c2 : Nat) (qs : List Qu) (ts : List Th) (q k p : Int) (w : World) (hs : ScIn w a c a2 c2 qs ts) (hck : chkB qs ts q = false) :
    Calls Try.prog 28 #[.agg #[.slice a qs.length c, .slice a2 ts.length c2, .int .i64 q], .int .i64 k, .int .i64 p] w fun y w' => y = .returned (.tuple #[zSt, .int .i64 50]) ∧ Below w.heap.size w w' :=
  setPri_e _ _ _ k p 50 w fun W hW _ _ _ => (change_n a c a2 c2 qs ts q 58 _ W (hs.below hW) hck).mono fun _ _ h => ⟨h.1, Fx.of_below h.2⟩
theorem setPri_p (a : Option Addr) (c : Nat) (a2 : Option Addr) (c2 : Nat) (qs : List Qu) (ts : List Th) (q k p : Int) (w : World) (hs : ScIn w a c a2 c2 qs ts) (hck : chkB qs ts q = true) (hk : NoTh ⟨qs, ts, q⟩ [1, 2, 3] k) :
    Calls Try.prog 28 #[.agg #[.slice a qs.length c, .slice a2 ts.length c2, .int .i64 q], .int .i64 k, .int .i64 p] w fun y w' => y = .returned (.tuple #[zSt, .int .i64 51]) ∧ Below w.heap.size w w' :=
  setPri_e _ _ _ k p 51 w fun W hW hz hr0 hr1 => change_p a c a2 c2 qs ts q 58 _ w.heap.size 51 W (hs.below hW) hck (by omega) (enters_of Try.func58 (by kernel_rfl) rfl)
    (fun b0 e bc cc at_ ct rs V hb0 hV hO hE => setPri1_n hO (ok_of_chk hck).m2 hk ((hV.block _ (by omega)).trans hr0))
end Go.Proofs.Ytggikbcgijmhbaa
