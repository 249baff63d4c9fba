/- WHAT IS PROVED: sched.Switch, sched.Tick, sched.Due on states. CONDITIONS: as the cells lie. -/
import Derived.Test.YtggikbcgijmhbaaR
set_option linter.unusedSimpArgs false
set_option linter.unusedVariables false
namespace Go.Proofs.Ytggikbcgijmhbaa
open Go Go.RowKit Go.QrBits Go.QrMem
attribute [local go_sem] reg_cell reg_frozen reg_setCell reg_lt reg_lt_add reg_drew reg_of_drew
/-- What an operation with a further result hands back. -/
def Owned (z : Nat) (s : St) (g d : Nat) (b : Option Addr) (d2 : Nat) (w : World) : Prop := ∃ (B b0 : Nat) (rs : List (Option Addr × Nat)), z ≤ B ∧ Own B b0 g d b d2 rs s w
def Res3 (s : St) (v : Value) (w : World) (y : Ending) (w' : World) : Prop :=
  ∃ (g d : Nat) (b : Option Addr) (d2 : Nat), y = .returned (.tuple #[.agg #[.slice (some ⟨g, 0, none⟩) s.qs.length d, .slice b s.ts.length d2, .int .i64 s.q], v, .int .i64 0]) ∧ ScIn w' (some ⟨g, 0, none⟩) d b d2 s.qs s.ts ∧ Below w.heap.size w w' ∧ Owned w.heap.size s g d b d2 w'
theorem ScIn.same {w w' : World} {a : Option Addr} {c : Nat} {a2 : Option Addr} {c2 : Nat} {qs : List Qu} {ts : List Th} (h : ScIn w a c a2 c2 qs ts) (hq : Below w.heap.size w w') : ScIn w' a c a2 c2 qs ts := h.below hq
theorem Fx.below {x : Nat} {w w' : World} {B : Nat} (h : Fx x w w') (hB : B ≤ w.heap.size) (hx : B ≤ x) : Below B w w' := ⟨h.os, h.tape, h.output, h.size, fun k hk => h.blk k (by omega) (by omega)⟩

set_option maxHeartbeats 4000000 in
set_option maxRecDepth 100000 in
theorem tick_y (a : Option Addr) (c : Nat) (a2 : Option Addr) (c2 : Nat) (qs : List Qu) (ts : List Th) (q : Int) (k : Nat) (w : World) (hs : ScIn w a c a2 c2 qs ts) (hck : chkB qs ts q = true) (hk : k < qs.length) :
    Calls Try.prog 23 #[.agg #[.slice a qs.length c, .slice a2 ts.length c2, .int .i64 q], .int .i64 k] w (Res3 (tickM ⟨qs, ts, q⟩ k) (.bool (dueM (tickM ⟨qs, ts, q⟩ k) k)) w) := by
  have hok := ok_of_chk hck
  have hok2 : Ok (tickM ⟨qs, ts, q⟩ k) := tick_ok hok hk
  have HS := Lib.hid hs
  have HC := Lib.hid hck
  have HK := ((Kw.start w).box (vs := [.slice a qs.length c, .slice a2 ts.length c2, .int .i64 q]) (t := 25)).box (vs := [.int .i64 k]) (t := 3)
  replace HK := (HK.box (vs := [.slice none 0 0, .slice none 0 0, .int .i64 0]) (t := 25)).box (vs := [.bool false]) (t := 4)
  simp only [World.size_alloc] at HK
  have hmf : ∀ (fn : Fn) (first cap : Array Value) (w : World), (Instr.makeFunc fn first cap).run Try.prog w = .ok (.func fn first cap) w := fun _ _ _ _ => rfl
  have HOK := Lib.hid hok
  have HOK2 := Lib.hid hok2
  clear hs hck hok hok2
  go_enter Try.func23, Try.ntmps23
  go_wp2_with fail
  have hw : ∃ W, (((w.alloc (.cells #[.slice a qs.length c, .slice a2 ts.length c2, .int .i64 q] 25)).alloc (.cells #[.int .i64 k] 3)).alloc (.cells #[.slice none 0 0, .slice none 0 0, .int .i64 0] 25)).alloc (.cells #[.bool false] 4) = W := ⟨_, rfl⟩
  obtain ⟨W, hW⟩ := hw
  have hWs : W.heap.size = w.heap.size + 4 := by rw [← hW]; simp
  rw [hW] at HK ⊢
  clear hW
  have hch := change_y a c a2 c2 qs ts q 53 #[.pointer (some ⟨w.heap.size + 1, 0, none⟩), .pointer (some ⟨w.heap.size + 1 + 1 + 1, 0, none⟩)] (w.heap.size + 1 + 1 + 1) (tickM ⟨qs, ts, q⟩ k) (IsB (w.heap.size + 1 + 1 + 1) (dueM (tickM ⟨qs, ts, q⟩ k) k)) W (HS.out.below HK.base) HC.out (stable_B _ _ (by omega)) (by omega) (enters_of Try.func53 (by kernel_rfl) rfl)
    (fun b0 e bc cc at_ ct rs V hb0 hV hO hE => tick1_c hE hO HOK.out hk (by omega) ((hV.block _ (by omega)).trans (HK.row 2 rfl)) _ ((hV.block _ (by omega)).trans (HK.row 0 rfl)))
  have HCH := Lib.hid hch
  clear hch
  refine HCH.out.mono ?_
  rintro y w1 ⟨g, d, b, d2, rfl, ⟨B, b0, rs, hBz, hsc⟩, hfx, hI⟩
  have hrow4 := (hfx.blk (w.heap.size + 1 + 1) (by omega) (by omega)).trans (HK.row 1 rfl)
  have hb1 : Below w.heap.size w w1 := HK.base.trans (hfx.below (B := w.heap.size) (by omega) (by omega))
  have HSC := Lib.hid hsc
  have HB1 := Lib.hid hb1
  have hz1 : w.heap.size + 4 ≤ w1.heap.size := by have := hfx.size; omega
  have hBw : w.heap.size + 4 ≤ B := by omega
  obtain ⟨i0, i1, il⟩ := cell0 hI
  obtain ⟨r0, r1, r2, s0, s1, s2, rl⟩ := row3 hrow4
  have HR4 := Lib.hid hrow4
  generalize tickM ⟨qs, ts, q⟩ k = st at *
  clear hsc hfx hb1 hI hrow4 HCH HK hWs
  go_wp2_with fail
  have hw2 : Below w1.heap.size w1 (w1.alloc (.cells #[.slice (some ⟨g, 0, none⟩) st.qs.length d, .slice b st.ts.length d2, .int .i64 st.q] 25)) := b_alloc (Below.refl _ _)
  have hx2 : (w1.alloc (.cells #[.slice (some ⟨g, 0, none⟩) st.qs.length d, .slice b st.ts.length d2, .int .i64 st.q] 25)).heap[w1.heap.size]? = some (.cells #[.slice (some ⟨g, 0, none⟩) st.qs.length d, .slice b st.ts.length d2, .int .i64 st.q] 25 (0, 0)) := heap_alloc_new w1 _
  obtain ⟨e0, e1, e2, _, _, _, el⟩ := row3 hx2
  replace i0 := (hw2.cell (p := ⟨w.heap.size + 1 + 1 + 1, 0, none⟩) il).trans i0
  have HR5 := Lib.hid ((hw2.block _ rl).trans HR4.out)
  have HSC2 := Lib.hid (HSC.out.below hw2)
  have HB2 := Lib.hid (Below.tail HB1.out hw2)
  generalize (w1.alloc (.cells #[.slice (some ⟨g, 0, none⟩) st.qs.length d, .slice b st.ts.length d2, .int .i64 st.q] 25)) = w2 at *
  have il2 : w.heap.size + 1 + 1 + 1 < w2.heap.size := Nat.lt_of_lt_of_le il hw2.size
  clear hw2 hx2 i1 il HR4 HSC HB1 r0 r1 r2 s0 s1 s2 rl
  have hz : w.heap.size + 4 ≤ w1.heap.size := hz1
  generalize w1.heap.size = z at *
  refine wp_region_any (by kernel_rfl) (wpAny_of_held (S := fun W' : World => W'.cell? ⟨z, 0, none⟩ = some (.slice (some ⟨g, 0, none⟩) st.qs.length d) ∧ W'.cell? ⟨z, 1, none⟩ = some (.slice b st.ts.length d2) ∧ W'.cell? ⟨z, 2, none⟩ = some (.int .i64 st.q) ∧ W'.cell? ⟨w.heap.size + 1 + 1 + 1, 0, none⟩ = some (.bool (dueM st k))) _ _ _ _ ?_)
  change wpAnyH _ _ _ _ _ _ _ _ (World.drew _)
  have hbp : Below w2.heap.size w2 w2.drew := (Below.refl _ _).drew
  have HS0 : w2.drew.cell? ⟨z, 0, none⟩ = some (.slice (some ⟨g, 0, none⟩) st.qs.length d) ∧ w2.drew.cell? ⟨z, 1, none⟩ = some (.slice b st.ts.length d2) ∧ w2.drew.cell? ⟨z, 2, none⟩ = some (.int .i64 st.q) ∧ w2.drew.cell? ⟨w.heap.size + 1 + 1 + 1, 0, none⟩ = some (.bool (dueM st k)) := ⟨e0, e1, e2, i0⟩
  have h5 := (hbp.block _ (Array.getElem?_eq_some_iff.1 HR5.out).1).trans HR5.out
  have hsc3 := HSC2.out.below hbp
  have HB2' := Below.tail HB2.out hbp
  generalize w2.drew = w3 at *
  obtain ⟨r0, r1, r2, s0, s1, s2, rl⟩ := row3 h5
  have f1 := heap_setCell_same w3 (w.heap.size + 1 + 1) 0 _ 25 (.slice (some ⟨g, 0, none⟩) st.qs.length d) h5
  have f2 := heap_setCell_same _ (w.heap.size + 1 + 1) 1 _ 25 (.slice b st.ts.length d2) f1
  have f3 := heap_setCell_same _ (w.heap.size + 1 + 1) 2 _ 25 (.int .i64 st.q) f2
  obtain ⟨u0, u1, u2, _⟩ := row3 (x := .slice (some ⟨g, 0, none⟩) st.qs.length d) (y := .slice b st.ts.length d2) (z := .int .i64 st.q) (by simpa using f3)
  have HB3 : Hid (Below w.heap.size w (((w3.setCell ⟨w.heap.size + 1 + 1, 0, none⟩ (.slice (some ⟨g, 0, none⟩) st.qs.length d)).setCell ⟨w.heap.size + 1 + 1, 1, none⟩ (.slice b st.ts.length d2)).setCell ⟨w.heap.size + 1 + 1, 2, none⟩ (.int .i64 st.q))) :=
    Lib.hid (((HB2'.setCell (by show _ ≤ w.heap.size + 1 + 1; omega) _).setCell (by show _ ≤ w.heap.size + 1 + 1; omega) _).setCell (by show _ ≤ w.heap.size + 1 + 1; omega) _)
  have HOW4 : Hid (Owned w.heap.size st g d b d2 (((w3.setCell ⟨w.heap.size + 1 + 1, 0, none⟩ (.slice (some ⟨g, 0, none⟩) st.qs.length d)).setCell ⟨w.heap.size + 1 + 1, 1, none⟩ (.slice b st.ts.length d2)).setCell ⟨w.heap.size + 1 + 1, 2, none⟩ (.int .i64 st.q))) := Lib.hid ⟨B, b0, rs, by omega, (((hsc3.setXj (by omega) 0 _).setXj (by omega) 1 _).setXj (by omega) 2 _)⟩
  have HSC4 : Hid (ScIn (((w3.setCell ⟨w.heap.size + 1 + 1, 0, none⟩ (.slice (some ⟨g, 0, none⟩) st.qs.length d)).setCell ⟨w.heap.size + 1 + 1, 1, none⟩ (.slice b st.ts.length d2)).setCell ⟨w.heap.size + 1 + 1, 2, none⟩ (.int .i64 st.q)) (some ⟨g, 0, none⟩) d b d2 st.qs st.ts) := Lib.hid ((((hsc3.setXj (by omega) 0 _).setXj (by omega) 1 _).setXj (by omega) 2 _).scIn (short_of_ok HOK2.out))
  have hfar : ∀ (k o : Nat), k ≠ w.heap.size + 1 + 1 → (((w3.setCell ⟨w.heap.size + 1 + 1, 0, none⟩ (.slice (some ⟨g, 0, none⟩) st.qs.length d)).setCell ⟨w.heap.size + 1 + 1, 1, none⟩ (.slice b st.ts.length d2)).setCell ⟨w.heap.size + 1 + 1, 2, none⟩ (.int .i64 st.q)).cell? ⟨k, o, none⟩ = w3.cell? ⟨k, o, none⟩ := fun k o hk =>
    World.cell?_of_block (w := w3) (a := ⟨k, o, none⟩) ((Below.heap_setCell _ _ _ _ hk).trans ((Below.heap_setCell _ _ _ _ hk).trans (Below.heap_setCell _ _ _ _ hk)))
  have HSF : Hid ((((w3.setCell ⟨w.heap.size + 1 + 1, 0, none⟩ (.slice (some ⟨g, 0, none⟩) st.qs.length d)).setCell ⟨w.heap.size + 1 + 1, 1, none⟩ (.slice b st.ts.length d2)).setCell ⟨w.heap.size + 1 + 1, 2, none⟩ (.int .i64 st.q)).cell? ⟨z, 0, none⟩ = some (.slice (some ⟨g, 0, none⟩) st.qs.length d) ∧ (((w3.setCell ⟨w.heap.size + 1 + 1, 0, none⟩ (.slice (some ⟨g, 0, none⟩) st.qs.length d)).setCell ⟨w.heap.size + 1 + 1, 1, none⟩ (.slice b st.ts.length d2)).setCell ⟨w.heap.size + 1 + 1, 2, none⟩ (.int .i64 st.q)).cell? ⟨z, 1, none⟩ = some (.slice b st.ts.length d2) ∧ (((w3.setCell ⟨w.heap.size + 1 + 1, 0, none⟩ (.slice (some ⟨g, 0, none⟩) st.qs.length d)).setCell ⟨w.heap.size + 1 + 1, 1, none⟩ (.slice b st.ts.length d2)).setCell ⟨w.heap.size + 1 + 1, 2, none⟩ (.int .i64 st.q)).cell? ⟨z, 2, none⟩ = some (.int .i64 st.q) ∧ (((w3.setCell ⟨w.heap.size + 1 + 1, 0, none⟩ (.slice (some ⟨g, 0, none⟩) st.qs.length d)).setCell ⟨w.heap.size + 1 + 1, 1, none⟩ (.slice b st.ts.length d2)).setCell ⟨w.heap.size + 1 + 1, 2, none⟩ (.int .i64 st.q)).cell? ⟨w.heap.size + 1 + 1 + 1, 0, none⟩ = some (.bool (dueM st k))) :=
    Lib.hid ⟨(hfar z 0 (by omega)).trans HS0.1, (hfar z 1 (by omega)).trans HS0.2.1, (hfar z 2 (by omega)).trans HS0.2.2.1, (hfar _ 0 (by omega)).trans HS0.2.2.2⟩
  clear hfar h5 f1 f2 f3 hsc3 hbp e0 e1 e2 i0 HSC2 HB2 HB2' HR5 el
  refine wpAnyH_take (i := 0) (oi := _) (v := .agg #[.slice (some ⟨g, 0, none⟩) st.qs.length d, .slice b st.ts.length d2, .int .i64 st.q]) rfl (by kernel_rfl) (by kernel_rfl) (by kernel_rfl) (fun _ _ _ h => h) (Or.inl ⟨by rfl, ?_⟩) HS0 ?_
  · intro W' hW'
    have h := hW'.1; have h2 := hW'.2.1; have h3 := hW'.2.2.1; go_simp
  try simp only [Act.put, List.setIfInBounds_toArray, List.set_cons_zero, List.set_cons_succ]
  refine wpAnyH_take (i := 1) (oi := _) (v := .bool (dueM st k)) rfl (by kernel_rfl) (by kernel_rfl) (by kernel_rfl) (fun _ _ _ h => h) (Or.inl ⟨by rfl, ?_⟩) HS0 ?_
  · intro W' hW'
    have h := hW'.2.2.2; go_simp
  try simp only [Act.put, List.setIfInBounds_toArray, List.set_cons_zero, List.set_cons_succ]
  refine wpAnyH_take (i := 2) (oi := _) (v := .int .i64 0) rfl (by kernel_rfl) (by kernel_rfl) (by kernel_rfl) (fun _ _ _ h => h) (Or.inl ⟨by rfl, ?_⟩) HS0 ?_
  · intro W' hW'
    go_simp
  try simp only [Act.put, List.setIfInBounds_toArray, List.set_cons_zero, List.set_cons_succ]
  refine wpAnyH_ready (rs := [3]) (by kernel_rfl) (by simp) ?_
  refine AllReadyH.cons (o := _) rfl (fun K hK => ?_) AllReadyH.nil
  go_simp
  refine hK.out _ _ HSF.out (fun hHeld => ?_)
  clear hK K hHeld
  try simp only [Act.put, List.setIfInBounds_toArray, List.set_cons_zero, List.set_cons_succ]
  refine wpAnyH_ready (rs := [4]) (by kernel_rfl) (by simp) ?_
  refine AllReadyH.cons (o := _) rfl (fun K hK => ?_) AllReadyH.nil
  go_simp
  refine hK.out _ _ HSF.out (fun hHeld => ?_)
  clear hK K hHeld
  try simp only [Act.put, List.setIfInBounds_toArray, List.set_cons_zero, List.set_cons_succ]
  refine wpAnyH_ready (rs := [5]) (by kernel_rfl) (by simp) ?_
  refine AllReadyH.cons (o := _) rfl (fun K hK => ?_) AllReadyH.nil
  go_simp
  refine hK.out _ _ HSF.out (fun hHeld => ?_)
  clear hK K hHeld
  refine wpAnyH_done (by kernel_rfl) ?_ _
  go_wp2
  exact bodyPost_ret (v := .tuple #[.agg #[.slice (some ⟨g, 0, none⟩) st.qs.length d, .slice b st.ts.length d2, .int .i64 st.q], .bool (dueM st k), .int .i64 0]) (by simp [results, Try.results23, go_sem, u0, u1, u2]) rfl ⟨g, d, b, d2, rfl, HSC4.out, HB3.out, HOW4.out⟩

set_option maxHeartbeats 4000000 in
set_option maxRecDepth 100000 in
theorem switch_y (a : Option Addr) (c : Nat) (a2 : Option Addr) (c2 : Nat) (qs : List Qu) (ts : List Th) (q : Int) (k : Nat) (w : World) (hs : ScIn w a c a2 c2 qs ts) (hck : chkB qs ts q = true) (hk : k < qs.length) :
    Calls Try.prog 22 #[.agg #[.slice a qs.length c, .slice a2 ts.length c2, .int .i64 q], .int .i64 k] w (Res3 (switchM ⟨qs, ts, q⟩ k) (.int .i64 (quOf (switchM ⟨qs, ts, q⟩ k).qs (k : Int)).run) w) := by
  have hok := ok_of_chk hck
  have hok2 : Ok (switchM ⟨qs, ts, q⟩ k) := switch_ok hok hk
  have HS := Lib.hid hs
  have HC := Lib.hid hck
  have HK := ((Kw.start w).box (vs := [.slice a qs.length c, .slice a2 ts.length c2, .int .i64 q]) (t := 25)).box (vs := [.int .i64 k]) (t := 3)
  replace HK := (HK.box (vs := [.slice none 0 0, .slice none 0 0, .int .i64 0]) (t := 25)).box (vs := [.int .i64 0]) (t := 3)
  simp only [World.size_alloc] at HK
  have hmf : ∀ (fn : Fn) (first cap : Array Value) (w : World), (Instr.makeFunc fn first cap).run Try.prog w = .ok (.func fn first cap) w := fun _ _ _ _ => rfl
  have HOK := Lib.hid hok
  have HOK2 := Lib.hid hok2
  clear hs hck hok hok2
  go_enter Try.func22, Try.ntmps22
  go_wp2_with fail
  have hw : ∃ W, (((w.alloc (.cells #[.slice a qs.length c, .slice a2 ts.length c2, .int .i64 q] 25)).alloc (.cells #[.int .i64 k] 3)).alloc (.cells #[.slice none 0 0, .slice none 0 0, .int .i64 0] 25)).alloc (.cells #[.int .i64 0] 3) = W := ⟨_, rfl⟩
  obtain ⟨W, hW⟩ := hw
  have hWs : W.heap.size = w.heap.size + 4 := by rw [← hW]; simp
  rw [hW] at HK ⊢
  clear hW
  have hch := change_y a c a2 c2 qs ts q 50 #[.pointer (some ⟨w.heap.size + 1, 0, none⟩), .pointer (some ⟨w.heap.size + 1 + 1 + 1, 0, none⟩)] (w.heap.size + 1 + 1 + 1) (switchM ⟨qs, ts, q⟩ k) (IsI (w.heap.size + 1 + 1 + 1) ((quOf (switchM ⟨qs, ts, q⟩ k).qs (k : Int)).run)) W (HS.out.below HK.base) HC.out (stable_I _ _ (by omega)) (by omega) (enters_of Try.func50 (by kernel_rfl) rfl)
    (fun b0 e bc cc at_ ct rs V hb0 hV hO hE => switch1_c hE hO HOK.out hk (by omega) ((hV.block _ (by omega)).trans (HK.row 2 rfl)) _ ((hV.block _ (by omega)).trans (HK.row 0 rfl)))
  have HCH := Lib.hid hch
  clear hch
  refine HCH.out.mono ?_
  rintro y w1 ⟨g, d, b, d2, rfl, ⟨B, b0, rs, hBz, hsc⟩, hfx, hI⟩
  have hrow4 := (hfx.blk (w.heap.size + 1 + 1) (by omega) (by omega)).trans (HK.row 1 rfl)
  have hb1 : Below w.heap.size w w1 := HK.base.trans (hfx.below (B := w.heap.size) (by omega) (by omega))
  have HSC := Lib.hid hsc
  have HB1 := Lib.hid hb1
  have hz1 : w.heap.size + 4 ≤ w1.heap.size := by have := hfx.size; omega
  have hBw : w.heap.size + 4 ≤ B := by omega
  obtain ⟨i0, i1, il⟩ := cell0 hI
  obtain ⟨r0, r1, r2, s0, s1, s2, rl⟩ := row3 hrow4
  have HR4 := Lib.hid hrow4
  generalize switchM ⟨qs, ts, q⟩ k = st at *
  clear hsc hfx hb1 hI hrow4 HCH HK hWs
  go_wp2_with fail
  have hw2 : Below w1.heap.size w1 (w1.alloc (.cells #[.slice (some ⟨g, 0, none⟩) st.qs.length d, .slice b st.ts.length d2, .int .i64 st.q] 25)) := b_alloc (Below.refl _ _)
  have hx2 : (w1.alloc (.cells #[.slice (some ⟨g, 0, none⟩) st.qs.length d, .slice b st.ts.length d2, .int .i64 st.q] 25)).heap[w1.heap.size]? = some (.cells #[.slice (some ⟨g, 0, none⟩) st.qs.length d, .slice b st.ts.length d2, .int .i64 st.q] 25 (0, 0)) := heap_alloc_new w1 _
  obtain ⟨e0, e1, e2, _, _, _, el⟩ := row3 hx2
  replace i0 := (hw2.cell (p := ⟨w.heap.size + 1 + 1 + 1, 0, none⟩) il).trans i0
  have HR5 := Lib.hid ((hw2.block _ rl).trans HR4.out)
  have HSC2 := Lib.hid (HSC.out.below hw2)
  have HB2 := Lib.hid (Below.tail HB1.out hw2)
  generalize (w1.alloc (.cells #[.slice (some ⟨g, 0, none⟩) st.qs.length d, .slice b st.ts.length d2, .int .i64 st.q] 25)) = w2 at *
  have il2 : w.heap.size + 1 + 1 + 1 < w2.heap.size := Nat.lt_of_lt_of_le il hw2.size
  clear hw2 hx2 i1 il HR4 HSC HB1 r0 r1 r2 s0 s1 s2 rl
  have hz : w.heap.size + 4 ≤ w1.heap.size := hz1
  generalize w1.heap.size = z at *
  refine wp_region_any (by kernel_rfl) (wpAny_of_held (S := fun W' : World => W'.cell? ⟨z, 0, none⟩ = some (.slice (some ⟨g, 0, none⟩) st.qs.length d) ∧ W'.cell? ⟨z, 1, none⟩ = some (.slice b st.ts.length d2) ∧ W'.cell? ⟨z, 2, none⟩ = some (.int .i64 st.q) ∧ W'.cell? ⟨w.heap.size + 1 + 1 + 1, 0, none⟩ = some (.int .i64 (quOf st.qs (k : Int)).run)) _ _ _ _ ?_)
  change wpAnyH _ _ _ _ _ _ _ _ (World.drew _)
  have hbp : Below w2.heap.size w2 w2.drew := (Below.refl _ _).drew
  have HS0 : w2.drew.cell? ⟨z, 0, none⟩ = some (.slice (some ⟨g, 0, none⟩) st.qs.length d) ∧ w2.drew.cell? ⟨z, 1, none⟩ = some (.slice b st.ts.length d2) ∧ w2.drew.cell? ⟨z, 2, none⟩ = some (.int .i64 st.q) ∧ w2.drew.cell? ⟨w.heap.size + 1 + 1 + 1, 0, none⟩ = some (.int .i64 (quOf st.qs (k : Int)).run) := ⟨e0, e1, e2, i0⟩
  have h5 := (hbp.block _ (Array.getElem?_eq_some_iff.1 HR5.out).1).trans HR5.out
  have hsc3 := HSC2.out.below hbp
  have HB2' := Below.tail HB2.out hbp
  generalize w2.drew = w3 at *
  obtain ⟨r0, r1, r2, s0, s1, s2, rl⟩ := row3 h5
  have f1 := heap_setCell_same w3 (w.heap.size + 1 + 1) 0 _ 25 (.slice (some ⟨g, 0, none⟩) st.qs.length d) h5
  have f2 := heap_setCell_same _ (w.heap.size + 1 + 1) 1 _ 25 (.slice b st.ts.length d2) f1
  have f3 := heap_setCell_same _ (w.heap.size + 1 + 1) 2 _ 25 (.int .i64 st.q) f2
  obtain ⟨u0, u1, u2, _⟩ := row3 (x := .slice (some ⟨g, 0, none⟩) st.qs.length d) (y := .slice b st.ts.length d2) (z := .int .i64 st.q) (by simpa using f3)
  have HB3 : Hid (Below w.heap.size w (((w3.setCell ⟨w.heap.size + 1 + 1, 0, none⟩ (.slice (some ⟨g, 0, none⟩) st.qs.length d)).setCell ⟨w.heap.size + 1 + 1, 1, none⟩ (.slice b st.ts.length d2)).setCell ⟨w.heap.size + 1 + 1, 2, none⟩ (.int .i64 st.q))) :=
    Lib.hid (((HB2'.setCell (by show _ ≤ w.heap.size + 1 + 1; omega) _).setCell (by show _ ≤ w.heap.size + 1 + 1; omega) _).setCell (by show _ ≤ w.heap.size + 1 + 1; omega) _)
  have HOW4 : Hid (Owned w.heap.size st g d b d2 (((w3.setCell ⟨w.heap.size + 1 + 1, 0, none⟩ (.slice (some ⟨g, 0, none⟩) st.qs.length d)).setCell ⟨w.heap.size + 1 + 1, 1, none⟩ (.slice b st.ts.length d2)).setCell ⟨w.heap.size + 1 + 1, 2, none⟩ (.int .i64 st.q))) := Lib.hid ⟨B, b0, rs, by omega, (((hsc3.setXj (by omega) 0 _).setXj (by omega) 1 _).setXj (by omega) 2 _)⟩
  have HSC4 : Hid (ScIn (((w3.setCell ⟨w.heap.size + 1 + 1, 0, none⟩ (.slice (some ⟨g, 0, none⟩) st.qs.length d)).setCell ⟨w.heap.size + 1 + 1, 1, none⟩ (.slice b st.ts.length d2)).setCell ⟨w.heap.size + 1 + 1, 2, none⟩ (.int .i64 st.q)) (some ⟨g, 0, none⟩) d b d2 st.qs st.ts) := Lib.hid ((((hsc3.setXj (by omega) 0 _).setXj (by omega) 1 _).setXj (by omega) 2 _).scIn (short_of_ok HOK2.out))
  have hfar : ∀ (k o : Nat), k ≠ w.heap.size + 1 + 1 → (((w3.setCell ⟨w.heap.size + 1 + 1, 0, none⟩ (.slice (some ⟨g, 0, none⟩) st.qs.length d)).setCell ⟨w.heap.size + 1 + 1, 1, none⟩ (.slice b st.ts.length d2)).setCell ⟨w.heap.size + 1 + 1, 2, none⟩ (.int .i64 st.q)).cell? ⟨k, o, none⟩ = w3.cell? ⟨k, o, none⟩ := fun k o hk =>
    World.cell?_of_block (w := w3) (a := ⟨k, o, none⟩) ((Below.heap_setCell _ _ _ _ hk).trans ((Below.heap_setCell _ _ _ _ hk).trans (Below.heap_setCell _ _ _ _ hk)))
  have HSF : Hid ((((w3.setCell ⟨w.heap.size + 1 + 1, 0, none⟩ (.slice (some ⟨g, 0, none⟩) st.qs.length d)).setCell ⟨w.heap.size + 1 + 1, 1, none⟩ (.slice b st.ts.length d2)).setCell ⟨w.heap.size + 1 + 1, 2, none⟩ (.int .i64 st.q)).cell? ⟨z, 0, none⟩ = some (.slice (some ⟨g, 0, none⟩) st.qs.length d) ∧ (((w3.setCell ⟨w.heap.size + 1 + 1, 0, none⟩ (.slice (some ⟨g, 0, none⟩) st.qs.length d)).setCell ⟨w.heap.size + 1 + 1, 1, none⟩ (.slice b st.ts.length d2)).setCell ⟨w.heap.size + 1 + 1, 2, none⟩ (.int .i64 st.q)).cell? ⟨z, 1, none⟩ = some (.slice b st.ts.length d2) ∧ (((w3.setCell ⟨w.heap.size + 1 + 1, 0, none⟩ (.slice (some ⟨g, 0, none⟩) st.qs.length d)).setCell ⟨w.heap.size + 1 + 1, 1, none⟩ (.slice b st.ts.length d2)).setCell ⟨w.heap.size + 1 + 1, 2, none⟩ (.int .i64 st.q)).cell? ⟨z, 2, none⟩ = some (.int .i64 st.q) ∧ (((w3.setCell ⟨w.heap.size + 1 + 1, 0, none⟩ (.slice (some ⟨g, 0, none⟩) st.qs.length d)).setCell ⟨w.heap.size + 1 + 1, 1, none⟩ (.slice b st.ts.length d2)).setCell ⟨w.heap.size + 1 + 1, 2, none⟩ (.int .i64 st.q)).cell? ⟨w.heap.size + 1 + 1 + 1, 0, none⟩ = some (.int .i64 (quOf st.qs (k : Int)).run)) :=
    Lib.hid ⟨(hfar z 0 (by omega)).trans HS0.1, (hfar z 1 (by omega)).trans HS0.2.1, (hfar z 2 (by omega)).trans HS0.2.2.1, (hfar _ 0 (by omega)).trans HS0.2.2.2⟩
  clear hfar h5 f1 f2 f3 hsc3 hbp e0 e1 e2 i0 HSC2 HB2 HB2' HR5 el
  refine wpAnyH_take (i := 0) (oi := _) (v := .agg #[.slice (some ⟨g, 0, none⟩) st.qs.length d, .slice b st.ts.length d2, .int .i64 st.q]) rfl (by kernel_rfl) (by kernel_rfl) (by kernel_rfl) (fun _ _ _ h => h) (Or.inl ⟨by rfl, ?_⟩) HS0 ?_
  · intro W' hW'
    have h := hW'.1; have h2 := hW'.2.1; have h3 := hW'.2.2.1; go_simp
  try simp only [Act.put, List.setIfInBounds_toArray, List.set_cons_zero, List.set_cons_succ]
  refine wpAnyH_take (i := 1) (oi := _) (v := .int .i64 (quOf st.qs (k : Int)).run) rfl (by kernel_rfl) (by kernel_rfl) (by kernel_rfl) (fun _ _ _ h => h) (Or.inl ⟨by rfl, ?_⟩) HS0 ?_
  · intro W' hW'
    have h := hW'.2.2.2; go_simp
  try simp only [Act.put, List.setIfInBounds_toArray, List.set_cons_zero, List.set_cons_succ]
  refine wpAnyH_take (i := 2) (oi := _) (v := .int .i64 0) rfl (by kernel_rfl) (by kernel_rfl) (by kernel_rfl) (fun _ _ _ h => h) (Or.inl ⟨by rfl, ?_⟩) HS0 ?_
  · intro W' hW'
    go_simp
  try simp only [Act.put, List.setIfInBounds_toArray, List.set_cons_zero, List.set_cons_succ]
  refine wpAnyH_ready (rs := [3]) (by kernel_rfl) (by simp) ?_
  refine AllReadyH.cons (o := _) rfl (fun K hK => ?_) AllReadyH.nil
  go_simp
  refine hK.out _ _ HSF.out (fun hHeld => ?_)
  clear hK K hHeld
  try simp only [Act.put, List.setIfInBounds_toArray, List.set_cons_zero, List.set_cons_succ]
  refine wpAnyH_ready (rs := [4]) (by kernel_rfl) (by simp) ?_
  refine AllReadyH.cons (o := _) rfl (fun K hK => ?_) AllReadyH.nil
  go_simp
  refine hK.out _ _ HSF.out (fun hHeld => ?_)
  clear hK K hHeld
  try simp only [Act.put, List.setIfInBounds_toArray, List.set_cons_zero, List.set_cons_succ]
  refine wpAnyH_ready (rs := [5]) (by kernel_rfl) (by simp) ?_
  refine AllReadyH.cons (o := _) rfl (fun K hK => ?_) AllReadyH.nil
  go_simp
  refine hK.out _ _ HSF.out (fun hHeld => ?_)
  clear hK K hHeld
  refine wpAnyH_done (by kernel_rfl) ?_ _
  go_wp2
  exact bodyPost_ret (v := .tuple #[.agg #[.slice (some ⟨g, 0, none⟩) st.qs.length d, .slice b st.ts.length d2, .int .i64 st.q], .int .i64 (quOf st.qs (k : Int)).run, .int .i64 0]) (by simp [results, Try.results22, go_sem, u0, u1, u2]) rfl ⟨g, d, b, d2, rfl, HSC4.out, HB3.out, HOW4.out⟩
end Go.Proofs.Ytggikbcgijmhbaa
