/- WHAT IS PROVED: the state with three threads that the laws begin with. -/
import Derived.Test.YtggikbcgijmhbaaZ
set_option linter.unusedSimpArgs false
set_option linter.unusedVariables false
namespace Go.Proofs.Ytggikbcgijmhbaa
open Go Go.RowKit Go.QrBits Go.QrMem
attribute [local go_sem] reg_cell reg_frozen reg_setCell reg_lt reg_lt_add reg_drew reg_of_drew
def st0 : St := ⟨newQ 1, [], 2⟩
def st1 : St := addM st0 3 0
def st2 : St := addM st1 3 0
def st3 : St := addM st2 5 0
theorem chk0 : chkB st0.qs st0.ts st0.q = true := by decide +kernel
theorem ok0 : Ok st0 := ok_of_chk chk0
theorem ok1 : Ok st1 := add_ok ok0 (by decide +kernel) (by decide +kernel) (by decide)
theorem ok2 : Ok st2 := add_ok ok1 (by decide +kernel) (by decide +kernel) (by decide)
theorem ok3 : Ok st3 := add_ok ok2 (by decide +kernel) (by decide +kernel) (by decide)
theorem st3_eq : st3.qs = [⟨-1, 0, [2, 0, 1]⟩] ∧ st3.ts = [⟨3, 0, 1⟩, ⟨3, 0, 1⟩, ⟨5, 0, 1⟩] ∧ st3.q = 2 := by decide +kernel
/-- What a state in memory looks like that was handed back. -/
def StAt (n m : Nat) (q : Int) (s : St) (w : World) (v : Value) (w' : World) : Prop :=
  ∃ (g d : Nat) (b : Option Addr) (d2 : Nat), v = .agg #[.slice (some ⟨g, 0, none⟩) n d, .slice b m d2, .int .i64 q] ∧ Owned w.heap.size s g d b d2 w' ∧ Below w.heap.size w w'
theorem add_at (s s' : St) (n m : Nat) (q pri : Int) (hn : s.qs.length = n) (hm : s.ts.length = m) (hq : s.q = q) (hok : Ok s) (hs : s' = addM s pri 0) (hn' : s'.qs.length = n) (hm' : s'.ts.length = m + 1) (hq' : s'.q = q) (h16 : m < 16) (hp : inB pri 0 7 = true) (g d : Nat) (b : Option Addr) (d2 : Nat) (w : World) (h : ScIn w (some ⟨g, 0, none⟩) d b d2 s.qs s.ts) :
    Calls Try.prog 46 #[.agg #[.slice (some ⟨g, 0, none⟩) n d, .slice b m d2, .int .i64 q], .int .i64 pri, .int .i64 0] w fun y w' => ∃ v, y = .returned (.tuple #[v, .int .i64 m, .int .i64 0]) ∧ StAt n (m + 1) q s' w v w' := by
  subst hn hm hq hs
  refine (add_y (some ⟨g, 0, none⟩) d b d2 s.qs s.ts s.q pri 0 w h (chk_of_ok hok) hok.n1 hp h16).mono ?_
  rintro y w1 ⟨g', d', b', e', rfl, _, hb, how⟩
  refine ⟨_, rfl, g', d', b', e', ?_, how, hb⟩
  show Value.agg #[.slice (some ⟨g', 0, none⟩) (addM s pri 0).qs.length d', .slice b' (addM s pri 0).ts.length e', .int .i64 (addM s pri 0).q] = _
  rw [hn', hm', hq']
theorem put_st {W w' w : World} {x g d z e : Nat} {b : Option Addr} {s : St} {u0 u1 u2 : Value} {cz : Array Value} {tz : TypeId} (hx : W.heap[x]? = some (.cells #[u0, u1, u2] 25 (0, 0))) (hz : W.heap[z]? = some (.cells cz tz (0, 0))) (hzx : z < x) (hw : Below z w W) (hb : Below W.heap.size W w') (how : Owned W.heap.size s g d b e w') (hok : Ok s) (a0 a1 a2 : Value) :
    w'.heap[x]? = some (.cells #[u0, u1, u2] 25 (0, 0)) ∧ (((w'.setCell ⟨x, 0, none⟩ a0).setCell ⟨x, 1, none⟩ a1).setCell ⟨x, 2, none⟩ a2).heap[x]? = some (.cells #[a0, a1, a2] 25 (0, 0)) ∧ (((w'.setCell ⟨x, 0, none⟩ a0).setCell ⟨x, 1, none⟩ a1).setCell ⟨x, 2, none⟩ a2).heap[z]? = some (.cells cz tz (0, 0)) ∧
      Below z w (((w'.setCell ⟨x, 0, none⟩ a0).setCell ⟨x, 1, none⟩ a1).setCell ⟨x, 2, none⟩ a2) ∧ ScIn (((w'.setCell ⟨x, 0, none⟩ a0).setCell ⟨x, 1, none⟩ a1).setCell ⟨x, 2, none⟩ a2) (some ⟨g, 0, none⟩) d b e s.qs s.ts ∧ Owned W.heap.size s g d b e (((w'.setCell ⟨x, 0, none⟩ a0).setCell ⟨x, 1, none⟩ a1).setCell ⟨x, 2, none⟩ a2) := by
  have hxl := (Array.getElem?_eq_some_iff.1 hx).1
  have hzl := (Array.getElem?_eq_some_iff.1 hz).1
  have h5 := (hb.block x hxl).trans hx
  have h6 := (hb.block z hzl).trans hz
  have f1 := heap_setCell_same w' x 0 _ 25 a0 h5
  have f2 := heap_setCell_same _ x 1 _ 25 a1 f1
  have f3 := heap_setCell_same _ x 2 _ 25 a2 f2
  have hne : z ≠ x := by omega
  obtain ⟨B, b0, rs, hB, ho⟩ := how
  exact ⟨h5, by simpa using f3, (Below.heap_setCell _ _ _ _ hne).trans ((Below.heap_setCell _ _ _ _ hne).trans ((Below.heap_setCell _ _ _ _ hne).trans h6)),
    (((hw.trans (hb.mono (by omega))).setCell (by show _ ≤ x; omega) _).setCell (by show _ ≤ x; omega) _).setCell (by show _ ≤ x; omega) _,
    (((ho.setXj (by omega) 0 _).setXj (by omega) 1 _).setXj (by omega) 2 _).scIn (short_of_ok hok), ⟨B, b0, rs, hB, (((ho.setXj (by omega) 0 _).setXj (by omega) 1 _).setXj (by omega) 2 _)⟩⟩
set_option maxHeartbeats 4000000 in
set_option maxRecDepth 100000 in
theorem three_c (w : World) : Calls Try.prog 29 #[] w fun y w' => ∃ (g d : Nat) (b : Option Addr) (d2 : Nat), y = .returned (.agg #[.slice (some ⟨g, 0, none⟩) 1 d, .slice b 3 d2, .int .i64 2]) ∧ ScIn w' (some ⟨g, 0, none⟩) d b d2 st3.qs st3.ts ∧ Below w.heap.size w w' := by
  have HN := Lib.hid fun w => new_y 1 2 w (by decide) (by decide) (by decide)
  have HA1 := Lib.hid (add_at st0 st1 1 0 2 3 rfl rfl rfl ok0 rfl (by decide +kernel) (by decide +kernel) (by decide +kernel) (by decide) (by decide))
  have HA2 := Lib.hid (add_at st1 st2 1 1 2 3 (by decide +kernel) (by decide +kernel) (by decide +kernel) ok1 rfl (by decide +kernel) (by decide +kernel) (by decide +kernel) (by decide) (by decide))
  have HA3 := Lib.hid (add_at st2 st3 1 2 2 5 (by decide +kernel) (by decide +kernel) (by decide +kernel) ok2 rfl (by decide +kernel) (by decide +kernel) (by decide +kernel) (by decide) (by decide))
  have HK := (Kw.start w).box (vs := [.slice none 0 0, .slice none 0 0, .int .i64 0]) (t := 25)
  go_enter Try.func29, Try.ntmps29
  go_wp2_with fail
  refine (HN.out _).mono ?_
  rintro y w1 ⟨g, rfl, hsc, hb⟩
  replace HK := HK.below hb
  have HS := Lib.hid (hsc.below (w' := w1.alloc (.cells #[.slice (some ⟨g, 0, none⟩) 1 1, .slice none 0 0, .int .i64 2] 25)) (b_alloc (Below.refl _ _)))
  have hzl := (Array.getElem?_eq_some_iff.1 (HK.row 0 rfl)).1
  have HZ := Lib.hid ((Below.heap_alloc w1 (.cells #[.slice (some ⟨g, 0, none⟩) 1 1, .slice none 0 0, .int .i64 2] 25) _ hzl).trans (HK.row 0 rfl))
  have HX := Lib.hid (heap_alloc_new w1 (.cells #[.slice (some ⟨g, 0, none⟩) 1 1, .slice none 0 0, .int .i64 2] 25))
  have HW := Lib.hid (Below.tail HK.base (b_alloc (o := .cells #[.slice (some ⟨g, 0, none⟩) 1 1, .slice none 0 0, .int .i64 2] 25) (Below.refl w1.heap.size w1)))
  obtain ⟨r0, r1, r2, s0, s1, s2, rl⟩ := row3 HX.out
  clear hsc hb HK HN
  go_wp2_with fail
  generalize w1.heap.size = x at *
  generalize (w1.alloc (.cells #[.slice (some ⟨g, 0, none⟩) 1 1, .slice none 0 0, .int .i64 2] 25)) = W1 at *
  refine (HA1.out g 1 none 0 _ HS.out).mono ?_
  rintro y w2 ⟨v, rfl, g2, d2, b2, e2, rfl, how, hb⟩
  have hzl3 := (Array.getElem?_eq_some_iff.1 HZ.out).1
  obtain ⟨h5, hx, hz, hw, hsc, hox⟩ := put_st HX.out HZ.out hzl HW.out hb how ok1 (.slice (some ⟨g2, 0, none⟩) 1 d2) (.slice b2 1 e2) (.int .i64 2)
  clear HS HX HZ HW r0 r1 r2 s0 s1 s2 rl how hb
  obtain ⟨r0, r1, r2, s0, s1, s2, rl⟩ := row3 h5
  have HS := Lib.hid hsc
  have HOX := Lib.hid hox
  have HX := Lib.hid hx
  have HZ := Lib.hid hz
  have HW := Lib.hid hw
  clear h5 hx hz hw hsc hox
  obtain ⟨t0, t1, t2, _, _, _, tl⟩ := row3 HX.out
  go_wp2_with fail
  generalize (((w2.setCell ⟨x, 0, none⟩ (.slice (some ⟨g2, 0, none⟩) 1 d2)).setCell ⟨x, 1, none⟩ (.slice b2 1 e2)).setCell ⟨x, 2, none⟩ (.int .i64 2)) = W2 at *
  clear r0 r1 r2 s0 s1 s2 rl t0 t1 t2 tl
  obtain ⟨r0, r1, r2, s0, s1, s2, rl⟩ := row3 HX.out
  refine (HA2.out g2 d2 b2 e2 _ HS.out).mono ?_
  rintro y w3 ⟨v, rfl, g3, d3, b3, e3, rfl, how, hb⟩
  have hzl3 := (Array.getElem?_eq_some_iff.1 HZ.out).1
  obtain ⟨h5, hx, hz, hw, hsc, hox⟩ := put_st HX.out HZ.out hzl HW.out hb how ok2 (.slice (some ⟨g3, 0, none⟩) 1 d3) (.slice b3 2 e3) (.int .i64 2)
  clear HS HX HZ HW r0 r1 r2 s0 s1 s2 rl how hb
  obtain ⟨r0, r1, r2, s0, s1, s2, rl⟩ := row3 h5
  have HS := Lib.hid hsc
  have HOX := Lib.hid hox
  have HX := Lib.hid hx
  have HZ := Lib.hid hz
  have HW := Lib.hid hw
  clear h5 hx hz hw hsc hox
  obtain ⟨t0, t1, t2, _, _, _, tl⟩ := row3 HX.out
  go_wp2_with fail
  generalize (((w3.setCell ⟨x, 0, none⟩ (.slice (some ⟨g3, 0, none⟩) 1 d3)).setCell ⟨x, 1, none⟩ (.slice b3 2 e3)).setCell ⟨x, 2, none⟩ (.int .i64 2)) = W3 at *
  clear r0 r1 r2 s0 s1 s2 rl t0 t1 t2 tl
  obtain ⟨r0, r1, r2, s0, s1, s2, rl⟩ := row3 HX.out
  refine (HA3.out g3 d3 b3 e3 _ HS.out).mono ?_
  rintro y w4 ⟨v, rfl, g4, d4, b4, e4, rfl, how, hb⟩
  have hzl3 := (Array.getElem?_eq_some_iff.1 HZ.out).1
  obtain ⟨h5, hx, hz, hw, hsc, hox⟩ := put_st HX.out HZ.out hzl HW.out hb how ok3 (.slice (some ⟨g4, 0, none⟩) 1 d4) (.slice b4 3 e4) (.int .i64 2)
  clear HS HX HZ HW r0 r1 r2 s0 s1 s2 rl how hb
  obtain ⟨r0, r1, r2, s0, s1, s2, rl⟩ := row3 h5
  have HS := Lib.hid hsc
  have HOX := Lib.hid hox
  have HX := Lib.hid hx
  have HZ := Lib.hid hz
  have HW := Lib.hid hw
  clear h5 hx hz hw hsc hox
  obtain ⟨t0, t1, t2, _, _, _, tl⟩ := row3 HX.out
  go_upto_region 5 with fail
  generalize (((w4.setCell ⟨x, 0, none⟩ (.slice (some ⟨g4, 0, none⟩) 1 d4)).setCell ⟨x, 1, none⟩ (.slice b4 3 e4)).setCell ⟨x, 2, none⟩ (.int .i64 2)) = W4 at *
  clear r0 r1 r2 s0 s1 s2 rl t0 t1 t2 tl
  obtain ⟨r0, r1, r2, s0, s1, s2, rl⟩ := row3 HX.out
  obtain ⟨z0, z1, z2, y0, y1, y2, zl⟩ := row3 HZ.out
  have f1 := heap_setCell_same W4 w.heap.size 0 _ 25 (.slice (some ⟨g4, 0, none⟩) 1 d4) HZ.out
  have f2 := heap_setCell_same _ w.heap.size 1 _ 25 (.slice b4 3 e4) f1
  have f3 := heap_setCell_same _ w.heap.size 2 _ 25 (.int .i64 2) f2
  obtain ⟨u0, u1, u2, _⟩ := row3 (x := (.slice (some ⟨g4, 0, none⟩) 1 d4)) (y := (.slice b4 3 e4)) (z := (.int .i64 2)) (by simpa using f3)
  have HBB := Lib.hid (((HW.out.setCell (p := ⟨w.heap.size, 0, none⟩) (by show _ ≤ w.heap.size; omega) (.slice (some ⟨g4, 0, none⟩) 1 d4)).setCell (p := ⟨w.heap.size, 1, none⟩) (by show _ ≤ w.heap.size; omega) (.slice b4 3 e4)).setCell (p := ⟨w.heap.size, 2, none⟩) (by show _ ≤ w.heap.size; omega) (.int .i64 2))
  obtain ⟨B, b0, rs, hB, ho⟩ := HOX.out
  have HSC := Lib.hid ((((ho.setXj (x := w.heap.size) (by omega) 0 (.slice (some ⟨g4, 0, none⟩) 1 d4)).setXj (x := w.heap.size) (by omega) 1 (.slice b4 3 e4)).setXj (x := w.heap.size) (by omega) 2 (.int .i64 2)).scIn (short_of_ok ok3))
  clear f1 f2 f3 hB ho HOX HW HZ HX HS
  go_wp2
  exact bodyPost_ret (v := .agg #[.slice (some ⟨g4, 0, none⟩) 1 d4, .slice b4 3 e4, .int .i64 2]) (by simp [results, Try.results29, go_sem, u0, u1, u2]) rfl ⟨g4, d4, b4, e4, rfl, HSC.out, HBB.out⟩
end Go.Proofs.Ytggikbcgijmhbaa
