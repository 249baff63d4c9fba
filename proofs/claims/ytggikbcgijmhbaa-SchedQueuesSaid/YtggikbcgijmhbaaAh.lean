/- WHAT IS PROVED: sched.Same tells whether two states are equal. CONDITIONS: the cells hold the lists. -/
import Derived.Test.YtggikbcgijmhbaaG
set_option linter.unusedSimpArgs false
set_option linter.unusedVariables false
namespace Go.Proofs.Ytggikbcgijmhbaa
open Go Go.RowKit Go.QrBits Go.QrMem
set_option maxHeartbeats 4000000 in
set_option maxRecDepth 100000 in
theorem cpuq_c (u v : Qu) (ar : Option Addr) (cr : Nat) (ar' : Option Addr) (cr' : Nat) (w : World) (h1 : SlAt w ar (iV u.ready)) (h2 : SlAt w ar' (iV v.ready)) (l1 : SlV ar u.ready.length cr) (l2 : SlV ar' v.ready.length cr') :
    Calls Try.prog 42 #[.agg #[.int .i64 u.run, .int .i64 u.left, .slice ar u.ready.length cr], .agg #[.int .i64 v.run, .int .i64 v.left, .slice ar' v.ready.length cr']] w fun e w' => e = .returned (.bool (decide (u = v))) ∧ Below w.heap.size w w' := by
  have HK := ((Kw.start w).box (vs := [.int .i64 u.run, .int .i64 u.left, .slice ar u.ready.length cr]) (t := 47)).box (vs := [.int .i64 v.run, .int .i64 v.left, .slice ar' v.ready.length cr']) (t := 47)
  have HE := Lib.hid (fun w' (hb : Below w.heap.size w w') => equal_c ar cr ar' cr' u.ready v.ready w' (h1.below hb) (h2.below hb) l1.max l2.max)
  obtain ⟨r, l, xs⟩ := u
  obtain ⟨r', l', ys⟩ := v
  simp only [] at HK HE ⊢
  clear h1 h2
  have m1 := l1.max
  have m2 := l2.max
  simp only [] at m1 m2
  unfold maxLen at m1 m2
  clear l1 l2
  by_cases hr : r = r'
  · subst hr
    by_cases hl : l = l'
    · subst hl
      have hd : decide ((⟨r, l, xs⟩ : Qu) = ⟨r, l, ys⟩) = decide (xs = ys) := by simp
      rw [hd]
      generalize decide (xs = ys) = bb at *
      clear hd
      generalize xs.length = nx at *
      generalize ys.length = ny at *
      go_enter Try.func42, Try.ntmps42
      go_wp2_with fail
      refine (HE.out _ HK.base).mono ?_
      rintro e w1 ⟨rfl, hq⟩
      have hA := (HK.below hq).base
      clear HK hq HE
      go_wp2
      go_ret
      exact ⟨by simp, hA⟩
    · have hd : decide ((⟨r, l, xs⟩ : Qu) = ⟨r, l', ys⟩) = false := by simp [hl]
      rw [hd]
      clear hd HE
      have hl' : (l == l') = false := by simpa using hl
      generalize xs.length = nx at *
      generalize ys.length = ny at *
      have hA := HK.base
      clear HK hl
      go_enter Try.func42, Try.ntmps42
      go_wp2
      go_ret
      exact ⟨by simp [hl'], hA⟩
  · have hd : decide ((⟨r, l, xs⟩ : Qu) = ⟨r', l', ys⟩) = false := by simp [hr]
    rw [hd]
    clear hd HE
    have hr' : (r == r') = false := by simpa using hr
    generalize xs.length = nx at *
    generalize ys.length = ny at *
    have hA := HK.base
    clear HK hr
    go_enter Try.func42, Try.ntmps42
    go_wp2
    go_ret
    exact ⟨by simp [hr'], hA⟩
/-- A slice of threads. -/
def TsAt (w : World) (a : Option Addr) (ts : List Th) : Prop := SlAt w a (tV ts)
set_option maxHeartbeats 4000000 in
set_option maxRecDepth 100000 in
theorem slots_c (a : Option Addr) (c : Nat) (a' : Option Addr) (c' : Nat) (ts ts' : List Th) (w : World) (h1 : SlAt w a (tV ts)) (h2 : SlAt w a' (tV ts')) (l1 : SlV a ts.length c) (l2 : SlV a' ts'.length c') :
    Calls Try.prog 44 #[.slice a ts.length c, .slice a' ts'.length c'] w fun e w' => e = .returned (.bool (decide (ts = ts'))) ∧ Below w.heap.size w w' := by
  have m1 := l1.max
  have m2 := l2.max
  unfold maxLen at m1 m2
  by_cases hl : ts.length = ts'.length
  · have HG : Hid (∀ k, k < ts.length → ∃ b o b' o' : Nat, a = some ⟨b, o, none⟩ ∧ a' = some ⟨b', o', none⟩ ∧ ∀ W, Below w.heap.size w W → b < w.heap.size ∧ b' < w.heap.size ∧
        W.cell? ⟨b, o + k * 3, none⟩ = some (.int .i64 (thOf ts (k : Int)).pri) ∧ W.cell? ⟨b, o + k * 3 + 1, none⟩ = some (.int .i64 (thOf ts (k : Int)).cpu) ∧ W.cell? ⟨b, o + k * 3 + 2, none⟩ = some (.int .i64 (thOf ts (k : Int)).st) ∧
        W.cell? ⟨b', o' + k * 3, none⟩ = some (.int .i64 (thOf ts' (k : Int)).pri) ∧ W.cell? ⟨b', o' + k * 3 + 1, none⟩ = some (.int .i64 (thOf ts' (k : Int)).cpu) ∧ W.cell? ⟨b', o' + k * 3 + 2, none⟩ = some (.int .i64 (thOf ts' (k : Int)).st)) := by
      refine Lib.hid fun k hk => ?_
      have e1 := th_some hk
      have e2 := th_some (ts := ts') (c := k) (by omega)
      obtain ⟨g1, g2, g3⟩ := tV_get _ _ _ e1
      obtain ⟨g4, g5, g6⟩ := tV_get _ _ _ e2
      rcases h1 with h1 | ⟨b, o, ha, hb, hc⟩
      · rw [h1] at g1; simp at g1
      rcases h2 with h2 | ⟨b', o', ha', hb', hc'⟩
      · rw [h2] at g4; simp at g4
      refine ⟨b, o, b', o', ha, ha', fun W hW => ⟨hb, hb', (hW.cell (p := ⟨b, o + k * 3, none⟩) hb).trans (hc _ _ g1), (hW.cell (p := ⟨b, o + k * 3 + 1, none⟩) hb).trans (hc _ _ g2), (hW.cell (p := ⟨b, o + k * 3 + 2, none⟩) hb).trans (hc _ _ g3), (hW.cell (p := ⟨b', o' + k * 3, none⟩) hb').trans (hc' _ _ g4), (hW.cell (p := ⟨b', o' + k * 3 + 1, none⟩) hb').trans (hc' _ _ g5), (hW.cell (p := ⟨b', o' + k * 3 + 2, none⟩) hb').trans (hc' _ _ g6)⟩⟩
    clear h1 h2 l1 l2
    rw [← hl] at m2 ⊢
    have HL := Lib.hid hl
    clear hl
    go_enter Try.func44, Try.ntmps44
    go_wp2_with fail
    go_loopw [13] (fun i wr => ∃ (k : Nat) (wv : World), wv = wr ∧ k ≤ ts.length ∧ i = .int .i64 k ∧ Below w.heap.size w wv ∧ Hid (∀ j, j < k → thOf ts (j : Int) = thOf ts' (j : Int))) (fun i _ => ts.length - (intOf i).toNat)
    case atStart => exact ⟨0, _, rfl, Nat.zero_le _, rfl, Below.refl _ _, Lib.hid fun j hj => absurd hj (Nat.not_lt_zero j)⟩
    case round =>
      obtain ⟨k, wv, hw, hk, rfl, HB, hall⟩ := hrel
      subst hw
      by_cases hlt : k < ts.length
      · obtain ⟨b, o, b', o', rfl, rfl, hW⟩ := HG.out k hlt
        obtain ⟨z1, z2, e1, e2, e3, e4, e5, e6⟩ := hW wv HB
        have k0 : (0 : Int) ≤ (k : Int) := Int.natCast_nonneg _
        have k1 : (k : Int) < (ts.length : Int) := by omega
        by_cases heq : thOf ts (k : Int) = thOf ts' (k : Int)
        · rw [← heq] at e4 e5 e6
          have HEQ := Lib.hid heq
          clear heq hW
          generalize (thOf ts (k : Int)).pri = x0 at *
          generalize (thOf ts (k : Int)).cpu = x1 at *
          generalize (thOf ts (k : Int)).st = x2 at *
          go_wp2
          go_region
          go_wp2
          go_roundw
          case rel => exact ⟨k + 1, _, rfl, by omega, by go_num, by (first | exact HB | exact HB.drew | exact below_drewN HB _), Lib.hid fun j hj => by
            rcases Nat.lt_or_ge j k with h | h
            · exact hall.out j h
            · have e : j = k := by omega
              subst e; exact HEQ.out⟩
          case measure => simp [intOf]; omega
        · have hd : Hid (decide (ts = ts') = false) := Lib.hid (by
            apply decide_eq_false; intro h; rw [h] at heq; exact heq rfl)
          have hne : ¬ (thOf ts (k : Int)).pri = (thOf ts' (k : Int)).pri ∨ ((thOf ts (k : Int)).pri = (thOf ts' (k : Int)).pri ∧ ¬ (thOf ts (k : Int)).cpu = (thOf ts' (k : Int)).cpu) ∨ ((thOf ts (k : Int)).pri = (thOf ts' (k : Int)).pri ∧ (thOf ts (k : Int)).cpu = (thOf ts' (k : Int)).cpu ∧ ¬ (thOf ts (k : Int)).st = (thOf ts' (k : Int)).st) := by
            generalize thOf ts (k : Int) = t1 at *
            generalize thOf ts' (k : Int) = t2 at *
            obtain ⟨_, _, _⟩ := t1
            obtain ⟨_, _, _⟩ := t2
            simp only [Th.mk.injEq] at heq ⊢
            omega
          clear heq hW
          generalize (thOf ts (k : Int)).pri = x0 at *
          generalize (thOf ts (k : Int)).cpu = x1 at *
          generalize (thOf ts (k : Int)).st = x2 at *
          generalize (thOf ts' (k : Int)).pri = y0 at *
          generalize (thOf ts' (k : Int)).cpu = y1 at *
          generalize (thOf ts' (k : Int)).st = y2 at *
          rcases hne with hne | ⟨rfl, hne⟩ | ⟨rfl, rfl, hne⟩
          all_goals
            go_wp2
            go_region
            go_wp2
            go_ret
            exact ⟨by simp [hd.out], by first | exact HB | exact HB.drew | exact below_drewN HB _⟩
      · have hd : Hid (decide (ts = ts') = true) := Lib.hid (by
          apply decide_eq_true
          apply List.ext_getElem?
          intro j
          rcases Nat.lt_or_ge j ts.length with h | h
          · have := HL.out
            rw [th_some h, th_some (by omega), hall.out j (by omega)]
          · have := HL.out
            rw [List.getElem?_eq_none h, List.getElem?_eq_none (by omega)])
        go_wp2
        go_ret
        exact ⟨by simp [hd.out], HB⟩
  · have hd : decide (ts = ts') = false := decide_eq_false (fun h => hl (by rw [h]))
    rw [hd]
    clear hd h1 h2 l1 l2
    generalize ts.length = n1 at *
    generalize ts'.length = n2 at *
    have hl' : ((n1 : Int) == (n2 : Int)) = false := by simp; omega
    have hl2 : ((n1 : Int) != (n2 : Int)) = true := by rw [bne, hl']; rfl
    have hA := Below.refl w.heap.size w
    clear hl
    go_enter Try.func44, Try.ntmps44
    go_wp2
    go_ret
    exact ⟨rfl, hA⟩
/-- A processor's cells, of two lists, in a later world. -/
theorem qs_two {w : World} {a a' : Option Addr} {qs qs' : List Qu} (h1 : QsAt w a qs) (h2 : QsAt w a' qs') {k : Nat} (hk : k < qs.length) (hk' : k < qs'.length) :
    ∃ b o b' o' : Nat, a = some ⟨b, o, none⟩ ∧ a' = some ⟨b', o', none⟩ ∧ ∃ (ar : Option Addr) (cr : Nat) (ar' : Option Addr) (cr' : Nat), SlV ar (quOf qs (k : Int)).ready.length cr ∧ SlV ar' (quOf qs' (k : Int)).ready.length cr' ∧ ∀ W, Below w.heap.size w W → b < w.heap.size ∧ b' < w.heap.size ∧ SlAt W ar (iV (quOf qs (k : Int)).ready) ∧ SlAt W ar' (iV (quOf qs' (k : Int)).ready) ∧
        W.cell? ⟨b, o + k * 3, none⟩ = some (.int .i64 (quOf qs (k : Int)).run) ∧ W.cell? ⟨b, o + k * 3 + 1, none⟩ = some (.int .i64 (quOf qs (k : Int)).left) ∧ W.cell? ⟨b, o + k * 3 + 2, none⟩ = some (.slice ar (quOf qs (k : Int)).ready.length cr) ∧
        W.cell? ⟨b', o' + k * 3, none⟩ = some (.int .i64 (quOf qs' (k : Int)).run) ∧ W.cell? ⟨b', o' + k * 3 + 1, none⟩ = some (.int .i64 (quOf qs' (k : Int)).left) ∧ W.cell? ⟨b', o' + k * 3 + 2, none⟩ = some (.slice ar' (quOf qs' (k : Int)).ready.length cr') := by
  have e1 := qu_some hk
  have e2 := qu_some hk'
  rcases h1 with h1 | ⟨b, o, ha, hb, hc⟩
  · rw [h1] at hk; simp at hk
  rcases h2 with h2 | ⟨b', o', ha', hb', hc'⟩
  · rw [h2] at hk'; simp at hk'
  obtain ⟨g1, g2, ar, cr, g3, g4, g5⟩ := hc _ _ e1
  obtain ⟨f1, f2, ar', cr', f3, f4, f5⟩ := hc' _ _ e2
  exact ⟨b, o, b', o', ha, ha', ar, cr, ar', cr', g4, f4, fun W hW => ⟨hb, hb', g5.below hW, f5.below hW, (hW.cell (p := ⟨b, o + k * 3, none⟩) hb).trans g1, (hW.cell (p := ⟨b, o + k * 3 + 1, none⟩) hb).trans g2, (hW.cell (p := ⟨b, o + k * 3 + 2, none⟩) hb).trans g3, (hW.cell (p := ⟨b', o' + k * 3, none⟩) hb').trans f1, (hW.cell (p := ⟨b', o' + k * 3 + 1, none⟩) hb').trans f2, (hW.cell (p := ⟨b', o' + k * 3 + 2, none⟩) hb').trans f3⟩⟩
set_option maxHeartbeats 4000000 in
set_option maxRecDepth 100000 in
theorem cpus_c (a : Option Addr) (c : Nat) (a' : Option Addr) (c' : Nat) (qs qs' : List Qu) (w : World) (h1 : QsAt w a qs) (h2 : QsAt w a' qs') (l1 : SlV a qs.length c) (l2 : SlV a' qs'.length c') :
    Calls Try.prog 45 #[.slice a qs.length c, .slice a' qs'.length c', .func (.func 42) #[] #[]] w fun e w' => e = .returned (.bool (decide (qs = qs'))) ∧ Below w.heap.size w w' := by
  have m1 := l1.max
  have m2 := l2.max
  unfold maxLen at m1 m2
  have hmf : ∀ args w, (callFunc 42 args).run Try.prog w = .ok (.enter 42 args) w := enters_of Try.func42 (by kernel_rfl) rfl
  by_cases hl : qs.length = qs'.length
  · have HG := Lib.hid (fun k hk hk' => qs_two (k := k) h1 h2 hk hk')
    clear h1 h2 l1 l2
    rw [← hl] at m2 ⊢
    have HL := Lib.hid hl
    clear hl
    go_enter Try.func45, Try.ntmps45
    go_wp2_with fail
    go_loopw [17] (fun i wr => ∃ (k : Nat) (wv : World), wv = wr ∧ k ≤ qs.length ∧ i = .int .i64 k ∧ Below w.heap.size w wv ∧ Hid (∀ j, j < k → quOf qs (j : Int) = quOf qs' (j : Int))) (fun i _ => qs.length - (intOf i).toNat)
    case atStart => exact ⟨0, _, rfl, Nat.zero_le _, rfl, Below.refl _ _, Lib.hid fun j hj => absurd hj (Nat.not_lt_zero j)⟩
    case round =>
      obtain ⟨k, wv, hw, hk, rfl, HB, hall⟩ := hrel
      subst hw
      by_cases hlt : k < qs.length
      · obtain ⟨b, o, b', o', rfl, rfl, ar, cr, ar', cr', v1, v2, hW⟩ := HG.out k hlt (by rw [← HL.out]; exact hlt)
        obtain ⟨z1, z2, g1, g2, e1, e2, e3, e4, e5, e6⟩ := hW wv HB
        have k0 : (0 : Int) ≤ (k : Int) := Int.natCast_nonneg _
        have k1 : (k : Int) < (qs.length : Int) := by omega
        have zz1 : b < wv.heap.size := Nat.lt_of_lt_of_le z1 HB.size
        have zz2 : b' < wv.heap.size := Nat.lt_of_lt_of_le z2 HB.size
        have HC := Lib.hid (fun W (hb : Below wv.heap.size wv W) => cpuq_c (quOf qs (k : Int)) (quOf qs' (k : Int)) ar cr ar' cr' W (g1.below hb) (g2.below hb) v1 v2)
        have HD : Hid (decide (quOf qs (k : Int) = quOf qs' (k : Int)) = false → decide (qs = qs') = false) := Lib.hid fun h => by
          apply decide_eq_false; intro e; rw [e] at h; simp at h
        have HKK := ((Kw.start wv).box (vs := [.int .i64 (quOf qs (k : Int)).run, .int .i64 (quOf qs (k : Int)).left, .slice ar (quOf qs (k : Int)).ready.length cr]) (t := 47)).box (vs := [.int .i64 (quOf qs' (k : Int)).run, .int .i64 (quOf qs' (k : Int)).left, .slice ar' (quOf qs' (k : Int)).ready.length cr']) (t := 47)
        have hbb := HKK.base
        clear HKK hW g1 g2 v1 v2 z1 z2
        generalize hdd : decide (quOf qs (k : Int) = quOf qs' (k : Int)) = bb at *
        have HDD := Lib.hid hdd
        clear hdd
        cases bb with
        | true =>
          have HEQ := Lib.hid (of_decide_eq_true HDD.out)
          clear HD HDD
          go_wp2_with fail
          refine (HC.out _ hbb).mono ?_
          rintro y w1 ⟨rfl, hq⟩
          have HB2 := Lib.hid (Below.tail HB (Below.tail hbb hq))
          clear hbb hq HC e1 e2 e3 e4 e5 e6 HB
          go_wp2
          go_roundw
          case rel => exact ⟨k + 1, _, rfl, by omega, by go_num, HB2.out, Lib.hid fun j hj => by
            rcases Nat.lt_or_ge j k with h | h
            · exact hall.out j h
            · have e : j = k := by omega
              subst e; exact HEQ.out⟩
          case measure => simp [intOf]; omega
        | false =>
          have hd := Lib.hid (HD.out rfl)
          clear HD HDD
          go_wp2_with fail
          refine (HC.out _ hbb).mono ?_
          rintro y w1 ⟨rfl, hq⟩
          have HB2 := Lib.hid (Below.tail HB (Below.tail hbb hq))
          clear hbb hq HC e1 e2 e3 e4 e5 e6 HB
          go_wp2
          go_ret
          exact ⟨by simp [hd.out], HB2.out⟩
      · have hd : Hid (decide (qs = qs') = true) := Lib.hid (by
          apply decide_eq_true
          apply List.ext_getElem?
          intro j
          rcases Nat.lt_or_ge j qs.length with h | h
          · have := HL.out
            rw [qu_some h, qu_some (by omega), hall.out j (by omega)]
          · have := HL.out
            rw [List.getElem?_eq_none h, List.getElem?_eq_none (by omega)])
        go_wp2
        go_ret
        exact ⟨by simp [hd.out], HB⟩
  · have hd : decide (qs = qs') = false := decide_eq_false (fun h => hl (by rw [h]))
    rw [hd]
    clear hd h1 h2 l1 l2
    generalize qs.length = n1 at *
    generalize qs'.length = n2 at *
    have hl' : ((n1 : Int) == (n2 : Int)) = false := by simp; omega
    have hl2 : ((n1 : Int) != (n2 : Int)) = true := by rw [bne, hl']; rfl
    have hA := Below.refl w.heap.size w
    clear hl
    go_enter Try.func45, Try.ntmps45
    go_wp2
    go_ret
    exact ⟨rfl, hA⟩
/-- Are two states equal? -/
def smB (qs qs' : List Qu) (ts ts' : List Th) (q q' : Int) : Bool := (q == q') && (decide (ts = ts') && decide (qs = qs'))
theorem smB_self (qs : List Qu) (ts : List Th) (q : Int) : smB qs qs ts ts q q = true := by simp [smB]
set_option maxHeartbeats 4000000 in
set_option maxRecDepth 100000 in
theorem same19_c (a : Option Addr) (c : Nat) (a2 : Option Addr) (c2 : Nat) (qs : List Qu) (ts : List Th) (q : Int) (b : Option Addr) (d : Nat) (b2 : Option Addr) (d2 : Nat) (qs' : List Qu) (ts' : List Th) (q' : Int) (w : World) (h1 : ScIn w a c a2 c2 qs ts) (h2 : ScIn w b d b2 d2 qs' ts') :
    Calls Try.prog 19 #[.agg #[.slice a qs.length c, .slice a2 ts.length c2, .int .i64 q], .agg #[.slice b qs'.length d, .slice b2 ts'.length d2, .int .i64 q']] w fun e w' => e = .returned (.bool (smB qs qs' ts ts' q q')) ∧ Below w.heap.size w w' := by
  have HK := ((Kw.start w).box (vs := [.slice a qs.length c, .slice a2 ts.length c2, .int .i64 q]) (t := 25)).box (vs := [.slice b qs'.length d, .slice b2 ts'.length d2, .int .i64 q']) (t := 25)
  have HT := Lib.hid (fun W (hb : Below w.heap.size w W) => slots_c a2 c2 b2 d2 ts ts' W (h1.s2.below hb) (h2.s2.below hb) h1.v2 h2.v2)
  have HQ := Lib.hid (fun W (hb : Below w.heap.size w W) => cpus_c a c b d qs qs' W (h1.s1.below hb) (h2.s1.below hb) h1.v1 h2.v1)
  clear h1 h2
  by_cases hq : q = q'
  · subst hq
    have e : smB qs qs' ts ts' q q = (decide (ts = ts') && decide (qs = qs')) := by simp [smB]
    rw [e]; clear e
    generalize decide (ts = ts') = t1 at *
    generalize decide (qs = qs') = t2 at *
    generalize qs.length = n1 at *
    generalize qs'.length = n2 at *
    generalize ts.length = n3 at *
    generalize ts'.length = n4 at *
    cases t1 with
    | true =>
      go_enter Try.func19, Try.ntmps19
      go_wp2_with fail
      refine (HT.out _ HK.base).mono ?_
      rintro e w1 ⟨rfl, hq⟩
      replace HK := HK.below hq
      clear hq
      have p_0 := HK.get 0 0 rfl rfl
      have p_1 := HK.get 1 0 rfl rfl
      simp only [World.size_alloc] at p_0 p_1
      go_wp2_with fail
      refine (HQ.out _ HK.base).mono ?_
      rintro e w2 ⟨rfl, hq⟩
      have hA := (HK.below hq).base
      clear HK hq p_0 p_1
      go_wp2
      go_ret
      exact ⟨by simp, hA⟩
    | false =>
      go_enter Try.func19, Try.ntmps19
      go_wp2_with fail
      refine (HT.out _ HK.base).mono ?_
      rintro e w1 ⟨rfl, hq⟩
      have hA := (HK.below hq).base
      clear HK hq
      go_wp2
      go_ret
      exact ⟨by simp, hA⟩
  · have hq' : (q == q') = false := by simpa using hq
    have e : smB qs qs' ts ts' q q' = false := by simp [smB, hq]
    rw [e]; clear e
    have hA := HK.base
    clear HK HT HQ hq
    generalize qs.length = n1 at *
    generalize qs'.length = n2 at *
    generalize ts.length = n3 at *
    generalize ts'.length = n4 at *
    go_enter Try.func19, Try.ntmps19
    go_wp2
    go_ret
    exact ⟨by simp [hq'], hA⟩
end Go.Proofs.Ytggikbcgijmhbaa
