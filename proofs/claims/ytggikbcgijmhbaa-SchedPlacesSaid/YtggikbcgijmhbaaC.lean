/- WHAT IS PROVED: sched.runFits and sched.due, for every state. CONDITIONS: the cells hold the lists. -/
import Derived.Test.YtggikbcgijmhbaaB
namespace Go.Proofs.Ytggikbcgijmhbaa
open Go Go.RowKit Go.QrBits Go.QrMem

/-- Are Run and Left of a processor as they have to be? -/
def rfB (ts : List Th) (x : Qu) (cpu q : Int) : Bool :=
  if x.run = -1 then x.left == 0
  else inB x.run 0 ((ts.length : Int) - 1) && (match ts[x.run.toNat]? with | some t => stB t cpu 2 | none => false) && inB x.left 0 q
theorem stands_y (a : Option Addr) (c : Nat) (a2 : Option Addr) (c2 : Nat) (qs : List Qu) (ts : List Th) (q : Int) (k : Nat) (t : Th) (cpu st : Int) (w : World) (hs : ScIn w a c a2 c2 qs ts) (hk : ts[k]? = some t) (h : stB t cpu st = true) :
    Calls Try.prog 62 #[.agg #[.slice a qs.length c, .slice a2 ts.length c2, .int .i64 q], .int .i64 k, .int .i64 cpu, .int .i64 st] w fun e w' => e = .returned (.bool true) ∧ Below w.heap.size w w' := by
  have := stands_c a c a2 c2 qs ts q k t cpu st w hs hk; rwa [h] at this
theorem stands_n (a : Option Addr) (c : Nat) (a2 : Option Addr) (c2 : Nat) (qs : List Qu) (ts : List Th) (q : Int) (k : Nat) (t : Th) (cpu st : Int) (w : World) (hs : ScIn w a c a2 c2 qs ts) (hk : ts[k]? = some t) (h : stB t cpu st = false) :
    Calls Try.prog 62 #[.agg #[.slice a qs.length c, .slice a2 ts.length c2, .int .i64 q], .int .i64 k, .int .i64 cpu, .int .i64 st] w fun e w' => e = .returned (.bool false) ∧ Below w.heap.size w w' := by
  have := stands_c a c a2 c2 qs ts q k t cpu st w hs hk; rwa [h] at this
set_option linter.unusedSimpArgs false in
set_option linter.unusedVariables false in
set_option maxHeartbeats 4000000 in
set_option maxRecDepth 100000 in
theorem runFits_c (a : Option Addr) (c : Nat) (a2 : Option Addr) (c2 : Nat) (qs : List Qu) (ts : List Th) (q : Int) (k : Nat) (x : Qu) (w : World) (hs : ScIn w a c a2 c2 qs ts) (hk : qs[k]? = some x) :
    Calls Try.prog 35 #[.agg #[.slice a qs.length c, .slice a2 ts.length c2, .int .i64 q], .int .i64 k] w fun e w' => e = .returned (.bool (rfB ts x k q)) ∧ Below w.heap.size w w' := by
  have hm := hs.v2.max
  have hm1 := hs.v1.max
  unfold maxLen at hm hm1
  obtain ⟨b, off, rfl, hb, c0, c1, ar, cr, c2x, hv, _⟩ := hs.qu hk
  have hkl : k < qs.length := (List.getElem?_eq_some_iff.1 hk).1
  have k0 : (0 : Int) ≤ (k : Int) := Int.natCast_nonneg _
  have k1 : (k : Int) < (qs.length : Int) := by omega
  have HS := Lib.hid hs
  have HV := Lib.hid hv
  clear hs hk hv
  have HK := ((Kw.start w).box (vs := [.slice (some ⟨b, off, none⟩) qs.length c, .slice a2 ts.length c2, .int .i64 q]) (t := 25)).box (vs := [.int .i64 x.run, .int .i64 x.left, .slice ar x.ready.length cr]) (t := 47)
  by_cases h0 : x.run = -1
  · have e : rfB ts x k q = (x.left == 0) := by simp [rfB, h0]
    rw [e]; clear e
    rw [h0] at c0 HK
    have hK := HK.base
    clear HK
    cases h1 : x.left == 0 with
    | true =>
      go_enter Try.func35, Try.ntmps35
      go_wp2
      go_ret
      exact ⟨rfl, hK⟩
    | false =>
      go_enter Try.func35, Try.ntmps35
      go_wp2
      go_ret
      exact ⟨rfl, hK⟩
  · have h0' : (x.run == -1) = false := by simpa using h0
    have HH := Lib.hid h0
    clear h0
    cases h1 : inB x.run 0 ((ts.length : Int) - 1) with
    | false =>
      have hf := Lib.hid (show rfB ts x k q = false by simp [rfB, HH.out, h1])
      have H1 := Lib.hid h1
      clear h1
      go_enter Try.func35, Try.ntmps35
      go_wp2_with fail
      refine (within_n _ _ _ _ H1.out).mono ?_
      rintro e w' ⟨rfl, rfl⟩
      have hK := HK.base
      clear HK
      go_wp2
      go_ret
      exact ⟨by simp [hf.out], hK⟩
    | true =>
      have H1 := Lib.hid h1
      obtain ⟨x0, x1⟩ := inB_out h1
      obtain ⟨m, hm0⟩ : ∃ m : Nat, x.run = (m : Int) := ⟨x.run.toNat, by omega⟩
      obtain ⟨t, ht⟩ : ∃ t, ts[m]? = some t := ⟨ts[m]'(by omega), List.getElem?_eq_getElem _⟩
      have HT := Lib.hid ht
      have hr : rfB ts x k q = (stB t k 2 && inB x.left 0 q) := by simp [rfB, HH.out, hm0, ht] ; rw [← hm0, h1]; simp
      rw [hr]; clear hr
      rw [hm0] at c0 HK h0' x0 x1 H1
      clear h1 ht
      cases h2 : stB t k 2 with
      | false =>
        have H2 := Lib.hid h2
        clear h2
        go_enter Try.func35, Try.ntmps35
        go_wp2_with fail
        refine (within_y _ _ _ _ H1.out).mono ?_
        rintro e w' ⟨rfl, rfl⟩
        go_wp2_with fail
        refine (stands_n _ _ _ _ qs ts q m t k 2 _ (HS.out.below HK.base) HT.out H2.out).mono ?_
        rintro e w' ⟨rfl, hw⟩
        have hK := (HK.below hw).base
        clear HK
        go_wp2
        go_ret
        exact ⟨by simp, hK⟩
      | true =>
        have H2 := Lib.hid h2
        clear h2
        have hW := fun w => within_c x.left 0 q w
        generalize inB x.left 0 q = b4 at hW ⊢
        go_enter Try.func35, Try.ntmps35
        go_wp2_with fail
        refine (within_y _ _ _ _ H1.out).mono ?_
        rintro e w' ⟨rfl, rfl⟩
        go_wp2_with fail
        refine (stands_y _ _ _ _ qs ts q m t k 2 _ (HS.out.below HK.base) HT.out H2.out).mono ?_
        rintro e w' ⟨rfl, hw⟩
        have HK2 := HK.below hw
        have p_0 : w'.cell? ⟨w.heap.size, 2, none⟩ = some (.int .i64 q) := HK2.get 1 2 rfl rfl
        have p_1 : w'.cell? ⟨w.heap.size + 1, 1, none⟩ = some (.int .i64 x.left) := by have := HK2.get 0 1 rfl rfl; rwa [World.size_alloc] at this
        go_wp2_with fail
        refine (hW _).mono ?_
        rintro e w' ⟨rfl, rfl⟩
        have hK := HK2.base
        clear HK HK2
        go_wp2
        go_ret
        exact ⟨by simp, hK⟩
/-- The first that is ready, and whether a switch is due. -/
def dueB (ts : List Th) (x : Qu) : Bool :=
  match x.ready with
  | [] => false
  | r :: _ => if x.run = -1 then true else
    match ts[r.toNat]?, ts[x.run.toNat]? with
    | some f, some t => decide (t.pri < f.pri) || (x.left == 0 && f.pri == t.pri)
    | _, _ => false
theorem iV_cons (r : Int) (l : List Int) : (iV (r :: l))[0]? = some (.int .i64 r) := rfl
set_option linter.unusedSimpArgs false in
set_option linter.unusedVariables false in
set_option maxHeartbeats 4000000 in
set_option maxRecDepth 100000 in
theorem due_idle (a : Option Addr) (c : Nat) (a2 : Option Addr) (c2 : Nat) (qs : List Qu) (ts : List Th) (q : Int) (k : Nat) (x : Qu) (w : World) (hs : ScIn w a c a2 c2 qs ts) (hk : qs[k]? = some x) (h : x.ready = [] ∨ x.run = -1) :
    Calls Try.prog 41 #[.agg #[.slice a qs.length c, .slice a2 ts.length c2, .int .i64 q], .int .i64 k] w fun e w' => e = .returned (.bool (dueB ts x)) ∧ Below w.heap.size w w' := by
  have hm := hs.v2.max
  have hm1 := hs.v1.max
  unfold maxLen at hm hm1
  obtain ⟨b, off, rfl, hb, c0, c1, ar, cr, c2x, hv, _⟩ := hs.qu hk
  have hkl : k < qs.length := (List.getElem?_eq_some_iff.1 hk).1
  have k0 : (0 : Int) ≤ (k : Int) := Int.natCast_nonneg _
  have k1 : (k : Int) < (qs.length : Int) := by omega
  have hvm := hv.max
  unfold maxLen at hvm
  clear hs hk hv
  have HK := ((Kw.start w).box (vs := [.slice (some ⟨b, off, none⟩) qs.length c, .slice a2 ts.length c2, .int .i64 q]) (t := 25)).box (vs := [.int .i64 x.run, .int .i64 x.left, .slice ar x.ready.length cr]) (t := 47)
  have hK := HK.base
  clear HK
  cases hr : x.ready with
  | nil =>
    have e : dueB ts x = false := by simp [dueB, hr]
    rw [e]; clear e h
    rw [hr] at c2x hK
    go_enter Try.func41, Try.ntmps41
    go_wp2
    go_ret
    exact ⟨rfl, hK⟩
  | cons r l =>
    have h0 : x.run = -1 := by rcases h with h | h
                               · rw [hr] at h; exact absurd h (by simp)
                               · exact h
    have e : dueB ts x = true := by simp [dueB, hr, h0]
    rw [e]; clear e h
    rw [h0] at c0 hK
    have hp : 0 < x.ready.length := by rw [hr]; simp
    generalize x.ready.length = n at *
    have hp0 : ((n : Int) == 0) = false := by simp; omega
    go_enter Try.func41, Try.ntmps41
    go_wp2
    go_ret
    exact ⟨rfl, hK⟩
set_option linter.unusedSimpArgs false in
set_option linter.unusedVariables false in
set_option maxHeartbeats 4000000 in
set_option maxRecDepth 100000 in
theorem due_run (a : Option Addr) (c : Nat) (a2 : Option Addr) (c2 : Nat) (qs : List Qu) (ts : List Th) (q : Int) (k : Nat) (x : Qu) (r m : Nat) (l : List Int) (f t : Th) (w : World) (hs : ScIn w a c a2 c2 qs ts) (hk : qs[k]? = some x)
    (hr : x.ready = (r : Int) :: l) (hn : x.run = (m : Int)) (hf : ts[r]? = some f) (ht : ts[m]? = some t) :
    Calls Try.prog 41 #[.agg #[.slice a qs.length c, .slice a2 ts.length c2, .int .i64 q], .int .i64 k] w fun e w' => e = .returned (.bool (dueB ts x)) ∧ Below w.heap.size w w' := by
  have hm := hs.v2.max
  have hm1 := hs.v1.max
  unfold maxLen at hm hm1
  have e : dueB ts x = (decide (t.pri < f.pri) || (x.left == 0 && f.pri == t.pri)) := by
    simp only [dueB, hr, hn, Int.toNat_natCast, hf, ht]
    rw [if_neg (by omega)]
  rw [e]; clear e
  obtain ⟨b, off, rfl, hb, c0, c1, ar, cr, c2x, hv, h5⟩ := hs.qu hk
  obtain ⟨b2, off2, rfl, hb2, f0, _, _⟩ := hs.th hf
  obtain ⟨b3, off3, e3, _, t0, _, _⟩ := hs.th ht
  obtain ⟨rfl, rfl⟩ : b2 = b3 ∧ off2 = off3 := by simpa using e3
  clear e3
  have hp : 0 < x.ready.length := by rw [hr]; simp
  obtain ⟨br, offr, rfl, hbr, hcr⟩ : ∃ b off : Nat, ar = some ⟨b, off, none⟩ ∧ b < w.heap.size ∧ ∀ (j : Nat) (x_1 : Value), (iV x.ready)[j]? = some x_1 → w.cell? ⟨b, off + j, none⟩ = some x_1 := by
    rcases h5 with h | h
    · rw [hr] at h; exact absurd h (by simp [iV])
    · exact h
  have r0 : w.cell? ⟨br, offr, none⟩ = some (.int .i64 r) := hcr 0 (.int .i64 r) (by rw [hr]; rfl)
  clear hcr h5
  have hkl : k < qs.length := (List.getElem?_eq_some_iff.1 hk).1
  have k0 : (0 : Int) ≤ (k : Int) := Int.natCast_nonneg _
  have k1 : (k : Int) < (qs.length : Int) := by omega
  have hrl : r < ts.length := (List.getElem?_eq_some_iff.1 hf).1
  have hml : m < ts.length := (List.getElem?_eq_some_iff.1 ht).1
  have r1 : (0 : Int) ≤ (r : Int) := Int.natCast_nonneg _
  have r2 : (r : Int) < (ts.length : Int) := by omega
  have m1 : (0 : Int) ≤ (m : Int) := Int.natCast_nonneg _
  have m2 : (m : Int) < (ts.length : Int) := by omega
  have hvm := hv.max
  unfold maxLen at hvm
  rw [hn] at c0
  clear hs hk hv hr hf ht hn hkl hrl hml
  have HK := ((Kw.start w).box (vs := [.slice (some ⟨b, off, none⟩) qs.length c, .slice (some ⟨b2, off2, none⟩) ts.length c2, .int .i64 q]) (t := 25)).box (vs := [.int .i64 m, .int .i64 x.left, .slice (some ⟨br, offr, none⟩) x.ready.length cr]) (t := 47)
  have hK := HK.base
  clear HK
  generalize x.ready.length = n at *
  generalize qs.length = nq at *
  generalize ts.length = nt at *
  generalize x.left = xl at *
  have hp0 : ((n : Int) == 0) = false := by simp; omega
  have hp1 : (0 : Int) < (n : Int) := by omega
  have hm0 : ((m : Int) == -1) = false := by simp
  by_cases g1 : t.pri < f.pri
  · have e : (decide (t.pri < f.pri) || (xl == 0 && f.pri == t.pri)) = true := by simp [g1]
    rw [e]; clear e
    go_enter Try.func41, Try.ntmps41
    go_wp2
    go_region
    go_wp2
    go_ret
    exact ⟨rfl, by first | exact hK | exact hK.drew | exact below_drewN hK _⟩
  · have e : (decide (t.pri < f.pri) || (xl == 0 && f.pri == t.pri)) = (xl == 0 && f.pri == t.pri) := by simp [g1]
    rw [e]; clear e
    cases g2 : xl == 0 with
    | false =>
      go_enter Try.func41, Try.ntmps41
      go_wp2
      go_region
      go_wp2
      go_ret
      exact ⟨by simp [g1], by first | exact hK | exact hK.drew | exact below_drewN hK _⟩
    | true =>
      cases g3 : f.pri == t.pri with
      | false =>
        go_enter Try.func41, Try.ntmps41
        go_wp2
        go_region
        go_wp2
        go_ret
        exact ⟨by simp [g1], by first | exact hK | exact hK.drew | exact below_drewN hK _⟩
      | true =>
        go_enter Try.func41, Try.ntmps41
        go_wp2
        go_region
        go_wp2
        go_ret
        exact ⟨rfl, by first | exact hK | exact hK.drew | exact below_drewN hK _⟩
end Go.Proofs.Ytggikbcgijmhbaa
