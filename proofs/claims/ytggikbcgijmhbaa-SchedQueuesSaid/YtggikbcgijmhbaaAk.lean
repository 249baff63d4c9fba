/- WHAT IS PROVED: the law SchedQueues, walked. -/
import Derived.Test.YtggikbcgijmhbaaAc
import Derived.Test.YtggikbcgijmhbaaAh
import Derived.Test.YtggikbcgijmhbaaAj
import Derived.Test.YtggikbcgijmhbaaPu
set_option linter.unusedSimpArgs false
set_option linter.unusedVariables false
namespace Go.Proofs.Ytggikbcgijmhbaa
open Go Go.RowKit Go.QrBits Go.QrMem
set_option maxHeartbeats 8000000 in
set_option maxRecDepth 100000 in
theorem que_e (v0 v1 v2 : Value) (k er : Int) (w : World) (he : er = 50 ∨ er = 51) (hsw : ∀ W, Below w.heap.size w W → Calls Try.prog 25 #[.agg #[v0, v1, v2], .int .i64 k] W fun y w' => y = .returned (.tuple #[zSt, .int .i64 er]) ∧ Below W.heap.size W w') :
    Calls Try.prog 10 #[.agg #[v0, v1, v2], .int .i64 k] w fun y w' => y = .returned (.bool true) ∧ Below w.heap.size w w' := by
  have HK := (Kw.start w).box (vs := [v0, v1, v2]) (t := 25)
  have HSW := Lib.hid hsw
  clear hsw
  rcases he with rfl | rfl
  all_goals
    go_enter Try.func10, Try.ntmps10
    go_wp2_with fail
    refine (sane_c _).mono ?_
    rintro y w1 ⟨rfl, hq⟩
    replace HK := HK.below hq
    clear hq
    have p_0 := HK.get 0 0 rfl rfl
    have p_1 := HK.get 0 1 rfl rfl
    have p_2 := HK.get 0 2 rfl rfl
    go_wp2_with fail
    refine (HSW.out _ HK.base).mono ?_
    rintro y w2 ⟨rfl, hq⟩
    unfold zSt
    have hB := (HK.below hq).base
    clear HK hq p_0 p_1 p_2 HSW
    have hA := Below.tail hB (b_alloc (o := .cells #[.slice none 0 0, .slice none 0 0, .int .i64 0] 25) (Below.refl w2.heap.size w2))
    clear hB
    go_wp2
    go_ret
    exact ⟨rfl, hA⟩
set_option maxHeartbeats 8000000 in
set_option maxRecDepth 100000 in
theorem que_y (a : Option Addr) (c : Nat) (a2 : Option Addr) (c2 : Nat) (qs : List Qu) (ts : List Th) (q : Int) (k : Nat) (w : World) (hs : ScIn w a c a2 c2 qs ts) (hck : chkB qs ts q = true) (hk : k < ts.length) (hst : (thOf ts (k : Int)).st = 1 ∨ (thOf ts (k : Int)).st = 2) :
    Calls Try.prog 10 #[.agg #[.slice a qs.length c, .slice a2 ts.length c2, .int .i64 q], .int .i64 k] w fun y w' => y = .returned (.bool true) ∧ Below w.heap.size w w' := by
  have hok := ok_of_chk hck
  have hokb : Ok (leaveM ⟨qs, ts, q⟩ k 3) := nowhere_ok hok hk (.inl rfl)
  have hxy : leaveM (leaveM ⟨qs, ts, q⟩ k 3) k 4 = leaveM ⟨qs, ts, q⟩ k 4 := leave_leave hok hk 3 4
  have hkb : k < (leaveM ⟨qs, ts, q⟩ k 3).ts.length := by rw [leaveM_m]; exact hk
  have hthb : thOf (leaveM ⟨qs, ts, q⟩ k 3).ts (k : Int) = { (thOf ts (k : Int)) with st := 3 } := by rw [leaveM_th hk]; simp
  have hsb : (thOf (leaveM ⟨qs, ts, q⟩ k 3).ts (k : Int)).st = 3 := by rw [hthb]
  obtain ⟨cu, hcu, hcl⟩ := hok.cpu hk
  have hcb : (thOf (leaveM ⟨qs, ts, q⟩ k 3).ts (k : Int)).cpu = cu := by rw [hthb]; exact hcu
  have hclb : cu < (leaveM ⟨qs, ts, q⟩ k 3).qs.length := by rw [leaveM_n]; exact hcl
  have HS := Lib.hid hs
  have HBK := Lib.hid (fun w hs => block_y a c a2 c2 qs ts q k w hs hck hk hst)
  have HE2 := Lib.hid (fun w hs => end_y a c a2 c2 qs ts q k w hs hck hk (by rcases hst with h | h; exact .inl h; exact .inr (.inl h)))
  rw [← hxy] at HE2
  generalize leaveM ⟨qs, ts, q⟩ k 3 = sb at *
  have HE1 := Lib.hid (fun g d b e w hs => end_y g d b e sb.qs sb.ts sb.q k w hs (chk_of_ok hokb) hkb (.inr (.inr hsb)))
  have HWK := Lib.hid (fun g d b e w hs => wake_y g d b e sb.qs sb.ts sb.q k w hs (chk_of_ok hokb) cu hkb hcb hsb)
  have hokw : Ok (toEndM sb k) := toEnd_ok hokb (.inl rfl) hkb
  have hkw : k < (toEndM sb k).ts.length := by show k < (enterM sb k _).ts.length; rw [enterM_m]; exact hkb
  have hclw : cu < (toEndM sb k).qs.length := by show cu < (enterM sb k _).qs.length; rw [enterM_n]; exact hclb
  have hthw : thOf (toEndM sb k).ts (k : Int) = { (thOf sb.ts (k : Int)) with st := 1 } := by
    show thOf (enterM sb k _).ts (k : Int) = _
    rw [enterM_th _ hkb]; simp
  obtain ⟨A, Bs, hab, hna, hnb, hf1, hf2⟩ := wake_ok hokb hkb hcb (by rw [hsb]; decide)
  have hsame := setPri_same hokb hkb (by rw [hsb]; decide)
  have hpr := hokw.th _ _ (th_some hkw)
  have HSP := Lib.hid (fun g d b e w hs => setPri_y g d b e (toEndM sb k).qs (toEndM sb k).ts (toEndM sb k).q k (thOf (toEndM sb k).ts (k : Int)).pri w hs (chk_of_ok hokw) hkw ⟨.inl (by rw [hthw]), inB_in ⟨hpr.1, hpr.2.1⟩⟩)
  rw [show setPriM ⟨(toEndM sb k).qs, (toEndM sb k).ts, (toEndM sb k).q⟩ k (thOf (toEndM sb k).ts (k : Int)).pri = toEndM sb k from hsame] at HSP
  have hcw : (thOf (toEndM sb k).ts (k : Int)).cpu = cu := by rw [hthw]; exact hcb
  generalize hdue : dueM (toEndM ⟨sb.qs, sb.ts, sb.q⟩ k) cu = du at *
  have HWK' : Hid (∀ g d b e w, ScIn w g d b e sb.qs sb.ts → Calls Try.prog 26 #[.agg #[.slice g sb.qs.length d, .slice b sb.ts.length e, .int .i64 sb.q], .int .i64 k] w (Res3 (toEndM sb k) (.bool du) w)) := HWK
  clear HWK hdue
  generalize toEndM sb k = sw at *
  generalize leaveM sb k 4 = sx at *
  have HSX := Lib.hid (fun a d b e a' d' b' e' w h1 h2 => same19_c a d b e sx.qs sx.ts sx.q a' d' b' e' sx.qs sx.ts sx.q w h1 h2)
  have HSW := Lib.hid (fun a d b e a' d' b' e' w h1 h2 => same19_c a d b e sw.qs sw.ts sw.q a' d' b' e' sw.qs sw.ts sw.q w h1 h2)
  rw [smB_self] at HSX HSW
  have hmem := hokw.rd cu _ (qu_some hclw)
  have hl16 := short16 hokw cu _ (qu_some hclw)
  have hu := qu_some hclw
  generalize quOf sw.qs (cu : Int) = u at *
  have ht := th_some hkw
  have hn4 := hokw.n2
  have hm16 := hokw.m2
  generalize htk : thOf sw.ts (k : Int) = tk at *
  have HMEM := Lib.hid hmem
  have HAB := Lib.hid hab
  have HNA := Lib.hid hna
  have HNB := Lib.hid hnb
  have HF1 := Lib.hid hf1
  have HF2 := Lib.hid hf2
  have HU := Lib.hid hu
  have HT := Lib.hid ht
  have HCW := Lib.hid hcw
  have HLR := Lib.hid (show u.ready.length = A.length + 1 + Bs.length by rw [hab]; simp; omega)
  have k0 : (0 : Int) ≤ (k : Int) := Int.natCast_nonneg _
  have k1 : (k : Int) < (sw.ts.length : Int) := by omega
  have cu0 : (0 : Int) ≤ (cu : Int) := Int.natCast_nonneg _
  have cu1 : (cu : Int) < (sw.qs.length : Int) := by omega
  clear hs hck hok hokb hxy hkb hthb hsb hcb hclb hokw hthw hsame hpr hmem hab hna hnb hf1 hf2 hu ht hcw hst hcu hcl htk
  have HK := (Kw.start w).box (vs := [.slice a qs.length c, .slice a2 ts.length c2, .int .i64 q]) (t := 25)
  go_enter Try.func10, Try.ntmps10
  go_wp2_with fail
  refine (sane_c _).mono ?_
  rintro y w1 ⟨rfl, hq⟩
  replace HK := HK.below hq
  clear hq
  have p_0 := HK.get 0 0 rfl rfl
  have p_1 := HK.get 0 1 rfl rfl
  have p_2 := HK.get 0 2 rfl rfl
  go_wp2_with fail
  refine (HBK.out _ (HS.out.below HK.base)).mono ?_
  rintro y w2 ⟨g1, d1, b1, e1, rfl, hsc, hq, -⟩
  -- the blocked state lies in a variable
  have hal := b_alloc (o := .cells #[.slice (some ⟨g1, 0, none⟩) sb.qs.length d1, .slice b1 sb.ts.length e1, .int .i64 sb.q] 25) (Below.refl w2.heap.size w2)
  replace HK := (HK.below hq).box (vs := [.slice (some ⟨g1, 0, none⟩) sb.qs.length d1, .slice b1 sb.ts.length e1, .int .i64 sb.q]) (t := 25)
  have HS1 := Lib.hid (hsc.below hal)
  clear hq p_0 p_1 p_2 hsc hal HBK
  go_upto_region 5 with fail
  generalize (w2.alloc (.cells #[.slice (some ⟨g1, 0, none⟩) sb.qs.length d1, .slice b1 sb.ts.length e1, .int .i64 sb.q] 25)) = W2 at *
  generalize w2.heap.size = x6 at *
  have p_0 := HK.get 0 0 rfl rfl
  have p_1 := HK.get 0 1 rfl rfl
  have p_2 := HK.get 0 2 rfl rfl
  go_wp2_with fail
  refine (HWK'.out _ _ _ _ _ HS1.out).mono ?_
  rintro y w3 ⟨g2, d2, b2, e2, rfl, hsc, hq, -⟩
  have HX80 := Lib.hid (show w.heap.size ≤ w3.heap.size from Nat.le_trans HK.base.size hq.size)
  have hal := b_alloc (o := .cells #[.slice (some ⟨g2, 0, none⟩) sw.qs.length d2, .slice b2 sw.ts.length e2, .int .i64 sw.q] 25) (Below.refl w3.heap.size w3)
  replace HK := (HK.below hq).box (vs := [.slice (some ⟨g2, 0, none⟩) sw.qs.length d2, .slice b2 sw.ts.length e2, .int .i64 sw.q]) (t := 25)
  replace HS1 := Lib.hid (HS1.out.below (Below.tail hq hal))
  have HS2 := Lib.hid (hsc.below hal)
  clear hq p_0 p_1 p_2 hsc hal HWK'
  go_upto_region 6 with fail
  generalize (w3.alloc (.cells #[.slice (some ⟨g2, 0, none⟩) sw.qs.length d2, .slice b2 sw.ts.length e2, .int .i64 sw.q] 25)) = W3 at *
  have HX8 := Lib.hid (show w.heap.size ≤ w3.heap.size from HX80.out)
  generalize w3.heap.size = x8 at *
  have p_0 := HK.get 1 0 rfl rfl
  have p_1 := HK.get 1 1 rfl rfl
  have p_2 := HK.get 1 2 rfl rfl
  go_wp2_with fail
  refine (HE1.out _ _ _ _ _ HS1.out).mono ?_
  rintro y w4 ⟨g3, d3, b3, e3, rfl, hsc, hq, -⟩
  have hal := b_alloc (o := .cells #[.slice (some ⟨g3, 0, none⟩) sx.qs.length d3, .slice b3 sx.ts.length e3, .int .i64 sx.q] 25) (Below.refl w4.heap.size w4)
  replace HK := (HK.below hq).box (vs := [.slice (some ⟨g3, 0, none⟩) sx.qs.length d3, .slice b3 sx.ts.length e3, .int .i64 sx.q]) (t := 25)
  replace HS2 := Lib.hid (HS2.out.below (Below.tail hq hal))
  have HS3 := Lib.hid (hsc.below hal)
  clear hq p_0 p_1 p_2 hsc hal HE1 HS1
  go_upto_region 7 with fail
  generalize (w4.alloc (.cells #[.slice (some ⟨g3, 0, none⟩) sx.qs.length d3, .slice b3 sx.ts.length e3, .int .i64 sx.q] 25)) = W4 at *
  generalize w4.heap.size = x11 at *
  have p_0 := HK.get 3 0 rfl rfl
  have p_1 := HK.get 3 1 rfl rfl
  have p_2 := HK.get 3 2 rfl rfl
  go_wp2_with fail
  refine (HE2.out _ (HS.out.below HK.base)).mono ?_
  rintro y w5 ⟨g4, d4, b4, e4, rfl, hsc, hq, -⟩
  have hal := b_alloc (o := .cells #[.slice (some ⟨g4, 0, none⟩) sx.qs.length d4, .slice b4 sx.ts.length e4, .int .i64 sx.q] 25) (Below.refl w5.heap.size w5)
  replace HK := (HK.below hq).box (vs := [.slice (some ⟨g4, 0, none⟩) sx.qs.length d4, .slice b4 sx.ts.length e4, .int .i64 sx.q]) (t := 25)
  replace HS2 := Lib.hid (HS2.out.below (Below.tail hq hal))
  replace HS3 := Lib.hid (HS3.out.below (Below.tail hq hal))
  have HS4 := Lib.hid (hsc.below hal)
  clear hq p_0 p_1 p_2 hsc hal HE2
  go_upto_region 8 with fail
  generalize (w5.alloc (.cells #[.slice (some ⟨g4, 0, none⟩) sx.qs.length d4, .slice b4 sx.ts.length e4, .int .i64 sx.q] 25)) = W5 at *
  generalize w5.heap.size = x13 at *
  have p_0 := HK.get 1 0 rfl rfl
  have p_1 := HK.get 1 1 rfl rfl
  have p_2 := HK.get 1 2 rfl rfl
  have q_0 := HK.get 0 0 rfl rfl
  have q_1 := HK.get 0 1 rfl rfl
  have q_2 := HK.get 0 2 rfl rfl
  go_wp2_with fail
  refine (HSX.out _ _ _ _ _ _ _ _ _ HS3.out HS4.out).mono ?_
  rintro y w6 ⟨rfl, hq⟩
  replace HK := HK.below hq
  have hsc := HS2.out.below hq
  have HB := Lib.hid HK.base
  have HR8 := Lib.hid (HK.row 2 rfl)
  clear hq p_0 p_1 p_2 q_0 q_1 q_2 HSX HS3 HS4 HS HK
  have HS2 := Lib.hid hsc
  -- the queue of the woken thread
  obtain ⟨gb, goff, hg, hgl, c_0, c_1, ar, cr, c_x, hv, h5⟩ := hsc.qu HU.out
  obtain ⟨rfl, rfl⟩ : g2 = gb ∧ goff = 0 := by simp at hg; exact ⟨hg.1, hg.2.symm⟩
  clear hg
  obtain ⟨bb, oo, rfl, hbb, t_0, t_1, t_2⟩ := hsc.th HT.out
  rw [HCW.out] at t_1
  simp only [Nat.zero_add] at c_x
  obtain ⟨p_0, p_1, p_2, _, _, _, xl⟩ := row3 HR8.out
  have hx8 : w.heap.size ≤ x8 := HX8.out
  have HG : Hid (∀ i, i < u.ready.length → ∃ (j : Nat) (p : Int) (br orr : Nat), ar = some ⟨br, orr, none⟩ ∧ br < w6.heap.size ∧ w6.cell? ⟨br, orr + i, none⟩ = some (.int .i64 j) ∧ (j : Int) < (sw.ts.length : Int) ∧ w6.cell? ⟨bb, oo + j * 3, none⟩ = some (.int .i64 p) ∧ ((j : Int) == (k : Int)) = decide (i = A.length) ∧ (i < A.length → tk.pri ≤ p) ∧ (A.length < i → p < tk.pri)) := by
    refine Lib.hid fun i hi => ?_
    obtain ⟨j, hj, _, tj, htj, _, _⟩ := HMEM.out _ (List.getElem_mem hi)
    obtain ⟨b', o', e', _, g0, _, _⟩ := hsc.th htj
    obtain ⟨rfl, rfl⟩ : bb = b' ∧ oo = o' := by simpa using e'
    have hpj : (thOf sw.ts (j : Int)).pri = tj.pri := by rw [thOf_of htj]
    have hget : u.ready[i]? = some (j : Int) := by rw [List.getElem?_eq_getElem hi, hj]
    rw [HAB.out] at hget
    rcases h5 with h | ⟨br, orr, har, hbr, hcr⟩
    · simp [iV] at h; rw [h] at hi; simp at hi
    · refine ⟨j, tj.pri, br, orr, har, hbr, ?_, by have := (List.getElem?_eq_some_iff.1 htj).1; omega, g0, ?_, ?_, ?_⟩
      · refine hcr i _ ?_
        simp [iV, List.getElem?_eq_getElem hi, hj]
      · rcases Nat.lt_trichotomy i A.length with hlt | rfl | hgt
        · rw [List.getElem?_append_left hlt] at hget
          have : (j : Int) ∈ A := List.mem_of_getElem? hget
          have hne : (j : Int) ≠ (k : Int) := fun e => HNA.out (by rw [← e]; exact this)
          rw [decide_eq_false (by omega)]; simpa using hne
        · rw [List.getElem?_append_right (Nat.le_refl _)] at hget
          simp at hget; simp [hget]
        · rw [List.getElem?_append_right (by omega)] at hget
          obtain ⟨i', hi'⟩ : ∃ i', i - A.length = i' + 1 := ⟨i - A.length - 1, by omega⟩
          rw [hi', List.getElem?_cons_succ] at hget
          have : (j : Int) ∈ Bs := List.mem_of_getElem? hget
          have hne : (j : Int) ≠ (k : Int) := fun e => HNB.out (by rw [← e]; exact this)
          rw [decide_eq_false (by omega)]; simpa using hne
      · intro hlt
        rw [List.getElem?_append_left hlt] at hget
        have := HF1.out _ (List.mem_of_getElem? hget)
        rw [hpj] at this; exact this
      · intro hgt
        rw [List.getElem?_append_right (by omega)] at hget
        obtain ⟨i', hi'⟩ : ∃ i', i - A.length = i' + 1 := ⟨i - A.length - 1, by omega⟩
        rw [hi', List.getElem?_cons_succ] at hget
        have := HF2.out _ (List.mem_of_getElem? hget)
        rw [hpj] at this; exact this
  have hvm := hv.max
  unfold maxLen at hvm
  clear hsc hv h5 HF1 HF2 HNA HNB HAB HMEM HU HT HCW c_0 c_1 t_2
  generalize u.ready.length = n at *
  generalize hia : A.length = ia at *
  generalize tk.pri = pk at *
  have hm2 : sw.ts.length ≤ 9223372036854775807 := by omega
  go_wp2
  go_region
  go_wp2_with fail
  clear p_0 p_1 p_2
  go_loopw [17, 18] (fun sn i wr => ∃ (j : Nat) (wv : World), wv = wr ∧ j ≤ n ∧ i = .int .i64 j ∧ sn = .bool (decide (ia < j)) ∧ Below w6.heap.size w6 wv) (fun _ i _ => n - (intOf i).toNat)
  case atStart => exact ⟨0, _, rfl, Nat.zero_le _, rfl, by simp, by first | exact Below.refl _ _ | exact (Below.refl _ _).drew | exact below_drewN (Below.refl _ _) _⟩
  case round =>
    clear t_0 t_1 c_x
    obtain ⟨i, wv, hw, hi, rfl, rfl, hB6⟩ := hrel
    subst hw
    obtain ⟨p_0, p_1, p_2, _, _, _, xl'⟩ := row3 ((hB6.block _ xl).trans HR8.out)
    by_cases hlt : i < n
    · obtain ⟨j, p, br, orr, rfl, hbr, g1, hj, g2, hq1, hA1, hA2⟩ := HG.out i hlt
      have e3 := (hB6.cell (p := ⟨br, orr + i, none⟩) hbr).trans g1
      have e4 := (hB6.cell (p := ⟨bb, oo + j * 3, none⟩) hbb).trans g2
      have i0 : (0 : Int) ≤ (i : Int) := Int.natCast_nonneg _
      have i1 : (i : Int) < (n : Int) := by omega
      have j0 : (0 : Int) ≤ (j : Int) := Int.natCast_nonneg _
      have HBB := Lib.hid hB6
      rcases Nat.lt_trichotomy i ia with h | h | h
      · have hq2 : ((j : Int) == (k : Int)) = false := by rw [hq1]; simp; omega
        have hge : pk ≤ p := hA1 h
        have hs0 : decide (ia < i) = false := by simp; omega
        have HH := Lib.hid h
        rw [hs0]
        clear g1 g2 hq1 hA1 hA2 h hs0 hB6 hlt
        go_wp2
        go_region
        go_wp2
        go_roundw
        case rel => exact ⟨i + 1, _, rfl, by omega, by go_num, by have := HH.out; rw [decide_eq_false (show ¬ ia < i + 1 by omega)], by have hB := HBB.out; first | exact hB | exact hB.drew | exact below_drewN hB _⟩
        case measure => simp [intOf]; omega
      · have hq2 : ((j : Int) == (k : Int)) = true := by rw [hq1]; simpa using h
        have HH := Lib.hid h
        have hs0 : decide (ia < i) = false := by simp; omega
        rw [hs0]
        clear g1 g2 hq1 hA1 hA2 h hs0 hB6 hlt
        go_wp2
        go_roundw
        case rel => exact ⟨i + 1, _, rfl, by omega, by go_num, by have := HH.out; rw [decide_eq_true (show ia < i + 1 by omega)], by have hB := HBB.out; first | exact hB | exact hB.drew | exact below_drewN hB _⟩
        case measure => simp [intOf]; omega
      · have hq2 : ((j : Int) == (k : Int)) = false := by rw [hq1]; simp; omega
        have hge : ¬ pk ≤ p := by have := hA2 h; omega
        have hs0 : decide (ia < i) = true := by simp; omega
        have HH := Lib.hid h
        rw [hs0]
        clear g1 g2 hq1 hA1 hA2 h hs0 hB6 hlt
        go_wp2
        go_region
        go_wp2
        go_roundw
        case rel => exact ⟨i + 1, _, rfl, by omega, by go_num, by have := HH.out; rw [decide_eq_true (show ia < i + 1 by omega)], by have hB := HBB.out; first | exact hB | exact hB.drew | exact below_drewN hB _⟩
        case measure => simp [intOf]; omega
    · obtain rfl : i = n := by omega
      rw [decide_eq_true (show ia < i by have := HLR.out; omega)]
      have HBB := Lib.hid (HB.out.trans (hB6.mono (Nat.le_of_lt (Nat.lt_of_le_of_lt hx8 xl))))
      have HSN := Lib.hid (HS2.out.below hB6)
      have HR9 := Lib.hid ((hB6.block _ xl).trans HR8.out)
      clear hB6 hlt HG HR8 HS2 HB
      go_wp2_with fail
      refine (HSP.out _ _ _ _ _ HSN.out).mono ?_
      rintro y w7 ⟨g5, d5, b5, e5, rfl, hsc, hq, -⟩
      have hal := b_alloc (o := .cells #[.slice (some ⟨g5, 0, none⟩) sw.qs.length d5, .slice b5 sw.ts.length e5, .int .i64 sw.q] 25) (Below.refl w7.heap.size w7)
      have hbl := Below.tail hq hal
      have h9 := (hbl.block _ xl').trans HR9.out
      have hnew := heap_alloc_new w7 (.cells #[.slice (some ⟨g5, 0, none⟩) sw.qs.length d5, .slice b5 sw.ts.length e5, .int .i64 sw.q] 25)
      have HS5 := Lib.hid (hsc.below hal)
      have HS6 := Lib.hid (HSN.out.below hbl)
      have HBZ := Lib.hid (HBB.out.trans (hbl.mono (Nat.le_of_lt (Nat.lt_of_le_of_lt hx8 xl'))))
      clear hq p_0 p_1 p_2 hsc hal HSP HSN hbl HR9 HBB
      go_upto_region 21 with fail
      generalize (w7.alloc (.cells #[.slice (some ⟨g5, 0, none⟩) sw.qs.length d5, .slice b5 sw.ts.length e5, .int .i64 sw.q] 25)) = W7 at *
      generalize w7.heap.size = x19 at *
      obtain ⟨p_0, p_1, p_2, _, _, _, xl2⟩ := row3 h9
      obtain ⟨q_0, q_1, q_2, _, _, _, xl3⟩ := row3 hnew
      go_wp2_with fail
      refine (HSW.out _ _ _ _ _ _ _ _ _ HS5.out HS6.out).mono ?_
      rintro y w8 ⟨rfl, hq⟩
      have hA := HBZ.out.trans (hq.mono (Nat.le_of_lt (Nat.lt_of_le_of_lt hx8 xl2)))
      clear HBZ hq p_0 p_1 p_2 q_0 q_1 q_2 h9 hnew HS5 HS6
      go_wp2
      go_ret
      exact ⟨rfl, hA⟩
theorem queues_walk (a : Option Addr) (c : Nat) (a2 : Option Addr) (c2 : Nat) (qs : List Qu) (ts : List Th) (q k : Int) (w : World) (hs : ScIn w a c a2 c2 qs ts) :
    Calls Try.prog 10 #[.agg #[.slice a qs.length c, .slice a2 ts.length c2, .int .i64 q], .int .i64 k] w fun y w' => y = .returned (.bool true) ∧ Below w.heap.size w w' := by
  cases hck : chkB qs ts q with
  | false => exact que_e _ _ _ k 50 w (.inl rfl) fun W hW => block_n a c a2 c2 qs ts q k W (hs.below hW) hck
  | true =>
    cases hk : inB k 0 ((ts.length : Int) - 1) with
    | false => exact que_e _ _ _ k 51 w (.inr rfl) fun W hW => block_p a c a2 c2 qs ts q k W (hs.below hW) hck (.inl hk)
    | true =>
      obtain ⟨h1, h2⟩ := inB_out hk
      obtain ⟨n, rfl⟩ : ∃ n : Nat, k = n := ⟨k.toNat, by omega⟩
      have hn : n < ts.length := by omega
      by_cases hst : (thOf ts (n : Int)).st = 1 ∨ (thOf ts (n : Int)).st = 2
      · exact que_y a c a2 c2 qs ts q n w hs hck hn hst
      · refine que_e _ _ _ n 51 w (.inr rfl) fun W hW => block_p a c a2 c2 qs ts q n W (hs.below hW) hck (.inr ⟨n, rfl, hn, ?_⟩)
        simp only [not_or] at hst
        simp [hst.1, hst.2]
end Go.Proofs.Ytggikbcgijmhbaa
