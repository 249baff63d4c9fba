/- WHAT IS PROVED: the law SchedHighest, walked. -/
import Derived.Test.YtggikbcgijmhbaaAc
import Derived.Test.YtggikbcgijmhbaaAd
import Derived.Test.YtggikbcgijmhbaaPu
set_option linter.unusedSimpArgs false
set_option linter.unusedVariables false
namespace Go.Proofs.Ytggikbcgijmhbaa
open Go Go.RowKit Go.QrBits Go.QrMem
set_option maxHeartbeats 4000000 in
set_option maxRecDepth 100000 in
theorem high_e (v0 v1 v2 : Value) (k er : Int) (w : World) (he : er = 50 ∨ er = 52) (hsw : ∀ W, Below w.heap.size w W → Calls Try.prog 22 #[.agg #[v0, v1, v2], .int .i64 k] W fun y w' => y = .returned (.tuple #[zSt, .int .i64 0, .int .i64 er]) ∧ Below W.heap.size W w') :
    Calls Try.prog 5 #[.agg #[v0, v1, v2], .int .i64 k] w fun y w' => y = .returned (.bool true) ∧ Below w.heap.size w w' := by
  have he0 : (er == 0) = false := by rcases he with rfl | rfl <;> rfl
  clear he
  have HK := (Kw.start w).box (vs := [v0, v1, v2]) (t := 25)
  have HSW := Lib.hid hsw
  clear hsw
  go_enter Try.func5, Try.ntmps5
  go_wp2_with fail
  refine (sane_c _).mono ?_
  rintro y w1 ⟨rfl, hq⟩
  replace HK := HK.below hq
  clear hq
  have p_0 := HK.get 0 0 rfl rfl
  have p_1 := HK.get 0 1 rfl rfl
  have p_2 := HK.get 0 2 rfl rfl
  go_wp2_with fail
  refine (HSW.out _ HK.base).mono ?_
  rintro y w2 ⟨rfl, hq⟩
  unfold zSt
  have hB := (HK.below hq).base
  clear HK hq p_0 p_1 p_2 HSW
  have hA := Below.tail hB (b_alloc (o := .cells #[.slice none 0 0, .slice none 0 0, .int .i64 0] 25) (Below.refl w2.heap.size w2))
  clear hB
  go_wp2
  go_ret
  exact ⟨rfl, hA⟩
set_option maxHeartbeats 8000000 in
set_option maxRecDepth 100000 in
theorem high_y (a : Option Addr) (c : Nat) (a2 : Option Addr) (c2 : Nat) (qs : List Qu) (ts : List Th) (q : Int) (k : Nat) (w : World) (hs : ScIn w a c a2 c2 qs ts) (hck : chkB qs ts q = true) (hk : k < qs.length) :
    Calls Try.prog 5 #[.agg #[.slice a qs.length c, .slice a2 ts.length c2, .int .i64 q], .int .i64 k] w fun y w' => y = .returned (.bool true) ∧ Below w.heap.size w w' := by
  have hok := ok_of_chk hck
  have hok2 : Ok (switchM ⟨qs, ts, q⟩ k) := switch_ok hok hk
  obtain ⟨hd, hidle, htop⟩ := high_ok hok hk
  have hlen : (switchM ⟨qs, ts, q⟩ k).qs.length = qs.length := switchM_n _ _
  have HS := Lib.hid hs
  have HSW := Lib.hid (fun w hs => switch_y a c a2 c2 qs ts q k w hs hck hk)
  generalize switchM ⟨qs, ts, q⟩ k = st at *
  have hk2 : k < st.qs.length := by omega
  have HDU := Lib.hid (fun g d b e w hs => dueF_y g d b e st.qs st.ts st.q k w hs (chk_of_ok hok2) hk2)
  have HU := Lib.hid (qu_some hk2)
  have HOK := Lib.hid hok2
  have hrun := fun hr => run_thr hok2 hk2 hr
  have hmem := hok2.rd k _ (qu_some hk2)
  have hn4 := hok2.n2
  have hm16 := hok2.m2
  have hl16 := short16 hok2 k _ (qu_some hk2)
  generalize quOf st.qs (k : Int) = u at *
  have HD := Lib.hid hd
  have HTOP := Lib.hid htop
  have HMEM := Lib.hid hmem
  have HIDLE := Lib.hid hidle
  have HRUN := Lib.hid hrun
  clear hs hck hok hok2 hd hlen htop hmem hidle hrun
  have k0 : (0 : Int) ≤ (k : Int) := Int.natCast_nonneg _
  have k1 : (k : Int) < (st.qs.length : Int) := by omega
  have HK := (Kw.start w).box (vs := [.slice a qs.length c, .slice a2 ts.length c2, .int .i64 q]) (t := 25)
  go_enter Try.func5, Try.ntmps5
  go_wp2_with fail
  refine (sane_c _).mono ?_
  rintro y w1 ⟨rfl, hq⟩
  replace HK := HK.below hq
  clear hq
  have p_0 := HK.get 0 0 rfl rfl
  have p_1 := HK.get 0 1 rfl rfl
  have p_2 := HK.get 0 2 rfl rfl
  go_wp2_with fail
  refine (HSW.out _ (HS.out.below HK.base)).mono ?_
  rintro y w2 ⟨g, d, b, e, rfl, hsc, hq, -⟩
  have HB := Lib.hid (HK.below hq).base
  clear HK hq p_0 p_1 p_2 HSW HS
  obtain ⟨gb, goff, hg, hgl, c0, c1, ar, cr, cx, hv, h5⟩ := hsc.qu HU.out
  obtain ⟨rfl, rfl⟩ : g = gb ∧ goff = 0 := by simp at hg; exact ⟨hg.1, hg.2.symm⟩
  clear hg
  simp only [Nat.zero_add] at c0 c1 cx
  have HSC := Lib.hid hsc
  have HK := ((Kw.start w2).box (vs := [.slice (some ⟨g, 0, none⟩) st.qs.length d, .slice b st.ts.length e, .int .i64 st.q]) (t := 25)).box (vs := [.int .i64 u.run, .int .i64 u.left, .slice ar u.ready.length cr]) (t := 47)
  have hvm := hv.max
  unfold maxLen at hvm
  have HDE := Lib.hid (show dueM ⟨st.qs, st.ts, st.q⟩ k = false from HD.out)
  by_cases hr : u.run = -1
  · have hempty := HIDLE.out hr
    rw [hr, hempty] at HK
    rw [hr] at c0
    rw [hempty] at cx
    rw [hr]
    go_wp2_with fail
    refine (HDU.out _ _ _ _ _ (HSC.out.below HK.base)).mono ?_
    rintro y w3 ⟨rfl, hq⟩
    rw [HDE.out]
    have HK3 := HK.below hq
    have e_0 := HK3.get 0 0 rfl rfl
    have e_2 := HK3.get 0 2 rfl rfl
    clear HK hq c0 c1 cx h5 hv
    simp only [World.size_alloc] at e_0 e_2
    go_wp2_with fail
    go_loopw [10] (fun i wr => i = .int .i64 0 ∧ wr = w3) (fun _ _ => 0)
    case atStart => exact ⟨rfl, rfl⟩
    case round =>
      obtain ⟨rfl, rfl⟩ := hrel
      have hA := Below.tail HB.out HK3.base
      clear HK3
      go_wp2
      go_ret
      exact ⟨rfl, hA⟩
  · obtain ⟨m, hm, hml, hmc, hms, _, _⟩ := HRUN.out hr
    obtain ⟨t, ht⟩ : ∃ t, st.ts[m]? = some t := ⟨_, List.getElem?_eq_getElem hml⟩
    obtain ⟨bb, oo, rfl, hbb, t0, t1, t2⟩ := hsc.th ht
    have htp : thOf st.ts (m : Int) = t := thOf_of ht
    have hm0 : ((m : Int) == -1) = false := by simp
    have m0 : (0 : Int) ≤ (m : Int) := Int.natCast_nonneg _
    have m1 : (m : Int) < (st.ts.length : Int) := by omega
    have HG : Hid (∀ i, i < u.ready.length → ∃ (j : Nat) (p : Int) (br orr : Nat), ar = some ⟨br, orr, none⟩ ∧ br < w2.heap.size ∧ w2.cell? ⟨br, orr + i, none⟩ = some (.int .i64 j) ∧ (j : Int) < (st.ts.length : Int) ∧ w2.cell? ⟨bb, oo + j * 3, none⟩ = some (.int .i64 p) ∧ p ≤ t.pri) := by
      refine Lib.hid fun i hi => ?_
      obtain ⟨j, hj, _, tj, htj, _, _⟩ := HMEM.out _ (List.getElem_mem hi)
      obtain ⟨b', o', e', _, g0, _, _⟩ := hsc.th htj
      obtain ⟨rfl, rfl⟩ : bb = b' ∧ oo = o' := by simpa using e'
      have hle := HTOP.out _ (List.getElem_mem hi)
      rw [hj, hm, htp, thOf_of htj] at hle
      rcases h5 with h | ⟨br, orr, har, hbr, hcr⟩
      · simp [iV] at h; rw [h] at hi; simp at hi
      · refine ⟨j, tj.pri, br, orr, har, hbr, ?_, by have := (List.getElem?_eq_some_iff.1 htj).1; omega, g0, hle⟩
        refine hcr i _ ?_
        simp [iV, List.getElem?_eq_getElem hi, hj]
    clear hr hml hmc hms ht t1 t2 htp h5 hsc hv HMEM HTOP HIDLE HRUN
    rw [hm] at HK c0
    rw [hm]
    generalize hn : u.ready.length = n at *
    clear hn
    go_wp2_with fail
    refine (HDU.out _ _ _ _ _ (HSC.out.below HK.base)).mono ?_
    rintro y w3 ⟨rfl, hq⟩
    rw [HDE.out]
    have HK3 := HK.below hq
    clear HK hq c0 c1 cx
    simp only [World.size_alloc] at HK3
    have e_0 := HK3.get 0 0 rfl rfl
    have e_2 := HK3.get 0 2 rfl rfl
    go_wp2_with fail
    clear e_0 e_2
    go_loopw [10] (fun i wr => ∃ (k : Nat) (wv : World), wv = wr ∧ k ≤ n ∧ i = .int .i64 k ∧ Kw [(w2.heap.size + 1, [.int .i64 m, .int .i64 u.left, .slice ar n cr], 47), (w2.heap.size, [.slice (some ⟨g, 0, none⟩) st.qs.length d, .slice (some ⟨bb, oo, none⟩) st.ts.length e, .int .i64 st.q], 25)] w2 wv) (fun i _ => n - (intOf i).toNat)
    case atStart => exact ⟨0, _, rfl, Nat.zero_le _, rfl, HK3⟩
    case round =>
      clear HK3
      obtain ⟨k, wv, hw, hk, rfl, HK⟩ := hrel
      subst hw
      have e_2 := HK.get 0 2 rfl rfl
      have f_1 := HK.get 1 1 rfl rfl
      by_cases hlt : k < n
      · obtain ⟨j, p, br, orr, rfl, hbr, g1, hj, g2, hp⟩ := HG.out k hlt
        have e3 := (HK.base.cell (p := ⟨br, orr + k, none⟩) hbr).trans g1
        have e4 := (HK.base.cell (p := ⟨bb, oo + j * 3, none⟩) hbb).trans g2
        have e5 := (HK.base.cell (p := ⟨bb, oo + m * 3, none⟩) hbb).trans t0
        have kk0 : (0 : Int) ≤ (k : Int) := Int.natCast_nonneg _
        have kk1 : (k : Int) < (n : Int) := by omega
        have j0 : (0 : Int) ≤ (j : Int) := Int.natCast_nonneg _
        clear hlt g1 g2 t0
        go_wp2
        go_region
        go_wp2
        go_roundw
        case rel => exact ⟨k + 1, _, rfl, by omega, by go_num, by first | exact HK | exact HK.below ((Below.refl _ _).drew) | exact HK.below (below_drewN (Below.refl _ _) _)⟩
        case measure => simp [intOf]; omega
      · have hkn : k = n := by omega
        subst hkn
        have hA := Below.tail HB.out HK.base
        clear HK hlt
        go_wp2
        go_ret
        exact ⟨rfl, hA⟩
theorem highest_walk (a : Option Addr) (c : Nat) (a2 : Option Addr) (c2 : Nat) (qs : List Qu) (ts : List Th) (q k : Int) (w : World) (hs : ScIn w a c a2 c2 qs ts) :
    Calls Try.prog 5 #[.agg #[.slice a qs.length c, .slice a2 ts.length c2, .int .i64 q], .int .i64 k] w fun y w' => y = .returned (.bool true) ∧ Below w.heap.size w w' := by
  cases hck : chkB qs ts q with
  | false => exact high_e _ _ _ k 50 w (.inl rfl) fun W hW => switch_n a c a2 c2 qs ts q k W (hs.below hW) hck
  | true =>
    cases hk : inB k 0 ((qs.length : Int) - 1) with
    | false => exact high_e _ _ _ k 52 w (.inr rfl) fun W hW => switch_p a c a2 c2 qs ts q k W (hs.below hW) hck hk
    | true =>
      obtain ⟨h1, h2⟩ := inB_out hk
      obtain ⟨n, rfl⟩ : ∃ n : Nat, k = n := ⟨k.toNat, by omega⟩
      exact high_y a c a2 c2 qs ts q n w hs hck (by omega)
end Go.Proofs.Ytggikbcgijmhbaa
